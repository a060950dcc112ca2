/- Decode, whatever the bytes. Bounds: at most 800000 bytes. No condition. -/
import Derived.Test.YtablocpcgknmaaaGreatDoorRM3
import Derived.Test.YtablocpcgknmaaaGreatDoorRM1
namespace Go.Proofs.YtablocpcgknmaaaGreatDoor
open Go.Lib (hid)
open Go Go.RowKit
set_option linter.unusedVariables false
set_option linter.unusedSimpArgs false
set_option maxRecDepth 100000

theorem Rd.bz {w : World} {rb : Nat} {zs : List Int} {f : Bool} (h : Rd w rb zs f) (hl : zs.length ≤ 800000) : BZ zs := by
  obtain ⟨A, c, _, h2⟩ := h
  exact ⟨h2.bd, hl⟩
theorem tsn_kp {w w' : World} {B : Nat} {A : Option Addr} {n c : Nat} {l : List ByteArray} (h : Cd.TsN B w A n c l) {rb : Nat} {zs : List Int} {f : Bool} (hr : Rd w rb zs f) (hk : Kp rb w w') : Cd.TsN B w' A n c l := ⟨h.1.kpR hr hk, h.2⟩
theorem tsn_below {w w' : World} {B : Nat} {A : Option Addr} {n c : Nat} {l : List ByteArray} (h : Cd.TsN B w A n c l) (hb : Below w.heap.size w w') : Cd.TsN B w' A n c l := ⟨h.1.below hb, h.2⟩
theorem tsn_low {w : World} {B B' : Nat} {A : Option Addr} {n c : Nat} {l : List ByteArray} (h : Cd.TsN B w A n c l) (hB : B' < B) : Cd.TsN (B' + 1) w A n c l := ⟨h.1, fun b off e => by have := h.2 b off e; omega⟩
set_option maxHeartbeats 32000000 in
theorem decode30 (zs z1 z2 z3 z4 z5 z6 z7 : List Int) (f1 f2 f3 f4 f5 f6 f7 : Bool) (x0 x4 : ByteArray) (x1 x2 : Int) (x3 : Bool) (x5 x6 : List ByteArray) (e0 : gtkT zs false = (x0, z1, f1)) (e1 : gtkI z1 f1 = (x1, z2, f2)) (e2 : gtkI z2 f2 = (x2, z3, f3)) (e3 : gtk Cd.gb (.bool false) z3 f3 = (.bool x3, z4, f4)) (e4 : gtkT z4 f4 = (x4, z5, f5)) (e5 : gtkL z5 f5 = (x5, z6, f6)) (e6 : gtkL z6 f6 = (x6, z7, f7))
    (hz : BZ zs) (A : Option Addr) (c : Nat) (w : World) (h : Cd.Sl w A zs.length c zs) : Calls Tryz.prog 138 #[.slice A zs.length c] w (DcG (dcE x0 x1 x2 x3 x4 x5 x6 (dcL z7 f7)) w) := by
  obtain ⟨rb, hrb⟩ : ∃ rb, rb = w.heap.size + 1 := ⟨_, rfl⟩
  have HRB := hid hrb
  have b0 := hz.gtkT false
  rw [e0] at b0
  have b1 := b0.2.gtkI f1
  rw [e1] at b1
  have b2 := b1.2.gtkI f2
  rw [e2] at b2
  have b3 := bz_gtkB b2.2 f3
  rw [e3] at b3
  have b4 := b3.gtkT f4
  rw [e4] at b4
  have b5 := b4.2.gtkL f5
  rw [e5] at b5
  have b6 := b5.2.gtkL f6
  rw [e6] at b6
  dsimp only at b0 b1 b2 b3 b4 b5 b6
  have HT0 := hid (fun y (hr : Rd y rb zs false) => by have := take_str rb zs false y hr hz.2; rw [gtk_str, e0] at this; exact this)
  have HT1 := hid (fun y (hr : Rd y rb z1 f1) => by have := take_int rb z1 f1 y hr b0.2.2; rw [gtk_int, e1] at this; exact this)
  have HT2 := hid (fun y (hr : Rd y rb z2 f2) => by have := take_int rb z2 f2 y hr b1.2.2; rw [gtk_int, e2] at this; exact this)
  have HT3 := hid (fun y (hr : Rd y rb z3 f3) => by have := take_bool rb z3 f3 y hr b2.2.2; rw [e3] at this; exact this)
  have HT4 := hid (fun y (hr : Rd y rb z4 f4) => by have := take_str rb z4 f4 y hr b3.2; rw [gtk_str, e4] at this; exact this)
  have HT5 := hid (fun y (hr : Rd y rb z5 f5) => by have := take_textsN rb z5 f5 y hr b4.2.2; rw [e5] at this; exact this)
  have HT6 := hid (fun y (hr : Rd y rb z6 f6) => by have := take_textsN rb z6 f6 y hr b5.2.2; rw [e6] at this; exact this)
  have HT7 := hid (fun y (hr : Rd y rb z7 f7) => decode71 rb z7 f7 y hr b6.2.2)
  have HX := hid (⟨b0.1, b1.1, b2.1, b4.1, b5.1, b6.1⟩ : x0.size ≤ 1000000 ∧ i64B x1 ∧ i64B x2 ∧ x4.size ≤ 1000000 ∧ x5.length ≤ 800000 ∧ x6.length ≤ 800000)
  have HZ7 := hid b6.2
  have XB := hid (blk_new2 w (.cells #[.string ⟨#[]⟩, .int .i64 0, .int .i64 0, .bool false, .string ⟨#[]⟩, .slice none 0 0, .slice none 0 0, .slice none 0 0, .slice none 0 0, .int .i64 0, .int .i64 0, .int .i64 0, .int .i64 0, .int .i64 0, .int .i64 0, .int .i64 0] 30) [.slice A zs.length c, .bool false] 89)
  have G0 := hid ((blk_new w [.string ⟨#[]⟩, .int .i64 0, .int .i64 0, .bool false, .string ⟨#[]⟩, .slice none 0 0, .slice none 0 0, .slice none 0 0, .slice none 0 0, .int .i64 0, .int .i64 0, .int .i64 0, .int .i64 0, .int .i64 0, .int .i64 0, .int .i64 0] 30).alloc (.cells #[.slice A zs.length c, .bool false] 89))
  have BA := hid (((Below.refl w.heap.size w).alloc (Nat.le_refl _) (.cells #[.string ⟨#[]⟩, .int .i64 0, .int .i64 0, .bool false, .string ⟨#[]⟩, .slice none 0 0, .slice none 0 0, .slice none 0 0, .slice none 0 0, .int .i64 0, .int .i64 0, .int .i64 0, .int .i64 0, .int .i64 0, .int .i64 0, .int .i64 0] 30)).alloc (by simp) (.cells #[.slice A zs.length c, .bool false] 89))
  rw [← hrb] at XB
  have R0 := hid (show Rd _ rb zs false from ⟨A, c, XB.out, h.below BA.out⟩)
  have WR := hid (show w.heap.size < rb by omega)
  have B0 := hid (Below.refl rb ((w.alloc (.cells #[.string ⟨#[]⟩, .int .i64 0, .int .i64 0, .bool false, .string ⟨#[]⟩, .slice none 0 0, .slice none 0 0, .slice none 0 0, .slice none 0 0, .int .i64 0, .int .i64 0, .int .i64 0, .int .i64 0, .int .i64 0, .int .i64 0, .int .i64 0] 30)).alloc (.cells #[.slice A zs.length c, .bool false] 89)))
  clear e0 e1 e2 e3 e4 e5 e6 h hrb XB hz b0 b1 b2 b3 b4 b5 b6
  generalize hW : (w.alloc (.cells #[.string ⟨#[]⟩, .int .i64 0, .int .i64 0, .bool false, .string ⟨#[]⟩, .slice none 0 0, .slice none 0 0, .slice none 0 0, .slice none 0 0, .int .i64 0, .int .i64 0, .int .i64 0, .int .i64 0, .int .i64 0, .int .i64 0, .int .i64 0] 30)).alloc (.cells #[.slice A zs.length c, .bool false] 89) = W0 at R0 G0 BA B0
  go_enter Tryz.func138, Tryz.ntmps138
  go_upto_region 2 with (fail)
  try rw [← HRB.out]
  go_wp2_with (first
    | (go_at_call 71; (with_reducible refine (HT0.out _ R0.out).mono ?_); rintro e y1 ⟨rfl, hr, hb, hk⟩; have R1 := hid hr; have G1 := hid (G0.out.kp (Nat.ne_of_lt WR.out) hk); have B1 := hid (B0.out.trans hb); clear hr hb hk)
    | (go_at_call 69; (with_reducible refine (HT1.out _ R1.out).mono ?_); rintro e y2 ⟨rfl, hr, hb, hk⟩; have R2 := hid hr; have G2 := hid (G1.out.kp (Nat.ne_of_lt WR.out) hk); have B2 := hid (B1.out.trans hb); clear hr hb hk)
    | (go_at_call 69; (with_reducible refine (HT2.out _ R2.out).mono ?_); rintro e y3 ⟨rfl, hr, hb, hk⟩; have R3 := hid hr; have G3 := hid (G2.out.kp (Nat.ne_of_lt WR.out) hk); have B3 := hid (B2.out.trans hb); clear hr hb hk)
    | (go_at_call 73; (with_reducible refine (HT3.out _ R3.out).mono ?_); rintro e y4 ⟨rfl, hr, hb, hk⟩; have R4 := hid hr; have G4 := hid (G3.out.kp (Nat.ne_of_lt WR.out) hk); have B4 := hid (B3.out.trans hb); clear hr hb hk)
    | (go_at_call 71; (with_reducible refine (HT4.out _ R4.out).mono ?_); rintro e y5 ⟨rfl, hr, hb, hk⟩; have R5 := hid hr; have G5 := hid (G4.out.kp (Nat.ne_of_lt WR.out) hk); have B5 := hid (B4.out.trans hb); clear hr hb hk)
    | (go_at_call 189; (with_reducible refine (HT5.out _ R5.out).mono ?_); rintro e y6 ⟨A5, c5, rfl, ht, hr, hb, hk⟩; have R6 := hid hr; have T5 := hid (tsn_low ht G5.out.lt); have G6 := hid (G5.out.kp (Nat.ne_of_lt WR.out) hk); have B6 := hid (B5.out.trans hb); clear hr hb hk ht)
    | (go_at_call 189; (with_reducible refine (HT6.out _ R6.out).mono ?_); rintro e y7 ⟨A6, c6, rfl, ht, hr, hb, hk⟩; have R7 := hid hr; have T6 := hid (tsn_low ht G6.out.lt); have T5b := hid (tsn_kp T5.out R6.out hk); have G7 := hid (G6.out.kp (Nat.ne_of_lt WR.out) hk); have B7 := hid (B6.out.trans hb); clear hr hb hk ht)
    | (go_at_call 191; (with_reducible refine (HT7.out _ R7.out).mono ?_); rintro e y8 ⟨⟨us, ks, d, a3, a4, a5, a6, a7, a8⟩, uA, uC, kA, kC, z9, f9, rfl, hr, hz, hb, hk, hd⟩; have R8 := hid hr; have G8 := hid (G7.out.kp (Nat.ne_of_lt WR.out) hk); have B8 := hid (B7.out.trans hb); have T5c := hid (tsn_kp T5b.out R7.out hk); have T6c := hid (tsn_kp T6.out R7.out hk); have HD := hid (hd.imp id (fun ⟨q1, q2, q3, q4⟩ => (⟨q1, q2, own_low q3 G7.out.lt, own_low q4 G7.out.lt⟩ : _ ∧ _ ∧ y8.ownsRow (w.heap.size + 1) 73 2 (.slice uA us.length uC) us.length (flat us.length (rowU (fU us))) ∧ y8.ownsRow (w.heap.size + 1) 131 2 (.slice kA ks.length kC) ks.length (flat ks.length (rowK (fK ks)))))); clear hr hz hb hk hd; obtain ⟨q, hq⟩ : ∃ q, (!f9 && decide (z9.length = 0)) = q := ⟨_, rfl⟩; have HQ := hid hq; clear hq; rw [show (lcs (⟨us, ks, d, a3, a4, a5, a6, a7, a8⟩ : Lv) uA uC kA kC).toArray = #[.slice uA us.length uC, .slice kA ks.length kC, .int .i64 d, .int .i64 a3, .int .i64 a4, .int .i64 a5, .int .i64 a6, .int .i64 a7, .int .i64 a8] from rfl])
    | (refine store_as rfl 30 _ _ rfl [.string ⟨#[]⟩, .int .i64 0, .int .i64 0, .bool false, .string ⟨#[]⟩, .slice none 0 0, .slice none 0 0, .slice none 0 0, .slice none 0 0, .int .i64 0, .int .i64 0, .int .i64 0, .int .i64 0, .int .i64 0, .int .i64 0, .int .i64 0] [.string x0, .int .i64 x1, .int .i64 x2, .bool x3, .string x4, .slice A5 x5.length c5, .slice A6 x6.length c6, .slice uA us.length uC, .slice kA ks.length kC, .int .i64 d, .int .i64 a3, .int .i64 a4, .int .i64 a5, .int .i64 a6, .int .i64 a7, .int .i64 a8] rfl rfl rfl size29 (by simp [Value.oneCell']) ?_; intro y9 hx hb; have F9 := hid hx; have R9 := hid (R8.out.below hb); have G9 := hid (G8.out.below hb); have B9 := hid (B8.out.trans (hb.mono (Nat.le_of_lt R8.out.lt))); have T5d := hid (tsn_below T5c.out hb); have T6d := hid (tsn_below T6c.out hb); have HE := hid (HD.out.imp id (fun ⟨q1, q2, q3, q4⟩ => (⟨q1, q2, row_kp q3 (Kp.below hb w.heap.size) (Nat.lt_succ_self _), row_kp q4 (Kp.below hb w.heap.size) (Nat.lt_succ_self _)⟩ : _ ∧ _ ∧ y9.ownsRow (w.heap.size + 1) 73 2 (.slice uA us.length uC) us.length (flat us.length (rowU (fU us))) ∧ y9.ownsRow (w.heap.size + 1) 131 2 (.slice kA ks.length kC) ks.length (flat ks.length (rowK (fK ks)))))); clear hx hb)
    | (go_at_call 78; (with_reducible refine (ended72 rb z9 f9 q HQ.out _ R9.out).mono ?_); rintro e y10 ⟨rfl, rfl⟩; cases q)
    | (refine store_mid_as rfl 30 _ _ rfl w.heap.size 0 (#[.string ⟨#[]⟩, .int .i64 0, .int .i64 0, .bool false, .string ⟨#[]⟩, .slice none 0 0, .slice none 0 0, .slice none 0 0, .slice none 0 0, .int .i64 0, .int .i64 0, .int .i64 0, .int .i64 0, .int .i64 0, .int .i64 0, .int .i64 0] : Array Value) rfl rfl (Blk.there (n := 16) G9.out (Nat.le_refl 16)) size29 (by simp [Value.oneCell']) ?_; intro wz ez; have EZ := hid ez; clear ez)
    | (refine wpList_load_mid rfl 30 _ rfl _ 0 rfl [.string x0, .int .i64 x1, .int .i64 x2, .bool x3, .string x4, .slice A5 x5.length c5, .slice A6 x6.length c6, .slice uA us.length uC, .slice kA ks.length kC, .int .i64 d, .int .i64 a3, .int .i64 a4, .int .i64 a5, .int .i64 a6, .int .i64 a7, .int .i64 a8] _ F9.out.range Tryz.underlying30 rfl size29 ?_)
    | (refine store_mid_as rfl 30 _ _ rfl w.heap.size 0 (#[.string x0, .int .i64 x1, .int .i64 x2, .bool x3, .string x4, .slice A5 x5.length c5, .slice A6 x6.length c6, .slice uA us.length uC, .slice kA ks.length kC, .int .i64 d, .int .i64 a3, .int .i64 a4, .int .i64 a5, .int .i64 a6, .int .i64 a7, .int .i64 a8] : Array Value) rfl rfl (Blk.there (n := 16) G9.out (Nat.le_refl 16)) size29 (by simp [Value.oneCell']) ?_; intro wz ez; have EZ := hid ez; clear ez)
    | fail)
  · (try simp only [Exit.inBlock, Exit.then])
    refine bodyPost_ret (results_cell_tmp_blk rfl _ _ w.heap.size [.string ⟨#[]⟩, .int .i64 0, .int .i64 0, .bool false, .string ⟨#[]⟩, .slice none 0 0, .slice none 0 0, .slice none 0 0, .slice none 0 0, .int .i64 0, .int .i64 0, .int .i64 0, .int .i64 0, .int .i64 0, .int .i64 0, .int .i64 0] 30 _ rfl (by rw [EZ.out]; exact Blk.setAll G9.out _ rfl) Tryz.underlying30 rfl size29) rfl ?_
    rw [EZ.out]
    have hN := dcE_no (x0 := x0) (x1 := x1) (x2 := x2) (x3 := x3) (x4 := x4) (x5 := x5) (x6 := x6) HE.out HQ.out
    rw [hN]
    exact ⟨c0, ad0, rfl, c0_is _, below_setAll (Nat.le_refl _) _ _ _ (BA.out.trans (B9.out.mono (Nat.le_of_lt WR.out))), .inr ⟨rfl, rfl⟩, c0_gt _⟩
  · (try simp only [Exit.inBlock, Exit.then])
    refine bodyPost_ret (results_cell_tmp_blk rfl _ _ w.heap.size [.string x0, .int .i64 x1, .int .i64 x2, .bool x3, .string x4, .slice A5 x5.length c5, .slice A6 x6.length c6, .slice uA us.length uC, .slice kA ks.length kC, .int .i64 d, .int .i64 a3, .int .i64 a4, .int .i64 a5, .int .i64 a6, .int .i64 a7, .int .i64 a8] 30 _ rfl (by rw [EZ.out]; exact Blk.setAll G9.out _ rfl) Tryz.underlying30 rfl size29) rfl ?_
    rw [EZ.out]
    obtain ⟨hY, hL, r1, r2⟩ := dcE_yes (x0 := x0) (x1 := x1) (x2 := x2) (x3 := x3) (x4 := x4) (x5 := x5) (x6 := x6) HE.out HQ.out
    rw [hY]
    have hx := HX.out
    refine ⟨⟨x0, x1, x2, x3, x4, x5, x6, us, ks, d, a3, a4, a5, a6, a7, a8⟩, ⟨A5, c5, A6, c6, uA, uC, kA, kC⟩, rfl, ⟨ts_txs (ts_set T5d.out (Nat.lt_succ_self _) _ _).1 hx.2.2.2.2.1, ts_txs (ts_set T6d.out (Nat.lt_succ_self _) _ _).1 hx.2.2.2.2.2, rows_isl (dcL_ok HZ7.out hL).1 (row_kp r1 (kp_all _ _ _ _) (Nat.lt_succ_self _)) (row_kp r2 (kp_all _ _ _ _) (Nat.lt_succ_self _)), by show x0.size ≤ _; have := hx.1; omega, by show x4.size ≤ _; have := hx.2.2.2.1; omega, hx.2.1, hx.2.2.1⟩, below_setAll (Nat.le_refl _) _ _ _ (BA.out.trans (B9.out.mono (Nat.le_of_lt WR.out))), .inl rfl, ⟨fun _ b off e => by have := T5d.out.2 b off e; omega, fun _ b off e => by have := T6d.out.2 b off e; omega, fun _ b off e => by have e : uA = some ⟨b, off, none⟩ := e; have := (r1.lt b (by rw [e]; rfl)).1; omega, fun _ b off e => by have e : kA = some ⟨b, off, none⟩ := e; have := (r2.lt b (by rw [e]; rfl)).1; omega⟩⟩
end Go.Proofs.YtablocpcgknmaaaGreatDoor
namespace Go.Proofs.YtablocpcgknmaaaGreatDoor
open Go Go.RowKit
set_option linter.unusedVariables false
set_option linter.unusedSimpArgs false
set_option maxRecDepth 100000

def gtkB (zs : List Int) (f : Bool) : Bool × List Int × Bool := if f = true then (false, zs, true) else match zs with
  | [] => (false, [], true)
  | c :: t => if 1 < c then (false, [], true) else (c == 1, t, false)
theorem gtk_bool (zs : List Int) (f : Bool) : gtk Cd.gb (.bool false) zs f = (.bool (gtkB zs f).1, (gtkB zs f).2.1, (gtkB zs f).2.2) := by
  unfold gtk gtkB
  cases f with
  | true => rfl
  | false =>
    rw [if_neg (by decide), if_neg (by decide)]
    cases zs with
    | nil => rfl
    | cons c t =>
      have e : Cd.gb (c :: t) = if 1 < c then none else some (.bool (c == 1), t) := rfl
      rw [e]
      by_cases h1 : 1 < c
      · rw [if_pos h1]; simp only [if_pos h1]
      · rw [if_neg h1]; simp only [if_neg h1]
def dk1 (zs : List Int) := gtkT zs false
def dk2 (zs : List Int) := gtkI (dk1 zs).2.1 (dk1 zs).2.2
def dk3 (zs : List Int) := gtkI (dk2 zs).2.1 (dk2 zs).2.2
def dk4 (zs : List Int) := gtkB (dk3 zs).2.1 (dk3 zs).2.2
def dk5 (zs : List Int) := gtkT (dk4 zs).2.1 (dk4 zs).2.2
def dk6 (zs : List Int) := gtkL (dk5 zs).2.1 (dk5 zs).2.2
def dk7 (zs : List Int) := gtkL (dk6 zs).2.1 (dk6 zs).2.2
/-- The content whose bytes these are. -/
def dC (zs : List Int) : Option Cn := dcE (dk1 zs).1 (dk2 zs).1 (dk3 zs).1 (dk4 zs).1 (dk5 zs).1 (dk6 zs).1 (dk7 zs).1 (dcL (dk7 zs).2.1 (dk7 zs).2.2)
theorem decode_any (zs : List Int) (hz : BZ zs) (A : Option Addr) (c : Nat) (w : World) (h : Cd.Sl w A zs.length c zs) : Calls Tryz.prog 138 #[.slice A zs.length c] w (DcG (dC zs) w) :=
  decode30 zs (dk1 zs).2.1 (dk2 zs).2.1 (dk3 zs).2.1 (dk4 zs).2.1 (dk5 zs).2.1 (dk6 zs).2.1 (dk7 zs).2.1 (dk1 zs).2.2 (dk2 zs).2.2 (dk3 zs).2.2 (dk4 zs).2.2 (dk5 zs).2.2 (dk6 zs).2.2 (dk7 zs).2.2 (dk1 zs).1 (dk5 zs).1 (dk2 zs).1 (dk3 zs).1 (dk4 zs).1 (dk6 zs).1 (dk7 zs).1 rfl rfl rfl (gtk_bool _ _) rfl rfl rfl hz A c w h
def gtkC (zs : List Int) (f : Bool) : Cn × List Int × Bool := match dC (Cd.byt (gtkT zs f).1) with
  | some C => (C, (gtkT zs f).2.1, (gtkT zs f).2.2)
  | none => (c0, (gtkT zs f).2.1, true)
theorem BZ.gtkC {zs : List Int} (h : BZ zs) (f : Bool) : BZ (gtkC zs f).2.1 := by
  unfold Go.Proofs.YtablocpcgknmaaaGreatDoor.gtkC
  split
  · exact (h.gtkT f).2
  · exact (h.gtkT f).2
theorem BZ.gtkB {zs : List Int} (h : BZ zs) (f : Bool) : BZ (gtkB zs f).2.1 := by
  have := bz_gtkB h f
  rw [gtk_bool] at this
  exact this
theorem BZ.gtkN {zs : List Int} (h : BZ zs) (f : Bool) : (∀ x ∈ (gtkN zs f).1, i64B x) ∧ (gtkN zs f).1.length ≤ 800000 ∧ BZ (gtkN zs f).2.1 := by
  unfold Go.Proofs.YtablocpcgknmaaaGreatDoor.gtkN
  cases f with
  | true => exact ⟨fun x hx => (by cases hx), Nat.zero_le _, h⟩
  | false =>
    rw [if_neg (by decide)]
    cases hd : Cd.gis zs with
    | none => exact ⟨fun x hx => (by cases hx), Nat.zero_le _, BZ.nil⟩
    | some p =>
      unfold Cd.gis at hd
      cases hc : Cd.cnt zs with
      | none => rw [hc] at hd; cases hd
      | some q =>
        obtain ⟨n, r⟩ := q
        rw [hc] at hd
        simp only [Option.bind_some] at hd
        have a := h.cnt hc
        have b := lst_ok (fun s : Int => i64B s) (fun zs x r hz e => hz.di e) n r p.1 p.2 a hd
        refine ⟨b.1, ?_, b.2.1⟩
        show p.1.length ≤ 800000
        have := Cd.cnt_rest hc
        have := h.2
        rw [b.2.2]; omega
end Go.Proofs.YtablocpcgknmaaaGreatDoor
namespace Go.Proofs.YtablocpcgknmaaaGreatDoor
open Go.Lib (hid)
open Go Go.RowKit
set_option linter.unusedVariables false
set_option linter.unusedSimpArgs false
set_option maxRecDepth 100000

/-- A list whose cells are no slices and no Booleans lies elsewhere. -/
theorem Rws.kpR {w w' : World} {A : Option Addr} {n c sz : Nat} {L : Nat → List Value} (h : Rws w A n c sz L) (h0 : 0 < sz) (hv : ∀ v ∈ L 0, (∀ x y z, v ≠ .slice x y z) ∧ ∀ x, v ≠ .bool x) {rb : Nat} {zs : List Int} {f : Bool} (hr : Rd w rb zs f) (hk : Kp rb w w') : Rws w' A n c sz L := by
  obtain ⟨A', c', h1, h2⟩ := hr
  refine ⟨h.len, h.one, h.big, h.nil, ?_⟩
  rcases Nat.eq_zero_or_pos n with hn | hn
  · exact .inl hn
  · obtain ⟨b, off, e, hl, hc⟩ := h.get hn
    have hL : (L 0)[0]? = some ((L 0)[0]'(by rw [h.len 0 hn]; exact h0)) := List.getElem?_eq_getElem _
    have hne : b ≠ rb := by
      have q := hv _ (List.getElem_mem (by rw [h.len 0 hn]; exact h0) : (L 0)[0]'(by rw [h.len 0 hn]; exact h0) ∈ L 0)
      have := hc 0 _ hL
      exact rd_block h1 this q.1 q.2
    rcases h.at_ with h3 | ⟨b', off', e', hl', hc'⟩
    · exact .inl h3
    · rw [e] at e'
      injection e' with e'
      injection e' with e1 e2 _
      subst e1 e2
      exact .inr ⟨b, off, e, Nat.lt_of_lt_of_le hl hk.size, fun j hj i v hi => (World.cell?_of_block (a := ⟨b, off + j * sz + i, none⟩) (hk.block b hl hne)).trans (hc' j hj i v hi)⟩
theorem IsC.kpR {w w' : World} {C : Cn} {a : Ads} (h : IsC w C a) {rb : Nat} {zs : List Int} {f : Bool} (hr : Rd w rb zs f) (hk : Kp rb w w') : IsC w' C a :=
  { h with al := { h.al with rws := h.al.rws.kpR (by decide) (fun v hv => by unfold rowS at hv; rw [List.mem_singleton] at hv; subst hv; exact ⟨fun _ _ _ e => (by cases e), fun _ e => (by cases e)⟩) hr hk }
           dn := { h.dn with rws := h.dn.rws.kpR (by decide) (fun v hv => by unfold rowS at hv; rw [List.mem_singleton] at hv; subst hv; exact ⟨fun _ _ _ e => (by cases e), fun _ e => (by cases e)⟩) hr hk }
           lv := { h.lv with us := h.lv.us.kpR (by decide) (fun v hv => by unfold rowU at hv; simp at hv; rcases hv with rfl | rfl <;> exact ⟨fun _ _ _ e => (by cases e), fun _ e => (by cases e)⟩) hr hk
                             ks := h.lv.ks.kpR (by decide) (fun v hv => by unfold rowK at hv; simp at hv; rcases hv with rfl | rfl <;> exact ⟨fun _ _ _ e => (by cases e), fun _ e => (by cases e)⟩) hr hk } }
abbrev z16 : List Value := [.string ⟨#[]⟩, .int .i64 0, .int .i64 0, .bool false, .string ⟨#[]⟩, .slice none 0 0, .slice none 0 0, .slice none 0 0, .slice none 0 0, .int .i64 0, .int .i64 0, .int .i64 0, .int .i64 0, .int .i64 0, .int .i64 0, .int .i64 0]
theorem sl_all {w : World} {A : Option Addr} {n c : Nat} {zs : List Int} (h : Cd.Sl w A n c zs) {g : Nat} {cs : List Value} {T : TypeId} (hb : Blk w g cs T) (hn : ∀ v ∈ cs, ∀ z, v ≠ .int .u8 z) (o : Nat) (vs : List Value) : Cd.Sl (w.setCells g o vs) A n c zs := by
  refine ⟨h.sz, h.bd, h.le, h.nl, fun h0 => ?_⟩
  obtain ⟨b, off, e, hl, hc⟩ := h.cell h0
  have hne : b ≠ g := by
    rintro rfl
    have h1 := hc 0 h0
    have h2 : w.cell? ⟨b, off + 0, none⟩ = cs[off + 0]? := by
      simp [World.cell?, hb.heap]
    rw [h2] at h1
    exact hn _ (List.mem_of_getElem? h1) _ rfl
  exact ⟨b, off, e, by rw [size_setAll]; exact hl, fun j hj => (World.cell?_of_block (a := ⟨b, off + j, none⟩) (World.heap_setCells_other w g o vs hl hne)).trans (hc j hj)⟩
theorem rd_all {w : World} {rb : Nat} {zs : List Int} {f : Bool} (h : Rd w rb zs f) {g : Nat} (hne : g ≠ rb) {cs : List Value} {T : TypeId} (hg : Blk w g cs T) (hn : ∀ v ∈ cs, ∀ z, v ≠ .int .u8 z) (o : Nat) (vs : List Value) : Rd (w.setCells g o vs) rb zs f := by
  obtain ⟨A, c, h1, h2⟩ := h
  exact ⟨A, c, h1.otherAll _ _ _ (Ne.symm hne), sl_all h2 hg hn o vs⟩
theorem z16_n8 : ∀ v ∈ z16, ∀ z, v ≠ .int .u8 z := by
  intro v hv z e
  subst e
  simp [z16] at hv
theorem gtkT_sz (zs : List Int) (f : Bool) : (gtkT zs f).1.size ≤ zs.length := by
  unfold gtkT
  cases f with
  | true => exact Nat.zero_le _
  | false =>
    rw [if_neg (by decide)]
    cases hd : Cd.dt zs with
    | none => exact Nat.zero_le _
    | some p =>
      unfold Cd.dt at hd
      cases hc : Cd.cnt zs with
      | none => rw [hc] at hd; cases hd
      | some q =>
        obtain ⟨n, r⟩ := q
        rw [hc] at hd
        simp only [Option.map_some, Option.some.injEq] at hd
        obtain ⟨_, _, u, k, _, _, e2⟩ := Cd.cnt_rest hc
        rw [← hd]
        show (strOfNums (List.take n r)).size ≤ zs.length
        rw [Cd.str_size, List.length_take, e2, List.length_drop]
        omega
def TkC (r : Cn × List Int × Bool) (rb : Nat) (w : World) (e : Ending) (w' : World) : Prop := ∃ a, e = .returned (.agg (ccs r.1 a).toArray) ∧ IsC w' r.1 a ∧ Rd w' rb r.2.1 r.2.2 ∧ Below rb w w' ∧ Kp rb w w' ∧ ∀ g, g ≤ w.heap.size → ApC g r.1 a
set_option maxHeartbeats 8000000 in
theorem take_content (rb : Nat) (zs : List Int) (f : Bool) (w : World) (h : Rd w rb zs f) (hl : zs.length ≤ 800000) : Calls Tryz.prog 77 #[.pointer (some ⟨rb, 0, none⟩)] w (TkC (gtkC zs f) rb w) := by
  have hz := h.bz hl
  have hlt : rb < w.heap.size := by obtain ⟨A, c, h1, _⟩ := h; exact h1.lt
  obtain ⟨s, z1, f1, e0⟩ : ∃ s z1 f1, gtkT zs f = (s, z1, f1) := ⟨_, _, _, rfl⟩
  have b0 := hz.gtkT f
  have b1 := gtkT_sz zs f
  rw [e0] at b0 b1
  dsimp only at b0 b1
  have HT := hid (fun y (hr : Rd y rb zs f) => by have := take_str rb zs f y hr hl; rw [gtk_str, e0] at this; exact this)
  have HD := hid (fun A c y (hs : Cd.Sl y A s.size c (Cd.byt s)) => by have := decode_any (Cd.byt s) ⟨Cd.byt_bd s, by rw [Cd.byt_len]; exact Nat.le_trans b1 hl⟩ A c y (by rw [Cd.byt_len]; exact hs); rw [Cd.byt_len] at this; exact this)
  have LT := hid hlt
  have HG := hid (show gtkC zs f = match dC (Cd.byt s) with | some C => (C, z1, f1) | none => (c0, z1, true) by unfold gtkC; rw [e0] <;> rfl)
  have HR := hid h
  have BA := hid ((Below.refl w.heap.size w).alloc (Nat.le_refl _) (.cells z16.toArray 30))
  have G0 := hid (blk_new w z16 30)
  generalize gtkC zs f = r at HG ⊢
  generalize dC (Cd.byt s) = o at HG HD
  unfold DcG at HD
  clear e0 b0 b1 hz h hl hlt
  generalize hW0 : w.alloc (.cells z16.toArray 30) = W0 at BA G0
  have R0 := hid (HR.out.below BA.out)
  have B0 := hid (BA.out.mono (Nat.le_of_lt LT.out))
  have K0 := hid (Kp.below BA.out rb)
  have GN := hid (Nat.ne_of_gt LT.out)
  unfold TkC
  dsimp only [z16] at hW0
  go_enter Tryz.func77, Tryz.ntmps77
  go_upto_region 2 with (first
    | (go_at_call 71; (with_reducible refine (HT.out _ R0.out).mono ?_); rintro e y1 ⟨rfl, hr, hb, hk⟩; have R1 := hid hr; have G1 := hid (G0.out.kp GN.out hk); have B1 := hid (B0.out.trans hb); have K1 := hid (K0.out.trans hk); clear hr hb hk)
    | (refine Cd.wpList_conv rfl rfl s rfl ?_; intro Ab cb y2 hs hb; have S2 := hid hs; have R2 := hid (R1.out.below hb); have G2 := hid (G1.out.below hb); have L2 := hid (Nat.lt_of_lt_of_le (Nat.lt_trans LT.out G1.out.lt) hb.size); have B2 := hid (B1.out.trans (hb.mono (Nat.le_of_lt (Nat.lt_trans LT.out G1.out.lt)))); have K2 := hid (K1.out.trans (Kp.below hb rb)); clear hs hb)
    | (go_at_call 138; (with_reducible refine (HD.out Ab cb _ S2.out).mono ?_); rintro e y3 ⟨C, aC, rfl, hi, hb, hd, hg⟩; have I3 := hid hi; have D3 := hid hd; have N3 := hid (hg.ap (Nat.le_of_lt G2.out.lt)); have NG := hid (fun g (hq : g ≤ w.heap.size) => hg.ap (Nat.le_trans hq (Nat.le_of_lt G2.out.lt))); have R3 := hid (R2.out.below hb); have G3 := hid (G2.out.below hb); have L3 := hid (Nat.lt_of_lt_of_le L2.out hb.size); have B3 := hid (B2.out.trans (hb.mono (Nat.le_of_lt L2.out))); have K3 := hid (K2.out.trans (Kp.below hb rb)); clear hi hb hd hg)
    | (refine store_as rfl 30 _ _ rfl z16 (ccs C aC) rfl rfl rfl size29 (by simp [Value.oneCell']) ?_; intro y4 hx hb; have F4 := hid hx; have I4 := hid (I3.out.below hb); have R4 := hid (R3.out.below hb); have G4 := hid (G3.out.below hb); have L4 := hid L3.out; have B4 := hid (B3.out.trans (hb.mono (Nat.le_of_lt L3.out))); have K4 := hid (K3.out.trans (Kp.below hb rb)); clear hx hb)
    | fail)
  cases o with
  | some C0 =>
    obtain rfl : C = C0 := by
      rcases D3.out with h | h
      · exact (Option.some.inj h).symm
      · exact nomatch h.1
    go_wp2_with (first
      | (refine load_mid_g (by rfl) 30 _ rfl y3.heap.size 0 rfl (ccs C aC) _ F4.out.range Tryz.underlying30 rfl size29 ?_)
      | (refine store_mid_as rfl 30 _ _ rfl w.heap.size 0 (ccs C aC).toArray rfl rfl (Blk.there (n := 16) G4.out (Nat.le_refl 16)) size29 (by simp [Value.oneCell']) ?_; intro wz ez; have EZ := hid ez; clear ez)
      | fail)
    (try simp only [Exit.inBlock, Exit.then])
    refine bodyPost_ret (results_cell_mid rfl _ _ w.heap.size (ccs C aC) 30 _ rfl (by rw [EZ.out]; exact Blk.setAll G4.out _ rfl) Tryz.underlying30 rfl size29) rfl ?_
    rw [EZ.out, HG.out]
    exact ⟨aC, rfl, I4.out.otherC _ _ _ N3.out, rd_all R4.out GN.out G4.out z16_n8 _ _, below_setAll (Nat.le_of_lt LT.out) _ _ _ B4.out, K4.out.new_all (Nat.le_refl _) _ _, NG.out⟩
  | none =>
    obtain ⟨-, rfl⟩ : (none : Option Cn) = none ∧ C = c0 := by
      rcases D3.out with h | h
      · exact nomatch h
      · exact h
    obtain ⟨AR, cR, hx, hs⟩ := R4.out
    have X4 := hid hx
    have S4 := hid hs
    clear hx hs
    go_wp2_with (first
      | (refine store_oneE rfl 4 _ _ rfl rb 1 (.bool true) [.slice AR z1.length cR, .bool f1] 89 rfl rfl X4.out (show (1 : Nat) < 2 by decide) sz4 rfl ?_; intro y5 eu; have R5 := hid (show Rd y5 rb z1 true from ⟨AR, cR, by rw [eu]; exact X4.out.set 1 _, by rw [eu]; exact S4.out.set_rd X4.out 1 _⟩); have KS := hid (show Kp rb y4 y5 by rw [eu]; exact (Kp.refl rb _).set 1 _); have I5 := hid (I4.out.kpR R4.out KS.out); have F5 := hid (F4.out.kp (Nat.ne_of_gt L4.out) KS.out); have G5 := hid (G4.out.kp GN.out KS.out); have B5 := hid (show Below rb w y5 by rw [eu]; exact B4.out.setCell (p := ⟨rb, 1, none⟩) (Nat.le_refl _) _); have K5 := hid (K4.out.trans KS.out); clear eu)
      | (refine load_mid_g (by rfl) 30 _ rfl y3.heap.size 0 rfl (ccs c0 aC) _ F5.out.range Tryz.underlying30 rfl size29 ?_)
      | (refine store_mid_as rfl 30 _ _ rfl w.heap.size 0 (ccs c0 aC).toArray rfl rfl (Blk.there (n := 16) G5.out (Nat.le_refl 16)) size29 (by simp [Value.oneCell']) ?_; intro wz ez; have EZ := hid ez; clear ez)
      | fail)
    (try simp only [Exit.inBlock, Exit.then])
    refine bodyPost_ret (results_cell_mid rfl _ _ w.heap.size (ccs c0 aC) 30 _ rfl (by rw [EZ.out]; exact Blk.setAll G5.out _ rfl) Tryz.underlying30 rfl size29) rfl ?_
    rw [EZ.out, HG.out]
    exact ⟨aC, rfl, I5.out.otherC _ _ _ N3.out, rd_all R5.out GN.out G5.out z16_n8 _ _, below_setAll (Nat.le_of_lt LT.out) _ _ _ B5.out, K5.out.new_all (Nat.le_refl _) _ _, NG.out⟩
end Go.Proofs.YtablocpcgknmaaaGreatDoor
namespace Go.Proofs.YtablocpcgknmaaaGreatDoor
open Go Go.RowKit
set_option linter.unusedVariables false
set_option linter.unusedSimpArgs false

theorem byt_inj {s t : ByteArray} (h : Cd.byt s = Cd.byt t) : s = t := by
  unfold Cd.byt at h
  have h2 : s.data.toList = t.data.toList := (List.map_inj_right (fun x y (e : (x.toNat : Int) = (y.toNat : Int)) => UInt8.toNat_inj.1 (by omega))).1 h
  exact ByteArray.ext (Array.toList_inj.1 h2)
theorem di_eI {n : Int} (h : i64B n) (r : List Int) : Cd.di (eI n ++ r) = some (n, r) := by
  unfold Cd.di eI
  rw [Cd.C.dec_enc (Cd.C.zig_lt ((Cd.C.in64_iff n).2 h)) r]
  simp only [Option.map_some, Cd.C.zag_zig, List.drop_left]
theorem cnt_eI {n : Nat} {r : List Int} (hn : n ≤ r.length) (h2 : n ≤ 1000000) : Cd.cnt (eI (n : Int) ++ r) = some (n, r) := by
  have hd := Cd.C.dec_enc (Cd.C.zig_lt ((Cd.C.in64_iff (n : Int)).2 (len64 h2))) r
  have h := Cd.cnt_in (zs := eI (n : Int) ++ r) hd (by rw [Cd.C.zag_zig]; omega) (by rw [Cd.C.zag_zig]; show (n : Int) ≤ ((List.drop (Cd.C.enc (Cd.C.zig (n : Int))).length (Cd.C.enc (Cd.C.zig (n : Int)) ++ r)).length : Int); rw [List.drop_left]; omega)
  rw [h, Cd.C.zag_zig, Int.toNat_natCast]
  show some (n, List.drop (Cd.C.enc (Cd.C.zig (n : Int))).length (Cd.C.enc (Cd.C.zig (n : Int)) ++ r)) = _
  rw [List.drop_left]
theorem str_byt (s : ByteArray) : strOfNums (Cd.byt s) = s := byt_inj (Cd.byt_str (Cd.byt_bd s))
theorem dt_ent {s : ByteArray} (h : s.size ≤ 1000) (r : List Int) : Cd.dt (Cd.ent s ++ r) = some (s, r) := by
  have e : Cd.ent s ++ r = eI (s.size : Int) ++ (Cd.byt s ++ r) := by unfold Cd.ent eI; rw [List.append_assoc]
  unfold Cd.dt
  rw [e, cnt_eI (by rw [List.length_append, Cd.byt_len]; omega) (by omega)]
  simp only [Option.map_some]
  rw [← Cd.byt_len s, List.take_left, List.drop_left, str_byt]
theorem lst_enc {α : Type} (f : α → List Int) (one : List Int → Option (α × List Int)) : ∀ (l : List α) (r : List Int), (∀ x ∈ l, ∀ r, one (f x ++ r) = some (x, r)) → Cd.lst one l.length ((l.map f).flatten ++ r) = some (l, r)
  | [], r, _ => rfl
  | x :: l, r, h => by
    rw [List.map_cons, List.flatten_cons, List.append_assoc, List.length_cons]
    unfold Cd.lst
    rw [h x List.mem_cons_self]
    simp only [Option.bind_some]
    rw [lst_enc f one l r (fun y hy => h y (List.mem_cons_of_mem _ hy))]
    rfl
theorem flat_ge {α : Type} (f : α → List Int) : ∀ (l : List α), (∀ x ∈ l, 0 < (f x).length) → l.length ≤ ((l.map f).flatten).length
  | [], _ => Nat.le_refl _
  | x :: l, h => by
    rw [List.map_cons, List.flatten_cons, List.length_append, List.length_cons]
    have := h x List.mem_cons_self
    have := flat_ge f l (fun y hy => h y (List.mem_cons_of_mem _ hy))
    omega
theorem eI_pos {n : Int} (h : i64B n) : 0 < (eI n).length := (Cd.C.enc_bd (Cd.C.zig_lt ((Cd.C.in64_iff n).2 h))).2.1
theorem ent_pos {s : ByteArray} (h : s.size ≤ 1000) : 0 < (Cd.ent s).length := by
  unfold Cd.ent
  rw [List.length_append]
  have := eI_pos (len64 (show s.size ≤ 1000000 by omega))
  unfold eI at this
  omega
theorem gtkI_eI {n : Int} (h : i64B n) (r : List Int) : gtkI (eI n ++ r) false = (n, r, false) := by
  unfold gtkI
  rw [if_neg (by decide), di_eI h]
theorem gtkT_ent {s : ByteArray} (h : s.size ≤ 1000) (r : List Int) : gtkT (Cd.ent s ++ r) false = (s, r, false) := by
  unfold gtkT
  rw [if_neg (by decide), dt_ent h]
theorem gtkB_one (b : Bool) (r : List Int) : gtk Cd.gb (.bool false) ([if b then (1 : Int) else 0] ++ r) false = (.bool b, r, false) := by
  cases b <;> rfl
theorem gtkL_ents {l : List ByteArray} (hl : l.length ≤ 200) (h : ∀ s ∈ l, s.size ≤ 1000) (r : List Int) : gtkL (eI (l.length : Int) ++ (Cd.ents l ++ r)) false = (l, r, false) := by
  unfold gtkL Cd.gts
  rw [if_neg (by decide)]
  have hg := flat_ge Cd.ent l (fun s hs => ent_pos (h s hs))
  rw [cnt_eI (by rw [List.length_append]; show _ ≤ ((l.map Cd.ent).flatten).length + _; omega) (by omega)]
  simp only [Option.bind_some]
  rw [show Cd.ents l = (l.map Cd.ent).flatten from rfl, lst_enc Cd.ent Cd.dt l r (fun s hs r => dt_ent (h s hs) r)]
theorem dU_enc {p : ByteArray × Int} (h : p.1.size ≤ 1000 ∧ i64B p.2) (r : List Int) : dU ((Cd.ent p.1 ++ eI p.2) ++ r) = some (p, r) := by
  unfold dU
  rw [List.append_assoc, dt_ent h.1]
  simp only [Option.bind_some]
  rw [di_eI h.2]
  rfl
theorem dK_enc {p : Int × Int} (h : i64B p.1 ∧ i64B p.2) (r : List Int) : dK ((eI p.1 ++ eI p.2) ++ r) = some (p, r) := by
  unfold dK
  rw [List.append_assoc, di_eI h.1]
  simp only [Option.bind_some]
  rw [di_eI h.2]
  rfl
theorem takes_enc (ns : List Int) (h : ∀ x ∈ ns, i64B x) (r : List Int) : ∀ n, n ≤ ns.length → takes ((ns.map eI).flatten ++ r) false n = (ns.take n, ((ns.drop n).map eI).flatten ++ r, false)
  | 0, _ => by simp [takes]
  | n + 1, hn => by
    have ih := takes_enc ns h r n (by omega)
    have hlt : n < ns.length := by omega
    have e : ((ns.drop n).map eI).flatten ++ r = eI ns[n] ++ (((ns.drop (n + 1)).map eI).flatten ++ r) := by
      rw [List.drop_eq_getElem_cons hlt, List.map_cons, List.flatten_cons, List.append_assoc]
    show ((takes ((ns.map eI).flatten ++ r) false n).1 ++ [(gtkI (takes ((ns.map eI).flatten ++ r) false n).2.1 (takes ((ns.map eI).flatten ++ r) false n).2.2).1], (gtkI (takes ((ns.map eI).flatten ++ r) false n).2.1 (takes ((ns.map eI).flatten ++ r) false n).2.2).2) = _
    rw [ih]
    dsimp only
    rw [e, gtkI_eI (h _ (List.getElem_mem hlt))]
    dsimp only
    rw [← List.take_append_getElem hlt]
theorem dcL_enc {us : List (ByteArray × Int)} {ks : List (Int × Int)} (s : SmL us ks) (hu : ∀ p ∈ us, i64B p.2) (hk : ∀ p ∈ ks, i64B p.1 ∧ i64B p.2) {d x3 x4 x5 x6 x7 x8 : Int} (q : i64B d ∧ i64B x3 ∧ i64B x4 ∧ i64B x5 ∧ i64B x6 ∧ i64B x7 ∧ i64B x8) :
    dcL (encL us ks (nmL d x3 x4 x5 x6 x7 x8)) false = some (⟨us, ks, d, x3, x4, x5, x6, x7, x8⟩, []) := by
  have hn := nm_bd q
  unfold encL encU encK encN
  rw [List.append_assoc, List.append_assoc, List.append_assoc]
  have g1 := flat_ge (fun p : ByteArray × Int => Cd.ent p.1 ++ eI p.2) us (fun p hp => by rw [List.length_append]; have := ent_pos (s.nm p hp); omega)
  have g2 := flat_ge (fun p : Int × Int => eI p.1 ++ eI p.2) ks (fun p hp => by rw [List.length_append]; have := eI_pos (hk p hp).1; omega)
  have hlu := s.lu
  have hlk := s.lk
  unfold dcL
  rw [(cntk_cnt _).1 _ _ (cnt_eI (n := us.length) (by rw [List.length_append]; omega) (by omega))]
  dsimp only
  rw [if_neg (by decide), Int.toNat_natCast, lst_enc (fun p : ByteArray × Int => Cd.ent p.1 ++ eI p.2) dU us _ (fun p hp r => dU_enc ⟨s.nm p hp, hu p hp⟩ r)]
  simp only [Option.bind_some]
  unfold dc2
  rw [(cntk_cnt _).1 _ _ (cnt_eI (n := ks.length) (by rw [List.length_append]; omega) (by omega))]
  dsimp only
  rw [if_neg (by decide), Int.toNat_natCast, lst_enc (fun p : Int × Int => eI p.1 ++ eI p.2) dK ks _ (fun p hp r => dK_enc (hk p hp) r)]
  simp only [Option.bind_some]
  unfold dc3
  have e := takes_enc (nmL d x3 x4 x5 x6 x7 x8) hn [] 7 (Nat.le_refl _)
  rw [List.append_nil] at e
  rw [e]
  rfl
end Go.Proofs.YtablocpcgknmaaaGreatDoor
