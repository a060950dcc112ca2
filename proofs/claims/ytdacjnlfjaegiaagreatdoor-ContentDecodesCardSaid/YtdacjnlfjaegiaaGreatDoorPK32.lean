/- Decoding where there are no lists. Bounds: at most 800000 bytes. No condition. -/
import Derived.Test.YtdacjnlfjaegiaaGreatDoorPK31
namespace Go.Proofs.YtdacjnlfjaegiaaGreatDoor
open Go Go.RowKit
set_option linter.unusedVariables false
set_option linter.unusedSimpArgs false
set_option maxRecDepth 100000

theorem _root_.Go.Proofs.YtdacjnlfjaegiaaGreatDoor.Cd.Ts.kpR {w w' : World} {A : Option Addr} {n c : Nat} {l : List ByteArray} (h : Cd.Ts w A n c l) {rb : Nat} {zs : List Int} {f : Bool} (hr : Rd w rb zs f) (hk : Kp rb w w') : Cd.Ts w' A n c l := by
  obtain ⟨A', c', h1, h2⟩ := hr
  exact h.kp h1 hk
def DcP (q : Bool) (C : Cn) (w : World) (e : Ending) (w' : World) : Prop := ∃ a, e = .returned (.tuple #[.agg (ccs (if q = true then C else c0) a).toArray, .bool q]) ∧ (a.aA = none → a.aC = 0) ∧ (a.dA = none → a.dC = 0) ∧ (a.uA = none ∧ a.uC = 0 ∧ a.kA = none ∧ a.kC = 0) ∧ Below w.heap.size w w'
set_option maxHeartbeats 16000000 in
theorem decode30z (zs z1 z2 z3 z4 z5 z6 z7 z9 : List Int) (f1 f2 f3 f4 f5 f6 f7 f9 : Bool) (x0 x4 : ByteArray) (x1 x2 d a3 a4 a5 a6 a7 a8 : Int) (x3 : Bool) (e0 : gtk Cd.gt (.string ⟨#[]⟩) zs false = (.string x0, z1, f1)) (e1 : gtkI z1 f1 = (x1, z2, f2)) (e2 : gtkI z2 f2 = (x2, z3, f3)) (e3 : gtk Cd.gb (.bool false) z3 f3 = (.bool x3, z4, f4)) (e4 : gtk Cd.gt (.string ⟨#[]⟩) z4 f4 = (.string x4, z5, f5)) (e5 : gtkL z5 f5 = ([], z6, f6)) (e6 : gtkL z6 f6 = ([], z7, f7)) (k1 : (cntk z7 f7).1 = 0) (k2 : (cntk (cntk z7 f7).2.1 (cntk z7 f7).2.2).1 = 0) (e8 : takes (cntk (cntk z7 f7).2.1 (cntk z7 f7).2.2).2.1 (cntk (cntk z7 f7).2.1 (cntk z7 f7).2.2).2.2 7 = ([d, a3, a4, a5, a6, a7, a8], z9, f9))
    (l0 : zs.length ≤ 800000) (l1 : z1.length ≤ 800000) (l2 : z2.length ≤ 800000) (l3 : z3.length ≤ 800000) (l4 : z4.length ≤ 800000) (l5 : z5.length ≤ 800000) (l6 : z6.length ≤ 800000) (l7 : z7.length ≤ 800000)
    (q : Bool) (hq : (!f9 && decide (z9.length = 0)) = q) (A : Option Addr) (c : Nat) (w : World) (h : Cd.Sl w A zs.length c zs) : Calls Tryz.prog 30 #[.slice A zs.length c] w (DcP q ⟨x0, x1, x2, x3, x4, [], [], [], [], d, a3, a4, a5, a6, a7, a8⟩ w) := by
  obtain ⟨rb, hrb⟩ : ∃ rb, rb = w.heap.size + 1 := ⟨_, rfl⟩
  have HRB := Lib.hid hrb
  have HT0 := Lib.hid (fun y (hr : Rd y rb zs false) => by have := take_str rb zs false y hr l0; rw [e0] at this; exact this)
  have HT1 := Lib.hid (fun y (hr : Rd y rb z1 f1) => by have := take_int rb z1 f1 y hr l1; rw [gtk_int, e1] at this; exact this)
  have HT2 := Lib.hid (fun y (hr : Rd y rb z2 f2) => by have := take_int rb z2 f2 y hr l2; rw [gtk_int, e2] at this; exact this)
  have HT3 := Lib.hid (fun y (hr : Rd y rb z3 f3) => by have := take_bool rb z3 f3 y hr l3; rw [e3] at this; exact this)
  have HT4 := Lib.hid (fun y (hr : Rd y rb z4 f4) => by have := take_str rb z4 f4 y hr l4; rw [e4] at this; exact this)
  have HT5 := Lib.hid (fun y (hr : Rd y rb z5 f5) => by have := take_texts rb z5 f5 y hr l5; rw [e5] at this; exact this)
  have HT6 := Lib.hid (fun y (hr : Rd y rb z6 f6) => by have := take_texts rb z6 f6 y hr l6; rw [e6] at this; exact this)
  have HT7 := Lib.hid (fun y (hr : Rd y rb z7 f7) => by have := decode71z rb z7 f7 y hr l7 k1 k2; rw [e8] at this; exact this)
  have HQ := Lib.hid hq
  have XB := Lib.hid (blk_new2 w (.cells #[.string ⟨#[]⟩, .int .i64 0, .int .i64 0, .bool false, .string ⟨#[]⟩, .slice none 0 0, .slice none 0 0, .slice none 0 0, .slice none 0 0, .int .i64 0, .int .i64 0, .int .i64 0, .int .i64 0, .int .i64 0, .int .i64 0, .int .i64 0] 29) [.slice A zs.length c, .bool false] 77)
  have G0 := Lib.hid ((blk_new w [.string ⟨#[]⟩, .int .i64 0, .int .i64 0, .bool false, .string ⟨#[]⟩, .slice none 0 0, .slice none 0 0, .slice none 0 0, .slice none 0 0, .int .i64 0, .int .i64 0, .int .i64 0, .int .i64 0, .int .i64 0, .int .i64 0, .int .i64 0] 29).alloc (.cells #[.slice A zs.length c, .bool false] 77))
  have BA := Lib.hid (((Below.refl w.heap.size w).alloc (Nat.le_refl _) (.cells #[.string ⟨#[]⟩, .int .i64 0, .int .i64 0, .bool false, .string ⟨#[]⟩, .slice none 0 0, .slice none 0 0, .slice none 0 0, .slice none 0 0, .int .i64 0, .int .i64 0, .int .i64 0, .int .i64 0, .int .i64 0, .int .i64 0, .int .i64 0] 29)).alloc (by simp) (.cells #[.slice A zs.length c, .bool false] 77))
  rw [← hrb] at XB
  have R0 := Lib.hid (show Rd _ rb zs false from ⟨A, c, XB.out, h.below BA.out⟩)
  have WR := Lib.hid (show w.heap.size < rb by omega)
  have B0 := Lib.hid (Below.refl rb ((w.alloc (.cells #[.string ⟨#[]⟩, .int .i64 0, .int .i64 0, .bool false, .string ⟨#[]⟩, .slice none 0 0, .slice none 0 0, .slice none 0 0, .slice none 0 0, .int .i64 0, .int .i64 0, .int .i64 0, .int .i64 0, .int .i64 0, .int .i64 0, .int .i64 0] 29)).alloc (.cells #[.slice A zs.length c, .bool false] 77)))
  clear e0 e1 e2 e3 e4 e5 e6 k1 k2 e8 hq h hrb XB l0 l1 l2 l3 l4 l5 l6 l7
  generalize hW : (w.alloc (.cells #[.string ⟨#[]⟩, .int .i64 0, .int .i64 0, .bool false, .string ⟨#[]⟩, .slice none 0 0, .slice none 0 0, .slice none 0 0, .slice none 0 0, .int .i64 0, .int .i64 0, .int .i64 0, .int .i64 0, .int .i64 0, .int .i64 0, .int .i64 0] 29)).alloc (.cells #[.slice A zs.length c, .bool false] 77) = W0 at R0 G0 BA B0
  cases q with
  | false =>
    go_enter Tryz.func30, Tryz.ntmps30
    go_upto_region 2 with (fail)
    try rw [← HRB.out]
    go_wp2_with (first
      | (go_at_call 63; (with_reducible refine (HT0.out _ R0.out).mono ?_); rintro e y1 ⟨rfl, hr, hb, hk⟩; have R1 := Lib.hid hr; have G1 := Lib.hid (G0.out.kp (Nat.ne_of_lt WR.out) hk); have B1 := Lib.hid (B0.out.trans hb); clear hr hb hk)
      | (go_at_call 65; (with_reducible refine (HT1.out _ R1.out).mono ?_); rintro e y2 ⟨rfl, hr, hb, hk⟩; have R2 := Lib.hid hr; have G2 := Lib.hid (G1.out.kp (Nat.ne_of_lt WR.out) hk); have B2 := Lib.hid (B1.out.trans hb); clear hr hb hk)
      | (go_at_call 65; (with_reducible refine (HT2.out _ R2.out).mono ?_); rintro e y3 ⟨rfl, hr, hb, hk⟩; have R3 := Lib.hid hr; have G3 := Lib.hid (G2.out.kp (Nat.ne_of_lt WR.out) hk); have B3 := Lib.hid (B2.out.trans hb); clear hr hb hk)
      | (go_at_call 67; (with_reducible refine (HT3.out _ R3.out).mono ?_); rintro e y4 ⟨rfl, hr, hb, hk⟩; have R4 := Lib.hid hr; have G4 := Lib.hid (G3.out.kp (Nat.ne_of_lt WR.out) hk); have B4 := Lib.hid (B3.out.trans hb); clear hr hb hk)
      | (go_at_call 63; (with_reducible refine (HT4.out _ R4.out).mono ?_); rintro e y5 ⟨rfl, hr, hb, hk⟩; have R5 := Lib.hid hr; have G5 := Lib.hid (G4.out.kp (Nat.ne_of_lt WR.out) hk); have B5 := Lib.hid (B4.out.trans hb); clear hr hb hk)
      | (go_at_call 69; (with_reducible refine (HT5.out _ R5.out).mono ?_); rintro e y6 ⟨A5, c5, rfl, ht, hr, hb, hk⟩; have R6 := Lib.hid hr; have T5 := Lib.hid ht; have G6 := Lib.hid (G5.out.kp (Nat.ne_of_lt WR.out) hk); have B6 := Lib.hid (B5.out.trans hb); clear hr hb hk ht)
      | (go_at_call 69; (with_reducible refine (HT6.out _ R6.out).mono ?_); rintro e y7 ⟨A6, c6, rfl, ht, hr, hb, hk⟩; have R7 := Lib.hid hr; have T6 := Lib.hid ht; have T5b := Lib.hid (T5.out.kpR R6.out hk); have G7 := Lib.hid (G6.out.kp (Nat.ne_of_lt WR.out) hk); have B7 := Lib.hid (B6.out.trans hb); clear hr hb hk ht)
      | (go_at_call 71; (with_reducible refine (HT7.out _ R7.out).mono ?_); rintro e y8 ⟨rfl, hr, hb, hk⟩; have R8 := Lib.hid hr; have G8 := Lib.hid (G7.out.kp (Nat.ne_of_lt WR.out) hk); have B8 := Lib.hid (B7.out.trans hb); have T5c := Lib.hid (T5b.out.kpR R7.out hk); have T6c := Lib.hid (T6.out.kpR R7.out hk); clear hr hb hk; rw [show (lvk [d, a3, a4, a5, a6, a7, a8]).toArray = #[.slice none 0 0, .slice none 0 0, .int .i64 d, .int .i64 a3, .int .i64 a4, .int .i64 a5, .int .i64 a6, .int .i64 a7, .int .i64 a8] from rfl])
      | (refine store_as rfl 29 _ _ rfl [.string ⟨#[]⟩, .int .i64 0, .int .i64 0, .bool false, .string ⟨#[]⟩, .slice none 0 0, .slice none 0 0, .slice none 0 0, .slice none 0 0, .int .i64 0, .int .i64 0, .int .i64 0, .int .i64 0, .int .i64 0, .int .i64 0, .int .i64 0] [.string x0, .int .i64 x1, .int .i64 x2, .bool x3, .string x4, .slice A5 0 c5, .slice A6 0 c6, .slice none 0 0, .slice none 0 0, .int .i64 d, .int .i64 a3, .int .i64 a4, .int .i64 a5, .int .i64 a6, .int .i64 a7, .int .i64 a8] rfl rfl rfl size29 (by simp [Value.oneCell']) ?_; intro y9 hx hb; have F9 := Lib.hid hx; have R9 := Lib.hid (R8.out.below hb); have G9 := Lib.hid (G8.out.below hb); have B9 := Lib.hid (B8.out.trans (hb.mono (Nat.le_of_lt R8.out.lt))); have T5d := Lib.hid (T5c.out.below hb); have T6d := Lib.hid (T6c.out.below hb); clear hx hb)
      | (go_at_call 72; (with_reducible refine (ended72 rb z9 f9 false HQ.out _ R9.out).mono ?_); rintro e y10 ⟨rfl, rfl⟩)
      | (refine store_mid_as rfl 29 _ _ rfl w.heap.size 0 (#[.string ⟨#[]⟩, .int .i64 0, .int .i64 0, .bool false, .string ⟨#[]⟩, .slice none 0 0, .slice none 0 0, .slice none 0 0, .slice none 0 0, .int .i64 0, .int .i64 0, .int .i64 0, .int .i64 0, .int .i64 0, .int .i64 0, .int .i64 0] : Array Value) rfl rfl (Blk.there (n := 16) G9.out (Nat.le_refl 16)) size29 (by simp [Value.oneCell']) ?_; intro wz ez; have EZ := Lib.hid ez; clear ez)
      | fail)
    (try simp only [Exit.inBlock, Exit.then])
    refine bodyPost_ret (results_cell_tmp_blk rfl _ _ w.heap.size [.string ⟨#[]⟩, .int .i64 0, .int .i64 0, .bool false, .string ⟨#[]⟩, .slice none 0 0, .slice none 0 0, .slice none 0 0, .slice none 0 0, .int .i64 0, .int .i64 0, .int .i64 0, .int .i64 0, .int .i64 0, .int .i64 0, .int .i64 0] 29 _ rfl (by rw [EZ.out]; exact Blk.setAll G9.out _ rfl) Tryz.underlying29 rfl size29) rfl ?_
    unfold DcP
    rw [EZ.out]
    exact ⟨ad0, rfl, fun _ => rfl, fun _ => rfl, ⟨rfl, rfl, rfl, rfl⟩, below_setAll (Nat.le_refl _) _ _ _ (BA.out.trans (B9.out.mono (Nat.le_of_lt WR.out)))⟩
  | true =>
    go_enter Tryz.func30, Tryz.ntmps30
    go_upto_region 2 with (fail)
    try rw [← HRB.out]
    go_wp2_with (first
      | (go_at_call 63; (with_reducible refine (HT0.out _ R0.out).mono ?_); rintro e y1 ⟨rfl, hr, hb, hk⟩; have R1 := Lib.hid hr; have G1 := Lib.hid (G0.out.kp (Nat.ne_of_lt WR.out) hk); have B1 := Lib.hid (B0.out.trans hb); clear hr hb hk)
      | (go_at_call 65; (with_reducible refine (HT1.out _ R1.out).mono ?_); rintro e y2 ⟨rfl, hr, hb, hk⟩; have R2 := Lib.hid hr; have G2 := Lib.hid (G1.out.kp (Nat.ne_of_lt WR.out) hk); have B2 := Lib.hid (B1.out.trans hb); clear hr hb hk)
      | (go_at_call 65; (with_reducible refine (HT2.out _ R2.out).mono ?_); rintro e y3 ⟨rfl, hr, hb, hk⟩; have R3 := Lib.hid hr; have G3 := Lib.hid (G2.out.kp (Nat.ne_of_lt WR.out) hk); have B3 := Lib.hid (B2.out.trans hb); clear hr hb hk)
      | (go_at_call 67; (with_reducible refine (HT3.out _ R3.out).mono ?_); rintro e y4 ⟨rfl, hr, hb, hk⟩; have R4 := Lib.hid hr; have G4 := Lib.hid (G3.out.kp (Nat.ne_of_lt WR.out) hk); have B4 := Lib.hid (B3.out.trans hb); clear hr hb hk)
      | (go_at_call 63; (with_reducible refine (HT4.out _ R4.out).mono ?_); rintro e y5 ⟨rfl, hr, hb, hk⟩; have R5 := Lib.hid hr; have G5 := Lib.hid (G4.out.kp (Nat.ne_of_lt WR.out) hk); have B5 := Lib.hid (B4.out.trans hb); clear hr hb hk)
      | (go_at_call 69; (with_reducible refine (HT5.out _ R5.out).mono ?_); rintro e y6 ⟨A5, c5, rfl, ht, hr, hb, hk⟩; have R6 := Lib.hid hr; have T5 := Lib.hid ht; have G6 := Lib.hid (G5.out.kp (Nat.ne_of_lt WR.out) hk); have B6 := Lib.hid (B5.out.trans hb); clear hr hb hk ht)
      | (go_at_call 69; (with_reducible refine (HT6.out _ R6.out).mono ?_); rintro e y7 ⟨A6, c6, rfl, ht, hr, hb, hk⟩; have R7 := Lib.hid hr; have T6 := Lib.hid ht; have T5b := Lib.hid (T5.out.kpR R6.out hk); have G7 := Lib.hid (G6.out.kp (Nat.ne_of_lt WR.out) hk); have B7 := Lib.hid (B6.out.trans hb); clear hr hb hk ht)
      | (go_at_call 71; (with_reducible refine (HT7.out _ R7.out).mono ?_); rintro e y8 ⟨rfl, hr, hb, hk⟩; have R8 := Lib.hid hr; have G8 := Lib.hid (G7.out.kp (Nat.ne_of_lt WR.out) hk); have B8 := Lib.hid (B7.out.trans hb); have T5c := Lib.hid (T5b.out.kpR R7.out hk); have T6c := Lib.hid (T6.out.kpR R7.out hk); clear hr hb hk; rw [show (lvk [d, a3, a4, a5, a6, a7, a8]).toArray = #[.slice none 0 0, .slice none 0 0, .int .i64 d, .int .i64 a3, .int .i64 a4, .int .i64 a5, .int .i64 a6, .int .i64 a7, .int .i64 a8] from rfl])
      | (refine store_as rfl 29 _ _ rfl [.string ⟨#[]⟩, .int .i64 0, .int .i64 0, .bool false, .string ⟨#[]⟩, .slice none 0 0, .slice none 0 0, .slice none 0 0, .slice none 0 0, .int .i64 0, .int .i64 0, .int .i64 0, .int .i64 0, .int .i64 0, .int .i64 0, .int .i64 0] [.string x0, .int .i64 x1, .int .i64 x2, .bool x3, .string x4, .slice A5 0 c5, .slice A6 0 c6, .slice none 0 0, .slice none 0 0, .int .i64 d, .int .i64 a3, .int .i64 a4, .int .i64 a5, .int .i64 a6, .int .i64 a7, .int .i64 a8] rfl rfl rfl size29 (by simp [Value.oneCell']) ?_; intro y9 hx hb; have F9 := Lib.hid hx; have R9 := Lib.hid (R8.out.below hb); have G9 := Lib.hid (G8.out.below hb); have B9 := Lib.hid (B8.out.trans (hb.mono (Nat.le_of_lt R8.out.lt))); have T5d := Lib.hid (T5c.out.below hb); have T6d := Lib.hid (T6c.out.below hb); clear hx hb)
      | (go_at_call 72; (with_reducible refine (ended72 rb z9 f9 true HQ.out _ R9.out).mono ?_); rintro e y10 ⟨rfl, rfl⟩)
      | (refine wpList_load_mid rfl 29 _ rfl _ 0 rfl [.string x0, .int .i64 x1, .int .i64 x2, .bool x3, .string x4, .slice A5 0 c5, .slice A6 0 c6, .slice none 0 0, .slice none 0 0, .int .i64 d, .int .i64 a3, .int .i64 a4, .int .i64 a5, .int .i64 a6, .int .i64 a7, .int .i64 a8] _ F9.out.range Tryz.underlying29 rfl size29 ?_)
      | (refine store_mid_as rfl 29 _ _ rfl w.heap.size 0 (#[.string x0, .int .i64 x1, .int .i64 x2, .bool x3, .string x4, .slice A5 0 c5, .slice A6 0 c6, .slice none 0 0, .slice none 0 0, .int .i64 d, .int .i64 a3, .int .i64 a4, .int .i64 a5, .int .i64 a6, .int .i64 a7, .int .i64 a8] : Array Value) rfl rfl (Blk.there (n := 16) G9.out (Nat.le_refl 16)) size29 (by simp [Value.oneCell']) ?_; intro wz ez; have EZ := Lib.hid ez; clear ez)
      | fail)
    (try simp only [Exit.inBlock, Exit.then])
    refine bodyPost_ret (results_cell_tmp_blk rfl _ _ w.heap.size [.string x0, .int .i64 x1, .int .i64 x2, .bool x3, .string x4, .slice A5 0 c5, .slice A6 0 c6, .slice none 0 0, .slice none 0 0, .int .i64 d, .int .i64 a3, .int .i64 a4, .int .i64 a5, .int .i64 a6, .int .i64 a7, .int .i64 a8] 29 _ rfl (by rw [EZ.out]; exact Blk.setAll G9.out _ rfl) Tryz.underlying29 rfl size29) rfl ?_
    unfold DcP
    rw [EZ.out]
    exact ⟨⟨A5, c5, A6, c6, none, 0, none, 0⟩, rfl, T5d.out.nl, T6d.out.nl, ⟨rfl, rfl, rfl, rfl⟩, below_setAll (Nat.le_refl _) _ _ _ (BA.out.trans (B9.out.mono (Nat.le_of_lt WR.out)))⟩
end Go.Proofs.YtdacjnlfjaegiaaGreatDoor
