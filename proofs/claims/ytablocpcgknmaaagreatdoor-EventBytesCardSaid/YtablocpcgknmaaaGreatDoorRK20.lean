/- Stripping of a content. No condition. -/
import Derived.Test.YtablocpcgknmaaaGreatDoorRK14
import Derived.Test.YtablocpcgknmaaaGreatDoorRK16
import Derived.Test.YtablocpcgknmaaaGreatDoorRK19
namespace Go.Proofs.YtablocpcgknmaaaGreatDoor
open Go.Lib (hid)
open Go Go.RowKit
set_option linter.unusedVariables false
set_option linter.unusedSimpArgs false
set_option maxRecDepth 100000

def gB (s : Int) (j i : Nat) : Bool := decide (i < j) && hasB s (i : Int)
/-- Of a content the fields before j that s has. -/
def kc (s : Int) (C : Cn) (j : Nat) : Cn := ⟨if gB s j 0 = true then C.tx else ⟨#[]⟩, if gB s j 1 = true then C.n else 0, if gB s j 2 = true then C.tg else 0, if gB s j 3 = true then C.th else false, if gB s j 4 = true then C.via else ⟨#[]⟩, if gB s j 5 = true then C.al else [], if gB s j 6 = true then C.dn else [], if gB s j 7 = true then C.us else [], if gB s j 7 = true then C.ks else [], if gB s j 7 = true then C.d else 0, if gB s j 7 = true then C.x3 else 0, if gB s j 7 = true then C.x4 else 0, if gB s j 7 = true then C.x5 else 0, if gB s j 7 = true then C.x6 else 0, if gB s j 7 = true then C.x7 else 0, if gB s j 7 = true then C.x8 else 0⟩
def setF (i : Nat) (L C : Cn) : Cn := match i with
 | 0 => { L with tx := C.tx }
 | 1 => { L with n := C.n }
 | 2 => { L with tg := C.tg }
 | 3 => { L with th := C.th }
 | 4 => { L with via := C.via }
 | 5 => { L with al := C.al }
 | 6 => { L with dn := C.dn }
 | _ => { L with us := C.us, ks := C.ks, d := C.d, x3 := C.x3, x4 := C.x4, x5 := C.x5, x6 := C.x6, x7 := C.x7, x8 := C.x8 }
structure SmC (C : Cn) : Prop where
 al : C.al.length ≤ 100000
 dn : C.dn.length ≤ 100000
 us : C.us.length ≤ 100000
 ks : C.ks.length ≤ 100000
theorem gB_old {s : Int} {j i : Nat} (h : ¬ i = j) : gB s (j + 1) i = gB s j i := by unfold gB; rw [show decide (i < j + 1) = decide (i < j) from decide_eq_decide.2 (by omega)]
theorem gB_new {s : Int} {j : Nat} : gB s (j + 1) j = hasB s (j : Int) := by unfold gB; rw [decide_eq_true (Nat.lt_succ_self j), Bool.true_and]
theorem gB_at {s : Int} {j : Nat} : gB s j j = false := by unfold gB; rw [decide_eq_false (Nat.lt_irrefl j), Bool.false_and]
theorem kc_yes {s : Int} (C : Cn) {j : Nat} (hj : j < 8) (h : hasB s (j : Int) = true) : kc s C (j + 1) = setF j (kc s C j) C := by
 have g1 : gB s (j + 1) j = true := gB_new.trans h
 match j, hj with
 | 0, _ => show kc s C (0 + 1) = _; unfold kc setF; simp only [g1, gB_old (s := s) (j := 0) (i := 1) (by decide), gB_old (s := s) (j := 0) (i := 2) (by decide), gB_old (s := s) (j := 0) (i := 3) (by decide), gB_old (s := s) (j := 0) (i := 4) (by decide), gB_old (s := s) (j := 0) (i := 5) (by decide), gB_old (s := s) (j := 0) (i := 6) (by decide), gB_old (s := s) (j := 0) (i := 7) (by decide)]; rfl
 | 1, _ => show kc s C (1 + 1) = _; unfold kc setF; simp only [g1, gB_old (s := s) (j := 1) (i := 0) (by decide), gB_old (s := s) (j := 1) (i := 2) (by decide), gB_old (s := s) (j := 1) (i := 3) (by decide), gB_old (s := s) (j := 1) (i := 4) (by decide), gB_old (s := s) (j := 1) (i := 5) (by decide), gB_old (s := s) (j := 1) (i := 6) (by decide), gB_old (s := s) (j := 1) (i := 7) (by decide)]; rfl
 | 2, _ => show kc s C (2 + 1) = _; unfold kc setF; simp only [g1, gB_old (s := s) (j := 2) (i := 0) (by decide), gB_old (s := s) (j := 2) (i := 1) (by decide), gB_old (s := s) (j := 2) (i := 3) (by decide), gB_old (s := s) (j := 2) (i := 4) (by decide), gB_old (s := s) (j := 2) (i := 5) (by decide), gB_old (s := s) (j := 2) (i := 6) (by decide), gB_old (s := s) (j := 2) (i := 7) (by decide)]; rfl
 | 3, _ => show kc s C (3 + 1) = _; unfold kc setF; simp only [g1, gB_old (s := s) (j := 3) (i := 0) (by decide), gB_old (s := s) (j := 3) (i := 1) (by decide), gB_old (s := s) (j := 3) (i := 2) (by decide), gB_old (s := s) (j := 3) (i := 4) (by decide), gB_old (s := s) (j := 3) (i := 5) (by decide), gB_old (s := s) (j := 3) (i := 6) (by decide), gB_old (s := s) (j := 3) (i := 7) (by decide)]; rfl
 | 4, _ => show kc s C (4 + 1) = _; unfold kc setF; simp only [g1, gB_old (s := s) (j := 4) (i := 0) (by decide), gB_old (s := s) (j := 4) (i := 1) (by decide), gB_old (s := s) (j := 4) (i := 2) (by decide), gB_old (s := s) (j := 4) (i := 3) (by decide), gB_old (s := s) (j := 4) (i := 5) (by decide), gB_old (s := s) (j := 4) (i := 6) (by decide), gB_old (s := s) (j := 4) (i := 7) (by decide)]; rfl
 | 5, _ => show kc s C (5 + 1) = _; unfold kc setF; simp only [g1, gB_old (s := s) (j := 5) (i := 0) (by decide), gB_old (s := s) (j := 5) (i := 1) (by decide), gB_old (s := s) (j := 5) (i := 2) (by decide), gB_old (s := s) (j := 5) (i := 3) (by decide), gB_old (s := s) (j := 5) (i := 4) (by decide), gB_old (s := s) (j := 5) (i := 6) (by decide), gB_old (s := s) (j := 5) (i := 7) (by decide)]; rfl
 | 6, _ => show kc s C (6 + 1) = _; unfold kc setF; simp only [g1, gB_old (s := s) (j := 6) (i := 0) (by decide), gB_old (s := s) (j := 6) (i := 1) (by decide), gB_old (s := s) (j := 6) (i := 2) (by decide), gB_old (s := s) (j := 6) (i := 3) (by decide), gB_old (s := s) (j := 6) (i := 4) (by decide), gB_old (s := s) (j := 6) (i := 5) (by decide), gB_old (s := s) (j := 6) (i := 7) (by decide)]; rfl
 | 7, _ => show kc s C (7 + 1) = _; unfold kc setF; simp only [g1, gB_old (s := s) (j := 7) (i := 0) (by decide), gB_old (s := s) (j := 7) (i := 1) (by decide), gB_old (s := s) (j := 7) (i := 2) (by decide), gB_old (s := s) (j := 7) (i := 3) (by decide), gB_old (s := s) (j := 7) (i := 4) (by decide), gB_old (s := s) (j := 7) (i := 5) (by decide), gB_old (s := s) (j := 7) (i := 6) (by decide)]; rfl
theorem kc_no {s : Int} (C : Cn) {j : Nat} (hj : j < 8) (h : hasB s (j : Int) = false) : kc s C (j + 1) = kc s C j := by
 have g1 : gB s (j + 1) j = gB s j j := (gB_new.trans h).trans gB_at.symm
 have g2 : ∀ i, gB s (j + 1) i = gB s j i := fun i => by
  by_cases e : i = j
  ·rw [e]; exact g1
  ·exact gB_old e
 unfold kc
 rw [g2, g2, g2, g2, g2, g2, g2, g2]
theorem cp_any (i : Nat) (hi : i < 8) (C : Cn) (a : Ads) (L : Cn) (aL : Ads) (b : Nat) (hs : SmC C) (w : World) (h : Lf w b L aL) (hc : IsC w C a) : Calls Tryz.prog (f1 i) #[.pointer (some ⟨b, 0, none⟩), .agg (ccs C a).toArray] w (CpP b w (setF i L C)) := by
 match i, hi with
 | 0, _ => exact cp0 C a L aL b w h hc
 | 1, _ => exact cp1 C a L aL b w h hc
 | 2, _ => exact cp2 C a L aL b w h hc
 | 3, _ => exact cp3 C a L aL b w h hc
 | 4, _ => exact cp4 C a L aL b w h hc
 | 5, _ => exact cp5 C a L aL b w h hc hs.al
 | 6, _ => exact cp6 C a L aL b w h hc hs.dn
 | 7, _ => exact cp7 C a L aL b w h hc hs.us hs.ks
theorem enter1 (i : Nat) (hi : i < 8) : ∀ args w, (callFunc (f1 i) args).run Tryz.prog w = .ok (.enter (f1 i) args) w := by
 match i, hi with
 | 0, _ => intro args w; rfl
 | 1, _ => intro args w; rfl
 | 2, _ => intro args w; rfl
 | 3, _ => intro args w; rfl
 | 4, _ => intro args w; rfl
 | 5, _ => intro args w; rfl
 | 6, _ => intro args w; rfl
 | 7, _ => intro args w; rfl
theorem IsC.otherC {w : World} {C : Cn} {a : Ads} (h : IsC w C a) (g o : Nat) (vs : List Value) (hp : ApC g C a) : IsC (w.setCells g o vs) C a :=
 ⟨h.al.otherAll g o vs hp.al, h.dn.otherAll g o vs hp.dn, ⟨h.lv.us.otherAll g o vs hp.us, h.lv.ks.otherAll g o vs hp.ks, h.lv.fu, h.lv.fk, h.lv.nm⟩, h.tx, h.via, h.n, h.tg⟩
/-- What Strip gives. -/
def strip (k : Int) (C : Cn) : Cn := if kdB k = true then kc (kpT k) C 8 else c0
/-- As StP; its lists are new. -/
def StN (C : Cn) (w : World) (e : Ending) (w' : World) : Prop := ∃ aL, e = .returned (.agg (ccs C aL).toArray) ∧ IsC w' C aL ∧ Below w.heap.size w w' ∧ ∀ g, g < w.heap.size → ApC g C aL
/-- As StP; its lists are those of another content. -/
def StS (C0 : Cn) (a : Ads) (C : Cn) (w : World) (e : Ending) (w' : World) : Prop := ∃ aL, e = .returned (.agg (ccs C aL).toArray) ∧ IsC w' C aL ∧ Below w.heap.size w w' ∧ ∀ g, ApC g C0 a → ApC g C aL
def StP (C : Cn) (w : World) (e : Ending) (w' : World) : Prop := ∃ aL, e = .returned (.agg (ccs C aL).toArray) ∧ IsC w' C aL ∧ Below w.heap.size w w'
theorem c0_gt (g : Nat) : GtC g c0 ad0 := ⟨fun h => absurd h (by decide), fun h => absurd h (by decide), fun h => absurd h (by decide), fun h => absurd h (by decide)⟩
set_option maxHeartbeats 16000000 in
theorem strip21 (k : Int) (C : Cn) (a : Ads) (w : World) (h : IsC w C a) (hs : SmC C) (hl : Lt w) : Calls Tryz.prog 53 #[.int .i64 k, .agg (ccs C a).toArray] w (StN (strip k C) w) := by
 unfold StN
 have HS0 : Hid (strip k C = if kdB k = true then kc (kpT k) C 8 else c0) := hid rfl
 generalize strip k C = r at HS0 ⊢
 obtain ⟨CC, hCC⟩ : ∃ CC, CC = C := ⟨_, rfl⟩
 obtain ⟨AD, hAD⟩ : ∃ AD, AD = a := ⟨_, rfl⟩
 have HC0 := hid (fun i hi L aL b => cp_any i hi CC AD L aL b (by rw [hCC]; exact hs))
 have HI0 := hid h
 have HL0 := hid hl
 rw [← hCC] at HS0 HI0
 rw [← hAD] at HI0
 clear h hs hl
 obtain ⟨tx, n, tg, th, via, al, dn, us, ks, d, x3, x4, x5, x6, x7, x8⟩ := C
 obtain ⟨aA, aC, dA, dC, uA, uC, kA, kC⟩ := a
 have hcc : (ccs CC AD).toArray = #[.string tx, .int .i64 n, .int .i64 tg, .bool th, .string via, .slice aA al.length aC, .slice dA dn.length dC, .slice uA us.length uC, .slice kA ks.length kC, .int .i64 d, .int .i64 x3, .int .i64 x4, .int .i64 x5, .int .i64 x6, .int .i64 x7, .int .i64 x8] := by rw [hCC, hAD]
 rw [hcc] at HC0
 clear hcc hCC hAD
 have BA := hid (((Below.refl w.heap.size w).alloc (Nat.le_refl _) (.cells #[.string tx, .int .i64 n, .int .i64 tg, .bool th, .string via, .slice aA al.length aC, .slice dA dn.length dC, .slice uA us.length uC, .slice kA ks.length kC, .int .i64 d, .int .i64 x3, .int .i64 x4, .int .i64 x5, .int .i64 x6, .int .i64 x7, .int .i64 x8] 30)).alloc (by simp) (.cells #[.string ⟨#[]⟩, .int .i64 0, .int .i64 0, .bool false, .string ⟨#[]⟩, .slice none 0 0, .slice none 0 0, .slice none 0 0, .slice none 0 0, .int .i64 0, .int .i64 0, .int .i64 0, .int .i64 0, .int .i64 0, .int .i64 0, .int .i64 0] 30))
 have XA := hid ((blk_new w [.string tx, .int .i64 n, .int .i64 tg, .bool th, .string via, .slice aA al.length aC, .slice dA dn.length dC, .slice uA us.length uC, .slice kA ks.length kC, .int .i64 d, .int .i64 x3, .int .i64 x4, .int .i64 x5, .int .i64 x6, .int .i64 x7, .int .i64 x8] 30).alloc (.cells #[.string ⟨#[]⟩, .int .i64 0, .int .i64 0, .bool false, .string ⟨#[]⟩, .slice none 0 0, .slice none 0 0, .slice none 0 0, .slice none 0 0, .int .i64 0, .int .i64 0, .int .i64 0, .int .i64 0, .int .i64 0, .int .i64 0, .int .i64 0] 30))
 have RA := hid (blk_new2 w (.cells #[.string tx, .int .i64 n, .int .i64 tg, .bool th, .string via, .slice aA al.length aC, .slice dA dn.length dC, .slice uA us.length uC, .slice kA ks.length kC, .int .i64 d, .int .i64 x3, .int .i64 x4, .int .i64 x5, .int .i64 x6, .int .i64 x7, .int .i64 x8] 30) [.string ⟨#[]⟩, .int .i64 0, .int .i64 0, .bool false, .string ⟨#[]⟩, .slice none 0 0, .slice none 0 0, .slice none 0 0, .slice none 0 0, .int .i64 0, .int .i64 0, .int .i64 0, .int .i64 0, .int .i64 0, .int .i64 0, .int .i64 0] 30)
 have IA := hid (HI0.out.below BA.out)
 have LA := hid (HL0.out.below BA.out)
 have RB := hid RA.out.lt
 show Calls Tryz.prog 53 #[.int .i64 k, .agg #[.string tx, .int .i64 n, .int .i64 tg, .bool th, .string via, .slice aA al.length aC, .slice dA dn.length dC, .slice uA us.length uC, .slice kA ks.length kC, .int .i64 d, .int .i64 x3, .int .i64 x4, .int .i64 x5, .int .i64 x6, .int .i64 x7, .int .i64 x8]] w _
 generalize hW : (w.alloc (.cells #[.string tx, .int .i64 n, .int .i64 tg, .bool th, .string via, .slice aA al.length aC, .slice dA dn.length dC, .slice uA us.length uC, .slice kA ks.length kC, .int .i64 d, .int .i64 x3, .int .i64 x4, .int .i64 x5, .int .i64 x6, .int .i64 x7, .int .i64 x8] 30)).alloc (.cells #[.string ⟨#[]⟩, .int .i64 0, .int .i64 0, .bool false, .string ⟨#[]⟩, .slice none 0 0, .slice none 0 0, .slice none 0 0, .slice none 0 0, .int .i64 0, .int .i64 0, .int .i64 0, .int .i64 0, .int .i64 0, .int .i64 0, .int .i64 0] 30) = WA at BA XA RA IA LA RB
 cases hk : kdB k with
 | false =>
  have HS : Hid (r = c0) := hid (HS0.out.trans (by rw [if_neg (by rw [hk]; decide)]))
  have HK := hid (fun w => kind_q 94 rfl k false hk w)
  clear HS0 hk HC0 HI0 HL0
  go_enter Tryz.func53, Tryz.ntmps53
  go_upto_region 3 with (first
   | (refine store_as rfl 30 _ _ rfl [.string ⟨#[]⟩, .int .i64 0, .int .i64 0, .bool false, .string ⟨#[]⟩, .slice none 0 0, .slice none 0 0, .slice none 0 0, .slice none 0 0, .int .i64 0, .int .i64 0, .int .i64 0, .int .i64 0, .int .i64 0, .int .i64 0, .int .i64 0] [.string ⟨#[]⟩, .int .i64 0, .int .i64 0, .bool false, .string ⟨#[]⟩, .slice none 0 0, .slice none 0 0, .slice none 0 0, .slice none 0 0, .int .i64 0, .int .i64 0, .int .i64 0, .int .i64 0, .int .i64 0, .int .i64 0, .int .i64 0] rfl rfl rfl size29 (by simp [Value.oneCell']) ?_; intro w1 hx hb; have F1 := hid (show Lf w1 WA.heap.size c0 ad0 from ⟨hx, c0_is w1, c0_gt _⟩); have B1 := hid hb; clear hx hb)
   | (go_at_call 94; (with_reducible refine (HK.out _).mono ?_); rintro e w2 ⟨rfl, rfl⟩)
   | (fail))
  go_wp2_with (first
   | (refine wpList_load_mid rfl 30 _ rfl WA.heap.size 0 rfl (ccs c0 ad0) _ F1.out.blk.range Tryz.underlying30 rfl size29 ?_)
   | (refine store_mid_as rfl 30 _ _ rfl (w.heap.size + 1) 0 (ccs c0 ad0).toArray rfl rfl (Blk.there (n := 16) (RA.out.below B1.out) (Nat.le_refl 16)) size29 (by simp [Value.oneCell']) ?_; intro wz ez; have EZ := hid ez; clear ez)
   | fail)
  (try simp only [Exit.inBlock, Exit.then])
  refine bodyPost_ret (results_cell_mid rfl _ _ (w.heap.size + 1) (ccs c0 ad0) 30 _ rfl (by rw [EZ.out]; exact Blk.setAll (RA.out.below B1.out) _ rfl) Tryz.underlying30 rfl size29) rfl ?_
  refine ⟨ad0, ?_, ?_, ?_, ?_⟩
  ·rw [HS.out]
  ·rw [HS.out, EZ.out]; exact F1.out.is.otherC (w.heap.size + 1) 0 _ (F1.out.gt.ap (Nat.le_of_lt RB.out))
  ·rw [EZ.out]; exact below_setAll (Nat.le_succ _) _ _ _ (BA.out.trans (B1.out.mono BA.out.size))
  ·rw [HS.out]; exact fun g hg => (c0_gt g).ap (Nat.le_refl g)
 | true =>
  have HS1 : Hid (r = kc (kpT k) CC 8) := hid (HS0.out.trans (by rw [if_pos hk]))
  have HK := hid (fun w => kind_q 94 rfl k true hk w)
  obtain ⟨kn, rfl, hkn⟩ : ∃ kn : Nat, k = (kn : Int) ∧ kn < 15 := by
   have := of_decide_eq_true hk
   exact ⟨k.toNat, by omega, by omega⟩
  have hk0 : (0 : Int) ≤ (kn : Int) := by omega
  have hk1 : (kn : Int) < 15 := by omega
  clear HS0 hk HI0 HL0
  go_enter Tryz.func53, Tryz.ntmps53
  go_upto_region 5 with (first
   | (refine store_as rfl 30 _ _ rfl [.string ⟨#[]⟩, .int .i64 0, .int .i64 0, .bool false, .string ⟨#[]⟩, .slice none 0 0, .slice none 0 0, .slice none 0 0, .slice none 0 0, .int .i64 0, .int .i64 0, .int .i64 0, .int .i64 0, .int .i64 0, .int .i64 0, .int .i64 0] [.string ⟨#[]⟩, .int .i64 0, .int .i64 0, .bool false, .string ⟨#[]⟩, .slice none 0 0, .slice none 0 0, .slice none 0 0, .slice none 0 0, .int .i64 0, .int .i64 0, .int .i64 0, .int .i64 0, .int .i64 0, .int .i64 0, .int .i64 0] rfl rfl rfl size29 (by simp [Value.oneCell']) ?_; intro w1 hx hb; have F1 := hid (show Lf w1 WA.heap.size c0 ad0 from ⟨hx, c0_is w1, c0_gt _⟩); have B0 := hid hb; clear hx hb)
   | (go_at_call 94; (with_reducible refine (HK.out _).mono ?_); rintro e w2 ⟨rfl, rfl⟩)
   | (go_at_call 95; refine (fields36 _).mono ?_; rintro e w2 ⟨rfl, hb⟩; have F2 := hid (F1.out.below hb); have B1 := hid (B0.out.trans (hb.mono B0.out.size)); clear hb)
   | (fail))
  go_loopw [14] (fun s wr => ∃ j : Nat, j ≤ 8 ∧ s = .int .i64 (j : Int) ∧ ∃ aL, Hid (Lf wr WA.heap.size (kc (kpT (kn : Int)) CC j) aL) ∧ Hid (Below WA.heap.size w2 wr) ∧ Hid (WA.heap.size ≤ wr.heap.size)) (fun s _ => 8 - (intOf s).toNat)
  case atStart => exact ⟨0, by omega, rfl, ad0, F2, hid (Below.refl _ _), hid B1.out.size⟩
  case round =>
   obtain ⟨j, hj, rfl, aL, LR, BR, SZ⟩ := hrel
   by_cases hlt : j < 8
   ·have hltz : (j : Int) < 8 := by omega
    have hj0 : (0 : Int) ≤ (j : Int) := by omega
    have ix := ix52 j hlt
    unfold FA at ix
    have en := enter1 j hlt
    have HC := hid (HC0.out j hlt (kc (kpT (kn : Int)) CC j) aL WA.heap.size)
    have HH0 := hid (fun q hq w => has37 (kpT (kn : Int)) (j : Int) hj0 hltz q hq w)
    cases e1 : hasB (kpT (kn : Int)) (j : Int) with
    | false =>
     have HH := hid (HH0.out false e1)
     have HN := hid (kc_no CC hlt e1)
     go_wp2_with (first
      | (refine store_as rfl 115 _ _ rfl [.nilFunc, .nilFunc, .nilFunc] [.func (.func (f0 j)) #[] #[], .func (.func (f1 j)) #[] #[], .func (.func (f2 j)) #[] #[]] rfl rfl rfl size51 (by simp [Value.oneCell']) ?_; intro w3 hx hb; have X3 := hid hx; have Bq := hid hb; have B3 := hid (BR.out.trans (hb.mono SZ.out)); have F3 := hid (LR.out.below hb); clear hx hb; have y1 := X3.out.cell (i := 1) rfl; have BW3 := hid (B1.out.trans (B3.out.mono (Nat.le_refl _))); have XC := hid (XA.out.below BW3.out); have u0 := (LA.out.below BW3.out).kp kn hkn; rw [show kpL.getD kn 0 = kpT (kn : Int) from rfl] at u0)
      | (refine wpList_load_mid rfl 30 _ rfl w.heap.size 0 rfl [.string tx, .int .i64 n, .int .i64 tg, .bool th, .string via, .slice aA al.length aC, .slice dA dn.length dC, .slice uA us.length uC, .slice kA ks.length kC, .int .i64 d, .int .i64 x3, .int .i64 x4, .int .i64 x5, .int .i64 x6, .int .i64 x7, .int .i64 x8] _ XC.out.range Tryz.underlying30 rfl size29 ?_)
      | (go_at_fn (f1 j); (with_reducible refine (HC.out w3 F3.out (IA.out.below BW3.out)).mono ?_); rintro e w4 ⟨rfl, ⟨aL2, hl⟩, hb⟩; have F4 := hid hl; have B4 := hid (B3.out.trans hb); have S4 := hid (Nat.le_trans SZ.out (Nat.le_trans Bq.out.size hb.size)); clear hl hb y1)
      | (go_at_call 96; (with_reducible refine (HH.out _).mono ?_); rintro e w5 ⟨rfl, rfl⟩)
      | fail)
     go_roundw
     case rel => exact ⟨j + 1, by omega, by go_num, aL, hid (by rw [HN.out]; exact F3.out), hid B3.out, hid (Nat.le_trans SZ.out Bq.out.size)⟩
     case measure => simp [intOf]; omega
    | true =>
     have HH := hid (HH0.out true e1)
     have HN := hid (kc_yes CC hlt e1)
     go_wp2_with (first
      | (refine store_as rfl 115 _ _ rfl [.nilFunc, .nilFunc, .nilFunc] [.func (.func (f0 j)) #[] #[], .func (.func (f1 j)) #[] #[], .func (.func (f2 j)) #[] #[]] rfl rfl rfl size51 (by simp [Value.oneCell']) ?_; intro w3 hx hb; have X3 := hid hx; have Bq := hid hb; have B3 := hid (BR.out.trans (hb.mono SZ.out)); have F3 := hid (LR.out.below hb); clear hx hb; have y1 := X3.out.cell (i := 1) rfl; have BW3 := hid (B1.out.trans (B3.out.mono (Nat.le_refl _))); have XC := hid (XA.out.below BW3.out); have u0 := (LA.out.below BW3.out).kp kn hkn; rw [show kpL.getD kn 0 = kpT (kn : Int) from rfl] at u0)
      | (refine wpList_load_mid rfl 30 _ rfl w.heap.size 0 rfl [.string tx, .int .i64 n, .int .i64 tg, .bool th, .string via, .slice aA al.length aC, .slice dA dn.length dC, .slice uA us.length uC, .slice kA ks.length kC, .int .i64 d, .int .i64 x3, .int .i64 x4, .int .i64 x5, .int .i64 x6, .int .i64 x7, .int .i64 x8] _ XC.out.range Tryz.underlying30 rfl size29 ?_)
      | (go_at_fn (f1 j); (with_reducible refine (HC.out w3 F3.out (IA.out.below BW3.out)).mono ?_); rintro e w4 ⟨rfl, ⟨aL2, hl⟩, hb⟩; have F4 := hid hl; have B4 := hid (B3.out.trans hb); have S4 := hid (Nat.le_trans SZ.out (Nat.le_trans Bq.out.size hb.size)); clear hl hb y1)
      | (go_at_call 96; (with_reducible refine (HH.out _).mono ?_); rintro e w5 ⟨rfl, rfl⟩)
      | fail)
     go_roundw
     case rel => exact ⟨j + 1, by omega, by go_num, aL2, hid (by rw [HN.out]; exact F4.out), hid B4.out, S4⟩
     case measure => simp [intOf]; omega
   ·have hltz : ¬ (j : Int) < 8 := by omega
    have hj8 : j = 8 := by omega
    have HS : Hid (r = kc (kpT (kn : Int)) CC j) := hid (HS1.out.trans (by rw [hj8]))
    have BW := hid (B1.out.trans BR.out)
    clear HS1 hj8 hj
    go_wp2_with (first
     | (refine wpList_load_mid rfl 30 _ rfl WA.heap.size 0 rfl (ccs (kc (kpT (kn : Int)) CC j) aL) _ LR.out.blk.range Tryz.underlying30 rfl size29 ?_)
     | (refine store_mid_as rfl 30 _ _ rfl (w.heap.size + 1) 0 (ccs (kc (kpT (kn : Int)) CC j) aL).toArray rfl rfl (Blk.there (n := 16) (RA.out.at_ BW.out RB.out) (Nat.le_refl 16)) size29 (by simp [Value.oneCell']) ?_; intro wz ez; have EZ := hid ez; clear ez)
     | fail)
    (try simp only [Exit.inBlock, Exit.then])
    refine bodyPost_ret (results_cell_mid rfl _ _ (w.heap.size + 1) (ccs (kc (kpT (kn : Int)) CC j) aL) 30 _ rfl (by rw [EZ.out]; exact Blk.setAll (RA.out.at_ BW.out RB.out) _ rfl) Tryz.underlying30 rfl size29) rfl ?_
    refine ⟨aL, ?_, ?_, ?_, ?_⟩
    ·rw [HS.out]
    ·rw [HS.out, EZ.out]; exact LR.out.is.otherC (w.heap.size + 1) 0 _ (LR.out.gt.ap (Nat.le_of_lt RB.out))
    ·rw [EZ.out]; exact below_setAll (Nat.le_succ _) _ _ _ (BA.out.trans (BW.out.mono BA.out.size))
    ·rw [HS.out]; exact fun g hg => LR.out.gt.ap (Nat.le_trans (Nat.le_of_lt hg) (Nat.le_trans (Nat.le_succ _) (Nat.le_of_lt RB.out)))
end Go.Proofs.YtablocpcgknmaaaGreatDoor
