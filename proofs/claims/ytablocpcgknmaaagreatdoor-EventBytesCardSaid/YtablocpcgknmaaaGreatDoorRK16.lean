/- The check of a content. No condition. -/
import Derived.Test.YtablocpcgknmaaaGreatDoorRK7
import Derived.Test.YtablocpcgknmaaaGreatDoorRK15
import Derived.Shelf.Abstract
namespace Go.Proofs.YtablocpcgknmaaaGreatDoor
open Go.Lib (hid)
open Go Go.RowKit
set_option linter.unusedVariables false
set_option linter.unusedSimpArgs false
set_option maxRecDepth 100000

def f0 (i : Nat) : Nat := [148, 151, 154, 157, 160, 163, 167, 170].getD i 0
def f1 (i : Nat) : Nat := [149, 152, 155, 158, 161, 164, 168, 171].getD i 0
def f2 (i : Nat) : Nat := [150, 153, 156, 159, 162, 166, 169, 173].getD i 0
def hz (C : Cn) (i : Nat) : Bool := [(C.tx.toList == []), (C.n == 0), (C.tg == 0), (!C.th), (C.via.toList == []), ((C.al.length : Int) == 0), ((C.dn.length : Int) == 0), sameL C.us [] C.ks [] [C.d, C.x3, C.x4, C.x5, C.x6, C.x7, C.x8] [0, 0, 0, 0, 0, 0, 0]].getD i false
def ck (k : Int) (C : Cn) (i : Nat) : Int := [txE k C.tx, nmE k C.n, tgE k C.tg, thE C.th C.tg, viE C.n C.via, alE k C.n C.al, chkP C.dn, chkL C.us C.ks (nmL C.d C.x3 C.x4 C.x5 C.x6 C.x7 C.x8)].getD i 0
theorem ix52 (j : Nat) (hj : j < 8) (w : World) : (Instr.index 116 (.agg FA) (.int .i64 (j : Int))).run Tryz.prog w = .ok (.agg #[.func (.func (f0 j)) #[] #[], .func (.func (f1 j)) #[] #[], .func (.func (f2 j)) #[] #[]]) w := by
 match j, hj with
 | 0, _ => exact ix52_0 w
 | 1, _ => exact ix52_1 w
 | 2, _ => exact ix52_2 w
 | 3, _ => exact ix52_3 w
 | 4, _ => exact ix52_4 w
 | 5, _ => exact ix52_5 w
 | 6, _ => exact ix52_6 w
 | 7, _ => exact ix52_7 w
theorem isz_any (i : Nat) (hi : i < 8) (C : Cn) (a : Ads) (w : World) (h : IsC w C a) : Calls Tryz.prog (f0 i) #[.agg (ccs C a).toArray] w fun e w' => e = .returned (.bool (hz C i)) ∧ Below w.heap.size w w' := by
 match i, hi with
 | 0, _ => exact isz0 C a _ rfl w h
 | 1, _ => exact isz1 C a _ rfl w h
 | 2, _ => exact isz2 C a _ rfl w h
 | 3, _ => exact isz3 C a _ rfl w h
 | 4, _ => exact isz4 C a _ rfl w h
 | 5, _ => exact isz5 C a _ rfl w h
 | 6, _ => exact isz6 C a _ rfl w h
 | 7, _ => exact isz7 C a _ rfl w h
theorem chk_any (i : Nat) (hi : i < 8) (k : Int) (C : Cn) (a : Ads) (w : World) (h : IsC w C a) : Calls Tryz.prog (f2 i) #[.int .i64 k, .agg (ccs C a).toArray] w fun e w' => e = .returned (.int .i64 (ck k C i)) ∧ Below w.heap.size w w' := by
 match i, hi with
 | 0, _ => exact text85 k C a w h
 | 1, _ => exact number88 k C a w h
 | 2, _ => exact target91 k C a w h
 | 3, _ => exact thread94 k C a w h
 | 4, _ => exact via97 k C a w h
 | 5, _ => exact allow101 k C a w h
 | 6, _ => exact deny104 k C a w h
 | 7, _ => exact levels108 k C a w h
theorem enter0 (i : Nat) (hi : i < 8) : ∀ args w, (callFunc (f0 i) args).run Tryz.prog w = .ok (.enter (f0 i) args) w := by
 match i, hi with
 | 0, _ => intro args w; rfl
 | 1, _ => intro args w; rfl
 | 2, _ => intro args w; rfl
 | 3, _ => intro args w; rfl
 | 4, _ => intro args w; rfl
 | 5, _ => intro args w; rfl
 | 6, _ => intro args w; rfl
 | 7, _ => intro args w; rfl
theorem enter2 (i : Nat) (hi : i < 8) : ∀ args w, (callFunc (f2 i) args).run Tryz.prog w = .ok (.enter (f2 i) args) w := by
 match i, hi with
 | 0, _ => intro args w; rfl
 | 1, _ => intro args w; rfl
 | 2, _ => intro args w; rfl
 | 3, _ => intro args w; rfl
 | 4, _ => intro args w; rfl
 | 5, _ => intro args w; rfl
 | 6, _ => intro args w; rfl
 | 7, _ => intro args w; rfl
def badE (s : Int) (C : Cn) : Nat → Nat → Bool
 | _, 0 => false
 | i, n + 1 => (!hz C i && !hasB s i) || badE s C (i + 1) n
def azE (C : Cn) : Nat → Nat → Bool
 | _, 0 => true
 | i, n + 1 => hz C i && azE C (i + 1) n
def fstE (s k : Int) (C : Cn) : Nat → Nat → Int
 | _, 0 => 0
 | i, n + 1 => if hasB s i = true ∧ ¬ ck k C i = 0 then ck k C i else fstE s k C (i + 1) n
/-- What the check gives. -/
def pchk (k : Int) (C : Cn) : Int := if kdB k = false then 1 else if badE (usT k) C 0 8 = true then 1 else if azE C 0 8 = true ∧ kpT k = 0 then 0 else fstE (usT k) k C 0 8
theorem badE_step {s : Int} {C : Cn} {j : Nat} (h : j < 8) : badE s C j (8 - j) = ((!hz C j && !hasB s j) || badE s C (j + 1) (8 - (j + 1))) := by rw [show 8 - j = (8 - (j + 1)) + 1 by omega]; rfl
theorem azE_step {C : Cn} {j : Nat} (h : j < 8) : azE C j (8 - j) = (hz C j && azE C (j + 1) (8 - (j + 1))) := by rw [show 8 - j = (8 - (j + 1)) + 1 by omega]; rfl
theorem fstE_step {s k : Int} {C : Cn} {j : Nat} (h : j < 8) : fstE s k C j (8 - j) = if hasB s j = true ∧ ¬ ck k C j = 0 then ck k C j else fstE s k C (j + 1) (8 - (j + 1)) := by rw [show 8 - j = (8 - (j + 1)) + 1 by omega]; rfl
set_option maxHeartbeats 4000000 in
theorem vanish38 (kn : Nat) (hkn : kn < 15) (q : Bool) (hq : decide (kpT (kn : Int) = 0) = q) (w : World) (h : Lt w) : Calls Tryz.prog 97 #[.int .i64 (kn : Int)] w fun e w' => e = .returned (.bool q) ∧ w = w' := by
 have u0 := h.kp kn hkn
 rw [show kpL.getD kn 0 = kpT (kn : Int) from rfl] at u0
 generalize kpT (kn : Int) = v at u0 hq
 have hk0 : (0 : Int) ≤ (kn : Int) := by omega
 have hk1 : (kn : Int) < 15 := by omega
 by_cases e1 : v = 0
 ·rw [decide_eq_true e1] at hq
  subst hq
  subst e1
  go_enter Tryz.func97, Tryz.ntmps97
  go_wp2
  go_ret
  exact ⟨rfl, rfl⟩
 ·rw [decide_eq_false e1] at hq
  subst hq
  have z1 : (v == 0) = false := by simpa using e1
  go_enter Tryz.func97, Tryz.ntmps97
  go_wp2
  go_ret
  exact ⟨rfl, rfl⟩
set_option maxHeartbeats 16000000 in
theorem check14 (k : Int) (C : Cn) (a : Ads) (w : World) (h : IsC w C a) (hl : Lt w) : Calls Tryz.prog 46 #[.int .i64 k, .agg (ccs C a).toArray] w fun e w' => e = .returned (.int .i64 (pchk k C)) ∧ Below w.heap.size w w' := by
 have hq : pchk k C = _ := rfl
 generalize hr : pchk k C = r at hq ⊢
 have HQ : Hid (r = if kdB k = false then 1 else if badE (usT k) C 0 8 = true then 1 else if azE C 0 8 = true ∧ kpT k = 0 then 0 else fstE (usT k) k C 0 8) := hid (hr.symm.trans rfl)
 clear hq hr
 have HI0 := hid h
 have HL0 := hid hl
 have HZ0 := hid (fun i hi => isz_any i hi C a)
 have HC0 := hid (fun i hi => chk_any i hi k C a)
 clear h hl
 cases hk : kdB k with
 | false =>
  have HE : Hid (r = 1) := hid (HQ.out.trans (by rw [if_pos hk]))
  have HK := hid (fun w => kind_q 94 rfl k false hk w)
  clear HQ hk
  generalize (ccs C a) = cc
  go_enter Tryz.func46, Tryz.ntmps46
  go_wp2_with (first
   | (go_at_call 94; (with_reducible refine (HK.out _).mono ?_); rintro e w2 ⟨rfl, rfl⟩)
   | fail)
  go_ret
  exact ⟨by rw [HE.out]; rfl, (Below.refl _ _).alloc (Nat.le_refl _) _⟩
 | true =>
 have HQ2 : Hid (r = if badE (usT k) C 0 8 = true then 1 else if azE C 0 8 = true ∧ kpT k = 0 then 0 else fstE (usT k) k C 0 8) := hid (HQ.out.trans (by rw [if_neg (by rw [hk]; decide)]))
 have HK := hid (fun w => kind_q 94 rfl k true hk w)
 obtain ⟨kn, rfl, hkn⟩ : ∃ kn : Nat, k = (kn : Int) ∧ kn < 15 := by
  have := of_decide_eq_true hk
  exact ⟨k.toNat, by omega, by omega⟩
 have hk0 : (0 : Int) ≤ (kn : Int) := by omega
 have hk1 : (kn : Int) < 15 := by omega
 have hk2 : (kn : Int) ≤ 14 := by omega
 clear HQ hk
 obtain ⟨CC, hCC⟩ : ∃ CC, CC = C := ⟨_, rfl⟩
 obtain ⟨AD, hAD⟩ : ∃ AD, AD = a := ⟨_, rfl⟩
 rw [← hCC] at HQ2 HI0 HZ0 HC0
 rw [← hAD] at HI0 HZ0 HC0
 obtain ⟨tx, n, tg, th, via, al, dn, us, ks, d, x3, x4, x5, x6, x7, x8⟩ := C
 obtain ⟨aA, aC, dA, dC, uA, uC, kA, kC⟩ := a
 have hcc : (ccs CC AD).toArray = #[.string tx, .int .i64 n, .int .i64 tg, .bool th, .string via, .slice aA al.length aC, .slice dA dn.length dC, .slice uA us.length uC, .slice kA ks.length kC, .int .i64 d, .int .i64 x3, .int .i64 x4, .int .i64 x5, .int .i64 x6, .int .i64 x7, .int .i64 x8] := by rw [hCC, hAD]
 rw [hcc] at HZ0 HC0
 clear hcc hCC hAD
 have BA := hid ((Below.refl w.heap.size w).alloc (Nat.le_refl _) (.cells #[.string tx, .int .i64 n, .int .i64 tg, .bool th, .string via, .slice aA al.length aC, .slice dA dn.length dC, .slice uA us.length uC, .slice kA ks.length kC, .int .i64 d, .int .i64 x3, .int .i64 x4, .int .i64 x5, .int .i64 x6, .int .i64 x7, .int .i64 x8] 30))
 have XA := hid (blk_new w [.string tx, .int .i64 n, .int .i64 tg, .bool th, .string via, .slice aA al.length aC, .slice dA dn.length dC, .slice uA us.length uC, .slice kA ks.length kC, .int .i64 d, .int .i64 x3, .int .i64 x4, .int .i64 x5, .int .i64 x6, .int .i64 x7, .int .i64 x8] 30)
 have IA := hid (HI0.out.below BA.out)
 have LA := hid (HL0.out.below BA.out)
 show Calls Tryz.prog 46 #[.int .i64 (kn : Int), .agg #[.string tx, .int .i64 n, .int .i64 tg, .bool th, .string via, .slice aA al.length aC, .slice dA dn.length dC, .slice uA us.length uC, .slice kA ks.length kC, .int .i64 d, .int .i64 x3, .int .i64 x4, .int .i64 x5, .int .i64 x6, .int .i64 x7, .int .i64 x8]] w _
 generalize hW : w.alloc (.cells #[.string tx, .int .i64 n, .int .i64 tg, .bool th, .string via, .slice aA al.length aC, .slice dA dn.length dC, .slice uA us.length uC, .slice kA ks.length kC, .int .i64 d, .int .i64 x3, .int .i64 x4, .int .i64 x5, .int .i64 x6, .int .i64 x7, .int .i64 x8] 30) = W0 at BA XA IA LA
 go_enter Tryz.func46, Tryz.ntmps46
 go_upto_region 3 with (first
  | (go_at_call 94; (with_reducible refine (HK.out _).mono ?_); rintro e w2 ⟨rfl, rfl⟩)
  | (fail))
 go_wp2_with (first
  | (go_at_call 95; refine (fields36 _).mono ?_; rintro e w1 ⟨rfl, hb⟩; have B1 := hid (BA.out.trans (hb.mono BA.out.size)); have X1 := hid (XA.out.below hb); have I1 := hid (IA.out.below hb); have L1 := hid (LA.out.below hb); clear hb)
  | (refine store_as rfl 116 _ _ rfl [.nilFunc, .nilFunc, .nilFunc, .nilFunc, .nilFunc, .nilFunc, .nilFunc, .nilFunc, .nilFunc, .nilFunc, .nilFunc, .nilFunc, .nilFunc, .nilFunc, .nilFunc, .nilFunc, .nilFunc, .nilFunc, .nilFunc, .nilFunc, .nilFunc, .nilFunc, .nilFunc, .nilFunc] [.func (.func 148) #[] #[], .func (.func 149) #[] #[], .func (.func 150) #[] #[], .func (.func 151) #[] #[], .func (.func 152) #[] #[], .func (.func 153) #[] #[], .func (.func 154) #[] #[], .func (.func 155) #[] #[], .func (.func 156) #[] #[], .func (.func 157) #[] #[], .func (.func 158) #[] #[], .func (.func 159) #[] #[], .func (.func 160) #[] #[], .func (.func 161) #[] #[], .func (.func 162) #[] #[], .func (.func 163) #[] #[], .func (.func 164) #[] #[], .func (.func 166) #[] #[], .func (.func 167) #[] #[], .func (.func 168) #[] #[], .func (.func 169) #[] #[], .func (.func 170) #[] #[], .func (.func 171) #[] #[], .func (.func 173) #[] #[]] rfl rfl rfl size52 (by simp [Value.oneCell']) ?_; intro w2 hx hb; have B2 := hid (B1.out.trans (hb.mono B1.out.size)); have T2 := hid hx; have X2 := hid (X1.out.below hb); have I2 := hid (I1.out.below hb); have L2 := hid (L1.out.below hb); clear hx hb)
  | (refine wpList_load_mid rfl 116 _ rfl _ 0 rfl [.func (.func 148) #[] #[], .func (.func 149) #[] #[], .func (.func 150) #[] #[], .func (.func 151) #[] #[], .func (.func 152) #[] #[], .func (.func 153) #[] #[], .func (.func 154) #[] #[], .func (.func 155) #[] #[], .func (.func 156) #[] #[], .func (.func 157) #[] #[], .func (.func 158) #[] #[], .func (.func 159) #[] #[], .func (.func 160) #[] #[], .func (.func 161) #[] #[], .func (.func 162) #[] #[], .func (.func 163) #[] #[], .func (.func 164) #[] #[], .func (.func 166) #[] #[], .func (.func 167) #[] #[], .func (.func 168) #[] #[], .func (.func 169) #[] #[], .func (.func 170) #[] #[], .func (.func 171) #[] #[], .func (.func 173) #[] #[]] _ T2.out.range Tryz.underlying116 rfl size52 ?_)
  | fail)
 clear HI0 HL0 HK hW BA XA IA LA B1 X1 I1 L1
 go_loopw [18, 6] (fun s z wr => ∃ j : Nat, j ≤ 8 ∧ s = .int .i64 (j : Int) ∧ ∃ zj : Bool, z = .bool zj ∧ Hid (Below w2.heap.size w2 wr) ∧ Hid (badE (usT (kn : Int)) CC 0 8 = badE (usT (kn : Int)) CC j (8 - j)) ∧ Hid (azE CC 0 8 = (zj && azE CC j (8 - j)))) (fun s _ _ => 8 - (intOf s).toNat)
 case atStart => exact ⟨0, by omega, rfl, true, rfl, hid (Below.refl _ _), hid rfl, hid rfl⟩
 case round =>
  obtain ⟨j, hj, rfl, zj, rfl, BR, HB, HA⟩ := hrel
  by_cases hlt : j < 8
  ·have hltz : (j : Int) < 8 := by omega
   have hj0 : (0 : Int) ≤ (j : Int) := by omega
   have ix := ix52 j hlt
   unfold FA at ix
   have en := enter0 j hlt
   have HZ := hid (HZ0.out j hlt)
   have HB1 := hid (HB.out.trans (badE_step hlt))
   have HA1 := hid (HA.out.trans (congrArg (zj && ·) (azE_step hlt)))
   have HH0 := hid (fun q hq w => has37 (usT (kn : Int)) (j : Int) hj0 hltz q hq w)
   clear HB HA
   cases e1 : hz CC j with
   | true =>
    rw [e1] at HZ HB1 HA1
    have HB2 := hid (HB1.out.trans (by rw [Bool.not_true, Bool.false_and, Bool.false_or]))
    cases zj with
    | true =>
     have HA2 := hid (HA1.out.trans (congrArg (true && ·) (Bool.true_and _)))
     clear HB1 HA1
     go_wp2_with (first
      | (refine store_as rfl 115 _ _ rfl [.nilFunc, .nilFunc, .nilFunc] [.func (.func (f0 j)) #[] #[], .func (.func (f1 j)) #[] #[], .func (.func (f2 j)) #[] #[]] rfl rfl rfl size51 (by simp [Value.oneCell']) ?_; intro w3 hx hb; have X3 := hid hx; have B3 := hid (BR.out.trans (hb.mono BR.out.size)); clear hx hb; have y0 := X3.out.cell (i := 0) rfl; have XC := hid (X2.out.below B3.out))
      | (refine wpList_load_mid rfl 30 _ rfl w.heap.size 0 rfl [.string tx, .int .i64 n, .int .i64 tg, .bool th, .string via, .slice aA al.length aC, .slice dA dn.length dC, .slice uA us.length uC, .slice kA ks.length kC, .int .i64 d, .int .i64 x3, .int .i64 x4, .int .i64 x5, .int .i64 x6, .int .i64 x7, .int .i64 x8] _ XC.out.range Tryz.underlying30 rfl size29 ?_)
      | (go_at_fn (f0 j); (with_reducible refine (HZ.out w3 (I2.out.below B3.out)).mono ?_); rintro e w4 ⟨rfl, hb⟩; have B4 := hid (B3.out.trans (hb.mono B3.out.size)); clear hb y0; have u0 := (L2.out.below B4.out).us kn hkn; rw [show usL.getD kn 0 = usT (kn : Int) from rfl] at u0)
      | (go_at_call 96; (with_reducible refine (HH.out _).mono ?_); rintro e w5 ⟨rfl, rfl⟩)
      | fail)
     go_roundw
     case rel => exact ⟨j + 1, by omega, by go_num, true, rfl, hid B4.out, HB2, HA2⟩
     case measure => simp [intOf]; omega
    | false =>
     have HA2 := hid (HA1.out.trans (congrArg (false && ·) (Bool.true_and _)))
     clear HB1 HA1
     go_wp2_with (first
      | (refine store_as rfl 115 _ _ rfl [.nilFunc, .nilFunc, .nilFunc] [.func (.func (f0 j)) #[] #[], .func (.func (f1 j)) #[] #[], .func (.func (f2 j)) #[] #[]] rfl rfl rfl size51 (by simp [Value.oneCell']) ?_; intro w3 hx hb; have X3 := hid hx; have B3 := hid (BR.out.trans (hb.mono BR.out.size)); clear hx hb; have y0 := X3.out.cell (i := 0) rfl; have XC := hid (X2.out.below B3.out))
      | (refine wpList_load_mid rfl 30 _ rfl w.heap.size 0 rfl [.string tx, .int .i64 n, .int .i64 tg, .bool th, .string via, .slice aA al.length aC, .slice dA dn.length dC, .slice uA us.length uC, .slice kA ks.length kC, .int .i64 d, .int .i64 x3, .int .i64 x4, .int .i64 x5, .int .i64 x6, .int .i64 x7, .int .i64 x8] _ XC.out.range Tryz.underlying30 rfl size29 ?_)
      | (go_at_fn (f0 j); (with_reducible refine (HZ.out w3 (I2.out.below B3.out)).mono ?_); rintro e w4 ⟨rfl, hb⟩; have B4 := hid (B3.out.trans (hb.mono B3.out.size)); clear hb y0; have u0 := (L2.out.below B4.out).us kn hkn; rw [show usL.getD kn 0 = usT (kn : Int) from rfl] at u0)
      | (go_at_call 96; (with_reducible refine (HH.out _).mono ?_); rintro e w5 ⟨rfl, rfl⟩)
      | fail)
     go_roundw
     case rel => exact ⟨j + 1, by omega, by go_num, false, rfl, hid B4.out, HB2, HA2⟩
     case measure => simp [intOf]; omega
   | false =>
    rw [e1] at HZ HB1 HA1
    cases e2 : hasB (usT (kn : Int)) (j : Int) with
    | true =>
     have HH := hid (HH0.out true e2)
     have HB2 := hid (HB1.out.trans (by rw [e2, Bool.not_true, Bool.and_false, Bool.false_or]))
     have HA2 := hid (HA1.out.trans (show (zj && (false && azE CC (j + 1) (8 - (j + 1)))) = (false && azE CC (j + 1) (8 - (j + 1))) by rw [Bool.false_and, Bool.and_false]))
     clear HB1 HA1
     cases zj with
     | true =>
      go_wp2_with (first
       | (refine store_as rfl 115 _ _ rfl [.nilFunc, .nilFunc, .nilFunc] [.func (.func (f0 j)) #[] #[], .func (.func (f1 j)) #[] #[], .func (.func (f2 j)) #[] #[]] rfl rfl rfl size51 (by simp [Value.oneCell']) ?_; intro w3 hx hb; have X3 := hid hx; have B3 := hid (BR.out.trans (hb.mono BR.out.size)); clear hx hb; have y0 := X3.out.cell (i := 0) rfl; have XC := hid (X2.out.below B3.out))
       | (refine wpList_load_mid rfl 30 _ rfl w.heap.size 0 rfl [.string tx, .int .i64 n, .int .i64 tg, .bool th, .string via, .slice aA al.length aC, .slice dA dn.length dC, .slice uA us.length uC, .slice kA ks.length kC, .int .i64 d, .int .i64 x3, .int .i64 x4, .int .i64 x5, .int .i64 x6, .int .i64 x7, .int .i64 x8] _ XC.out.range Tryz.underlying30 rfl size29 ?_)
       | (go_at_fn (f0 j); (with_reducible refine (HZ.out w3 (I2.out.below B3.out)).mono ?_); rintro e w4 ⟨rfl, hb⟩; have B4 := hid (B3.out.trans (hb.mono B3.out.size)); clear hb y0; have u0 := (L2.out.below B4.out).us kn hkn; rw [show usL.getD kn 0 = usT (kn : Int) from rfl] at u0)
       | (go_at_call 96; (with_reducible refine (HH.out _).mono ?_); rintro e w5 ⟨rfl, rfl⟩)
       | fail)
      go_roundw
      case rel => exact ⟨j + 1, by omega, by go_num, false, rfl, hid B4.out, HB2, HA2⟩
      case measure => simp [intOf]; omega
     | false =>
      go_wp2_with (first
       | (refine store_as rfl 115 _ _ rfl [.nilFunc, .nilFunc, .nilFunc] [.func (.func (f0 j)) #[] #[], .func (.func (f1 j)) #[] #[], .func (.func (f2 j)) #[] #[]] rfl rfl rfl size51 (by simp [Value.oneCell']) ?_; intro w3 hx hb; have X3 := hid hx; have B3 := hid (BR.out.trans (hb.mono BR.out.size)); clear hx hb; have y0 := X3.out.cell (i := 0) rfl; have XC := hid (X2.out.below B3.out))
       | (refine wpList_load_mid rfl 30 _ rfl w.heap.size 0 rfl [.string tx, .int .i64 n, .int .i64 tg, .bool th, .string via, .slice aA al.length aC, .slice dA dn.length dC, .slice uA us.length uC, .slice kA ks.length kC, .int .i64 d, .int .i64 x3, .int .i64 x4, .int .i64 x5, .int .i64 x6, .int .i64 x7, .int .i64 x8] _ XC.out.range Tryz.underlying30 rfl size29 ?_)
       | (go_at_fn (f0 j); (with_reducible refine (HZ.out w3 (I2.out.below B3.out)).mono ?_); rintro e w4 ⟨rfl, hb⟩; have B4 := hid (B3.out.trans (hb.mono B3.out.size)); clear hb y0; have u0 := (L2.out.below B4.out).us kn hkn; rw [show usL.getD kn 0 = usT (kn : Int) from rfl] at u0)
       | (go_at_call 96; (with_reducible refine (HH.out _).mono ?_); rintro e w5 ⟨rfl, rfl⟩)
       | fail)
      go_roundw
      case rel => exact ⟨j + 1, by omega, by go_num, false, rfl, hid B4.out, HB2, HA2⟩
      case measure => simp [intOf]; omega
    | false =>
     have HH := hid (HH0.out false e2)
     have HE : Hid (r = 1) := hid (HQ2.out.trans (by rw [if_pos (by rw [HB1.out, e2]; rfl)]))
     clear HB1 HA1
     go_wp2_with (first
      | (refine store_as rfl 115 _ _ rfl [.nilFunc, .nilFunc, .nilFunc] [.func (.func (f0 j)) #[] #[], .func (.func (f1 j)) #[] #[], .func (.func (f2 j)) #[] #[]] rfl rfl rfl size51 (by simp [Value.oneCell']) ?_; intro w3 hx hb; have X3 := hid hx; have B3 := hid (BR.out.trans (hb.mono BR.out.size)); clear hx hb; have y0 := X3.out.cell (i := 0) rfl; have XC := hid (X2.out.below B3.out))
      | (refine wpList_load_mid rfl 30 _ rfl w.heap.size 0 rfl [.string tx, .int .i64 n, .int .i64 tg, .bool th, .string via, .slice aA al.length aC, .slice dA dn.length dC, .slice uA us.length uC, .slice kA ks.length kC, .int .i64 d, .int .i64 x3, .int .i64 x4, .int .i64 x5, .int .i64 x6, .int .i64 x7, .int .i64 x8] _ XC.out.range Tryz.underlying30 rfl size29 ?_)
      | (go_at_fn (f0 j); (with_reducible refine (HZ.out w3 (I2.out.below B3.out)).mono ?_); rintro e w4 ⟨rfl, hb⟩; have B4 := hid (B3.out.trans (hb.mono B3.out.size)); clear hb y0; have u0 := (L2.out.below B4.out).us kn hkn; rw [show usL.getD kn 0 = usT (kn : Int) from rfl] at u0)
      | (go_at_call 96; (with_reducible refine (HH.out _).mono ?_); rintro e w5 ⟨rfl, rfl⟩)
      | fail)
     go_ret
     exact ⟨by rw [HE.out]; rfl, B2.out.trans (B4.out.mono B2.out.size)⟩
  ·have hltz : ¬ (j : Int) < 8 := by omega
   have BW := hid (B2.out.trans (BR.out.mono B2.out.size))
   have XR := hid (X2.out.below BR.out)
   have IR := hid (I2.out.below BR.out)
   have LR := hid (L2.out.below BR.out)
   have TR := hid (T2.out.below BR.out)
   have hj8 : j = 8 := by omega
   have HB1 : Hid (badE (usT (kn : Int)) CC 0 8 = false) := hid (HB.out.trans (by rw [hj8]; rfl))
   have HA1 : Hid (azE CC 0 8 = zj) := hid (HA.out.trans (by rw [hj8]; exact Bool.and_true _))
   have HQ3 : Hid (r = if zj = true ∧ kpT (kn : Int) = 0 then 0 else fstE (usT (kn : Int)) (kn : Int) CC 0 8) := hid (HQ2.out.trans (by rw [if_neg (by rw [HB1.out]; decide), HA1.out]))
   have HV0 := hid (fun q hq => vanish38 kn hkn q hq wr LR.out)
   clear HB1 HA1 HB HA HZ0 HQ2 BR X2 I2 L2
   by_cases e3 : zj = true ∧ kpT (kn : Int) = 0
   ·have HE : Hid (r = 0) := hid (HQ3.out.trans (if_pos e3))
    obtain ⟨rfl, e4⟩ := e3
    have HV := hid (HV0.out true (decide_eq_true e4))
    clear HV0 HQ3 e4
    go_wp2_with (first
     | (go_at_call 97; (with_reducible refine (HV.out).mono ?_); rintro e w5 ⟨rfl, rfl⟩)
     | fail)
    go_ret
    exact ⟨by rw [HE.out]; rfl, BW.out⟩
   ·have HE : Hid (r = fstE (usT (kn : Int)) (kn : Int) CC 0 8) := hid (HQ3.out.trans (if_neg e3))
    clear HQ3
    cases zj with
    | false =>
     clear HV0 e3
     go_wp2_with (first
      | (refine wpList_load_mid rfl 116 _ rfl _ 0 rfl [.func (.func 148) #[] #[], .func (.func 149) #[] #[], .func (.func 150) #[] #[], .func (.func 151) #[] #[], .func (.func 152) #[] #[], .func (.func 153) #[] #[], .func (.func 154) #[] #[], .func (.func 155) #[] #[], .func (.func 156) #[] #[], .func (.func 157) #[] #[], .func (.func 158) #[] #[], .func (.func 159) #[] #[], .func (.func 160) #[] #[], .func (.func 161) #[] #[], .func (.func 162) #[] #[], .func (.func 163) #[] #[], .func (.func 164) #[] #[], .func (.func 166) #[] #[], .func (.func 167) #[] #[], .func (.func 168) #[] #[], .func (.func 169) #[] #[], .func (.func 170) #[] #[], .func (.func 171) #[] #[], .func (.func 173) #[] #[]] _ TR.out.range Tryz.underlying116 rfl size52 ?_)
      | fail)
     clear TR T2 B2
     go_loopw [47] (fun s wq => ∃ i : Nat, i ≤ 8 ∧ s = .int .i64 (i : Int) ∧ Hid (Below w.heap.size w wq) ∧ Hid (Blk wq w.heap.size [.string tx, .int .i64 n, .int .i64 tg, .bool th, .string via, .slice aA al.length aC, .slice dA dn.length dC, .slice uA us.length uC, .slice kA ks.length kC, .int .i64 d, .int .i64 x3, .int .i64 x4, .int .i64 x5, .int .i64 x6, .int .i64 x7, .int .i64 x8] 30) ∧ Hid (IsC wq CC AD) ∧ Hid (Lt wq) ∧ Hid (r = fstE (usT (kn : Int)) (kn : Int) CC i (8 - i))) (fun s _ => 8 - (intOf s).toNat)
     case atStart => exact ⟨0, by omega, rfl, BW, XR, IR, LR, HE⟩
     case round =>
      clear XR IR LR HE BW hlt hltz hj8 hj
      obtain ⟨j, hj, rfl, BR, XR, IR, LR, HE⟩ := hrel
      by_cases hlt : j < 8
      ·have hltz : (j : Int) < 8 := by omega
       have hj0 : (0 : Int) ≤ (j : Int) := by omega
       have ix := ix52 j hlt
       unfold FA at ix
       have en := enter2 j hlt
       have HC := hid (HC0.out j hlt)
       have HE1 := hid (HE.out.trans (fstE_step hlt))
       have HH0 := hid (fun q hq w => has37 (usT (kn : Int)) (j : Int) hj0 hltz q hq w)
       clear HE
       cases e1 : hasB (usT (kn : Int)) (j : Int) with
       | false =>
        have HH := hid (HH0.out false e1)
        have HE2 := hid (HE1.out.trans (if_neg (by rw [e1]; exact fun h => Bool.noConfusion h.1)))
        clear HE1
        go_wp2_with (first
         | (refine store_as rfl 115 _ _ rfl [.nilFunc, .nilFunc, .nilFunc] [.func (.func (f0 j)) #[] #[], .func (.func (f1 j)) #[] #[], .func (.func (f2 j)) #[] #[]] rfl rfl rfl size51 (by simp [Value.oneCell']) ?_; intro w3 hx hb; have X3 := hid hx; have Bq := hid hb; have B3 := hid (BR.out.trans (hb.mono BR.out.size)); clear hx hb; have y2 := X3.out.cell (i := 2) rfl; have XC := hid (XR.out.below Bq.out); have u0 := (LR.out.below Bq.out).us kn hkn; rw [show usL.getD kn 0 = usT (kn : Int) from rfl] at u0)
         | (refine wpList_load_mid rfl 30 _ rfl w.heap.size 0 rfl [.string tx, .int .i64 n, .int .i64 tg, .bool th, .string via, .slice aA al.length aC, .slice dA dn.length dC, .slice uA us.length uC, .slice kA ks.length kC, .int .i64 d, .int .i64 x3, .int .i64 x4, .int .i64 x5, .int .i64 x6, .int .i64 x7, .int .i64 x8] _ XC.out.range Tryz.underlying30 rfl size29 ?_)
         | (go_at_fn (f2 j); (with_reducible refine (HC.out w3 (IR.out.below Bq.out)).mono ?_); rintro e w4 ⟨rfl, hb⟩; have Bq4 := hid (Bq.out.trans (hb.mono Bq.out.size)); have B4 := hid (B3.out.trans (hb.mono B3.out.size)); clear hb y2)
         | (go_at_call 96; (with_reducible refine (HH.out _).mono ?_); rintro e w5 ⟨rfl, rfl⟩)
         | fail)
        go_roundw
        case rel => exact ⟨j + 1, by omega, by go_num, hid B3.out, hid (XR.out.below (Bq.out)), hid (IR.out.below Bq.out), hid (LR.out.below Bq.out), HE2⟩
        case measure => simp [intOf]; omega
       | true =>
        have HH := hid (HH0.out true e1)
        by_cases e2 : ck (kn : Int) CC j = 0
        ·have HE2 := hid (HE1.out.trans (if_neg (by exact fun h => h.2 e2)))
         rw [e2] at HC
         clear HE1 e2
         go_wp2_with (first
          | (refine store_as rfl 115 _ _ rfl [.nilFunc, .nilFunc, .nilFunc] [.func (.func (f0 j)) #[] #[], .func (.func (f1 j)) #[] #[], .func (.func (f2 j)) #[] #[]] rfl rfl rfl size51 (by simp [Value.oneCell']) ?_; intro w3 hx hb; have X3 := hid hx; have Bq := hid hb; have B3 := hid (BR.out.trans (hb.mono BR.out.size)); clear hx hb; have y2 := X3.out.cell (i := 2) rfl; have XC := hid (XR.out.below Bq.out); have u0 := (LR.out.below Bq.out).us kn hkn; rw [show usL.getD kn 0 = usT (kn : Int) from rfl] at u0)
          | (refine wpList_load_mid rfl 30 _ rfl w.heap.size 0 rfl [.string tx, .int .i64 n, .int .i64 tg, .bool th, .string via, .slice aA al.length aC, .slice dA dn.length dC, .slice uA us.length uC, .slice kA ks.length kC, .int .i64 d, .int .i64 x3, .int .i64 x4, .int .i64 x5, .int .i64 x6, .int .i64 x7, .int .i64 x8] _ XC.out.range Tryz.underlying30 rfl size29 ?_)
          | (go_at_fn (f2 j); (with_reducible refine (HC.out w3 (IR.out.below Bq.out)).mono ?_); rintro e w4 ⟨rfl, hb⟩; have Bq4 := hid (Bq.out.trans (hb.mono Bq.out.size)); have B4 := hid (B3.out.trans (hb.mono B3.out.size)); clear hb y2)
          | (go_at_call 96; (with_reducible refine (HH.out _).mono ?_); rintro e w5 ⟨rfl, rfl⟩)
          | fail)
         go_roundw
         case rel => exact ⟨j + 1, by omega, by go_num, hid B4.out, hid (XR.out.below Bq4.out), hid (IR.out.below Bq4.out), hid (LR.out.below Bq4.out), HE2⟩
         case measure => simp [intOf]; omega
        ·have HE2 := hid (HE1.out.trans (if_pos (by exact ⟨e1, e2⟩)))
         generalize ck (kn : Int) CC j = v at HC HE2 e2
         have z1 : (v != 0) = true := by simpa using e2
         clear HE1 e2
         go_wp2_with (first
          | (refine store_as rfl 115 _ _ rfl [.nilFunc, .nilFunc, .nilFunc] [.func (.func (f0 j)) #[] #[], .func (.func (f1 j)) #[] #[], .func (.func (f2 j)) #[] #[]] rfl rfl rfl size51 (by simp [Value.oneCell']) ?_; intro w3 hx hb; have X3 := hid hx; have Bq := hid hb; have B3 := hid (BR.out.trans (hb.mono BR.out.size)); clear hx hb; have y2 := X3.out.cell (i := 2) rfl; have XC := hid (XR.out.below Bq.out); have u0 := (LR.out.below Bq.out).us kn hkn; rw [show usL.getD kn 0 = usT (kn : Int) from rfl] at u0)
          | (refine wpList_load_mid rfl 30 _ rfl w.heap.size 0 rfl [.string tx, .int .i64 n, .int .i64 tg, .bool th, .string via, .slice aA al.length aC, .slice dA dn.length dC, .slice uA us.length uC, .slice kA ks.length kC, .int .i64 d, .int .i64 x3, .int .i64 x4, .int .i64 x5, .int .i64 x6, .int .i64 x7, .int .i64 x8] _ XC.out.range Tryz.underlying30 rfl size29 ?_)
          | (go_at_fn (f2 j); (with_reducible refine (HC.out w3 (IR.out.below Bq.out)).mono ?_); rintro e w4 ⟨rfl, hb⟩; have Bq4 := hid (Bq.out.trans (hb.mono Bq.out.size)); have B4 := hid (B3.out.trans (hb.mono B3.out.size)); clear hb y2)
          | (go_at_call 96; (with_reducible refine (HH.out _).mono ?_); rintro e w5 ⟨rfl, rfl⟩)
          | fail)
         go_ret
         exact ⟨by rw [HE2.out]; rfl, B4.out⟩
      ·have hltz : ¬ (j : Int) < 8 := by omega
       have hj8 : j = 8 := by omega
       have HE2 : Hid (r = 0) := hid (HE.out.trans (by rw [hj8]; rfl))
       clear HE hj8
       go_wp2
       go_ret
       exact ⟨by rw [HE2.out]; rfl, BR.out⟩
    | true =>
     have HV := hid (HV0.out false (decide_eq_false (fun e => e3 ⟨rfl, e⟩)))
     clear HV0 e3
     go_wp2_with (first
      | (go_at_call 97; (with_reducible refine (HV.out).mono ?_); rintro e w5 ⟨rfl, rfl⟩)
      | (refine wpList_load_mid rfl 116 _ rfl _ 0 rfl [.func (.func 148) #[] #[], .func (.func 149) #[] #[], .func (.func 150) #[] #[], .func (.func 151) #[] #[], .func (.func 152) #[] #[], .func (.func 153) #[] #[], .func (.func 154) #[] #[], .func (.func 155) #[] #[], .func (.func 156) #[] #[], .func (.func 157) #[] #[], .func (.func 158) #[] #[], .func (.func 159) #[] #[], .func (.func 160) #[] #[], .func (.func 161) #[] #[], .func (.func 162) #[] #[], .func (.func 163) #[] #[], .func (.func 164) #[] #[], .func (.func 166) #[] #[], .func (.func 167) #[] #[], .func (.func 168) #[] #[], .func (.func 169) #[] #[], .func (.func 170) #[] #[], .func (.func 171) #[] #[], .func (.func 173) #[] #[]] _ TR.out.range Tryz.underlying116 rfl size52 ?_)
      | fail)
     clear TR T2 B2
     go_loopw [47] (fun s wq => ∃ i : Nat, i ≤ 8 ∧ s = .int .i64 (i : Int) ∧ Hid (Below w.heap.size w wq) ∧ Hid (Blk wq w.heap.size [.string tx, .int .i64 n, .int .i64 tg, .bool th, .string via, .slice aA al.length aC, .slice dA dn.length dC, .slice uA us.length uC, .slice kA ks.length kC, .int .i64 d, .int .i64 x3, .int .i64 x4, .int .i64 x5, .int .i64 x6, .int .i64 x7, .int .i64 x8] 30) ∧ Hid (IsC wq CC AD) ∧ Hid (Lt wq) ∧ Hid (r = fstE (usT (kn : Int)) (kn : Int) CC i (8 - i))) (fun s _ => 8 - (intOf s).toNat)
     case atStart => exact ⟨0, by omega, rfl, BW, XR, IR, LR, HE⟩
     case round =>
      clear XR IR LR HE BW hlt hltz hj8 hj
      obtain ⟨j, hj, rfl, BR, XR, IR, LR, HE⟩ := hrel
      by_cases hlt : j < 8
      ·have hltz : (j : Int) < 8 := by omega
       have hj0 : (0 : Int) ≤ (j : Int) := by omega
       have ix := ix52 j hlt
       unfold FA at ix
       have en := enter2 j hlt
       have HC := hid (HC0.out j hlt)
       have HE1 := hid (HE.out.trans (fstE_step hlt))
       have HH0 := hid (fun q hq w => has37 (usT (kn : Int)) (j : Int) hj0 hltz q hq w)
       clear HE
       cases e1 : hasB (usT (kn : Int)) (j : Int) with
       | false =>
        have HH := hid (HH0.out false e1)
        have HE2 := hid (HE1.out.trans (if_neg (by rw [e1]; exact fun h => Bool.noConfusion h.1)))
        clear HE1
        go_wp2_with (first
         | (refine store_as rfl 115 _ _ rfl [.nilFunc, .nilFunc, .nilFunc] [.func (.func (f0 j)) #[] #[], .func (.func (f1 j)) #[] #[], .func (.func (f2 j)) #[] #[]] rfl rfl rfl size51 (by simp [Value.oneCell']) ?_; intro w3 hx hb; have X3 := hid hx; have Bq := hid hb; have B3 := hid (BR.out.trans (hb.mono BR.out.size)); clear hx hb; have y2 := X3.out.cell (i := 2) rfl; have XC := hid (XR.out.below Bq.out); have u0 := (LR.out.below Bq.out).us kn hkn; rw [show usL.getD kn 0 = usT (kn : Int) from rfl] at u0)
         | (refine wpList_load_mid rfl 30 _ rfl w.heap.size 0 rfl [.string tx, .int .i64 n, .int .i64 tg, .bool th, .string via, .slice aA al.length aC, .slice dA dn.length dC, .slice uA us.length uC, .slice kA ks.length kC, .int .i64 d, .int .i64 x3, .int .i64 x4, .int .i64 x5, .int .i64 x6, .int .i64 x7, .int .i64 x8] _ XC.out.range Tryz.underlying30 rfl size29 ?_)
         | (go_at_fn (f2 j); (with_reducible refine (HC.out w3 (IR.out.below Bq.out)).mono ?_); rintro e w4 ⟨rfl, hb⟩; have Bq4 := hid (Bq.out.trans (hb.mono Bq.out.size)); have B4 := hid (B3.out.trans (hb.mono B3.out.size)); clear hb y2)
         | (go_at_call 96; (with_reducible refine (HH.out _).mono ?_); rintro e w5 ⟨rfl, rfl⟩)
         | fail)
        go_roundw
        case rel => exact ⟨j + 1, by omega, by go_num, hid B3.out, hid (XR.out.below (Bq.out)), hid (IR.out.below Bq.out), hid (LR.out.below Bq.out), HE2⟩
        case measure => simp [intOf]; omega
       | true =>
        have HH := hid (HH0.out true e1)
        by_cases e2 : ck (kn : Int) CC j = 0
        ·have HE2 := hid (HE1.out.trans (if_neg (by exact fun h => h.2 e2)))
         rw [e2] at HC
         clear HE1 e2
         go_wp2_with (first
          | (refine store_as rfl 115 _ _ rfl [.nilFunc, .nilFunc, .nilFunc] [.func (.func (f0 j)) #[] #[], .func (.func (f1 j)) #[] #[], .func (.func (f2 j)) #[] #[]] rfl rfl rfl size51 (by simp [Value.oneCell']) ?_; intro w3 hx hb; have X3 := hid hx; have Bq := hid hb; have B3 := hid (BR.out.trans (hb.mono BR.out.size)); clear hx hb; have y2 := X3.out.cell (i := 2) rfl; have XC := hid (XR.out.below Bq.out); have u0 := (LR.out.below Bq.out).us kn hkn; rw [show usL.getD kn 0 = usT (kn : Int) from rfl] at u0)
          | (refine wpList_load_mid rfl 30 _ rfl w.heap.size 0 rfl [.string tx, .int .i64 n, .int .i64 tg, .bool th, .string via, .slice aA al.length aC, .slice dA dn.length dC, .slice uA us.length uC, .slice kA ks.length kC, .int .i64 d, .int .i64 x3, .int .i64 x4, .int .i64 x5, .int .i64 x6, .int .i64 x7, .int .i64 x8] _ XC.out.range Tryz.underlying30 rfl size29 ?_)
          | (go_at_fn (f2 j); (with_reducible refine (HC.out w3 (IR.out.below Bq.out)).mono ?_); rintro e w4 ⟨rfl, hb⟩; have Bq4 := hid (Bq.out.trans (hb.mono Bq.out.size)); have B4 := hid (B3.out.trans (hb.mono B3.out.size)); clear hb y2)
          | (go_at_call 96; (with_reducible refine (HH.out _).mono ?_); rintro e w5 ⟨rfl, rfl⟩)
          | fail)
         go_roundw
         case rel => exact ⟨j + 1, by omega, by go_num, hid B4.out, hid (XR.out.below Bq4.out), hid (IR.out.below Bq4.out), hid (LR.out.below Bq4.out), HE2⟩
         case measure => simp [intOf]; omega
        ·have HE2 := hid (HE1.out.trans (if_pos (by exact ⟨e1, e2⟩)))
         generalize ck (kn : Int) CC j = v at HC HE2 e2
         have z1 : (v != 0) = true := by simpa using e2
         clear HE1 e2
         go_wp2_with (first
          | (refine store_as rfl 115 _ _ rfl [.nilFunc, .nilFunc, .nilFunc] [.func (.func (f0 j)) #[] #[], .func (.func (f1 j)) #[] #[], .func (.func (f2 j)) #[] #[]] rfl rfl rfl size51 (by simp [Value.oneCell']) ?_; intro w3 hx hb; have X3 := hid hx; have Bq := hid hb; have B3 := hid (BR.out.trans (hb.mono BR.out.size)); clear hx hb; have y2 := X3.out.cell (i := 2) rfl; have XC := hid (XR.out.below Bq.out); have u0 := (LR.out.below Bq.out).us kn hkn; rw [show usL.getD kn 0 = usT (kn : Int) from rfl] at u0)
          | (refine wpList_load_mid rfl 30 _ rfl w.heap.size 0 rfl [.string tx, .int .i64 n, .int .i64 tg, .bool th, .string via, .slice aA al.length aC, .slice dA dn.length dC, .slice uA us.length uC, .slice kA ks.length kC, .int .i64 d, .int .i64 x3, .int .i64 x4, .int .i64 x5, .int .i64 x6, .int .i64 x7, .int .i64 x8] _ XC.out.range Tryz.underlying30 rfl size29 ?_)
          | (go_at_fn (f2 j); (with_reducible refine (HC.out w3 (IR.out.below Bq.out)).mono ?_); rintro e w4 ⟨rfl, hb⟩; have Bq4 := hid (Bq.out.trans (hb.mono Bq.out.size)); have B4 := hid (B3.out.trans (hb.mono B3.out.size)); clear hb y2)
          | (go_at_call 96; (with_reducible refine (HH.out _).mono ?_); rintro e w5 ⟨rfl, rfl⟩)
          | fail)
         go_ret
         exact ⟨by rw [HE2.out]; rfl, B4.out⟩
      ·have hltz : ¬ (j : Int) < 8 := by omega
       have hj8 : j = 8 := by omega
       have HE2 : Hid (r = 0) := hid (HE.out.trans (by rw [hj8]; rfl))
       clear HE hj8
       go_wp2
       go_ret
       exact ⟨by rw [HE2.out]; rfl, BR.out⟩
end Go.Proofs.YtablocpcgknmaaaGreatDoor
