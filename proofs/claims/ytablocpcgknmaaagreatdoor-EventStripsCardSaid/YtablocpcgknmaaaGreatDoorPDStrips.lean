/- Theorems of the texts before that the others do not want. No condition. -/
import Derived.Test.YtablocpcgknmaaaGreatDoorPV2
import Derived.Test.YtablocpcgknmaaaGreatDoorPV1
import Derived.Test.YtablocpcgknmaaaGreatDoorPK21
import Derived.Test.YtablocpcgknmaaaGreatDoorPK20
import Derived.Test.YtablocpcgknmaaaGreatDoorPK37
import Derived.Test.YtablocpcgknmaaaGreatDoorPK25
import Derived.Test.YtablocpcgknmaaaGreatDoorPV8
import Derived.Test.YtablocpcgknmaaaGreatDoorPV6
import Derived.Test.YtablocpcgknmaaaGreatDoorPK26
import Derived.Test.YtablocpcgknmaaaGreatDoorPTs
import Derived.Test.YtablocpcgknmaaaGreatDoorPV7T
namespace Go.Proofs.YtablocpcgknmaaaGreatDoor
open Go Go.RowKit
set_option linter.unusedVariables false
set_option linter.unusedSimpArgs false
set_option maxRecDepth 100000

set_option maxHeartbeats 4000000 in
theorem same55 (A1 : Option Addr) (n1 c1 : Nat) (l1 : List Int) (A2 : Option Addr) (n2 c2 : Nat) (l2 : List Int) (w : World) (h1 : Ins w A1 n1 c1 l1) (h2 : Ins w A2 n2 c2 l2) (q : Bool) (hq : decide (l1 = l2) = q) :
    Calls Tryz.prog 55 #[.slice A1 n1 c1, .slice A2 n2 c2] w fun e w' => e = .returned (.bool q) ∧ Below w.heap.size w w' := by
  have H1 := Lib.hid h1
  have H2 := Lib.hid h2
  have hm1 := h1.rws.big
  have hm2 := h2.rws.big
  unfold maxLen at hm1 hm2
  have HL1 := Lib.hid h1.len
  have HL2 := Lib.hid h2.len
  have HQ := Lib.hid hq
  clear h1 h2 hq
  by_cases hn : n1 = n2
  · subst hn
    go_enter Tryz.func55, Tryz.ntmps55
    go_wp2
    go_loopw [5] (fun i wr => ∃ k : Nat, k ≤ n1 ∧ i = .int .i64 k ∧ Hid (∀ j, j < k → l1.getD j 0 = l2.getD j 0) ∧ Hid (Below w.heap.size w wr)) (fun i _ => n1 - (intOf i).toNat)
    case atStart => exact ⟨0, Nat.zero_le _, rfl, Lib.hid (fun j hj => by omega), Lib.hid (Below.refl _ _)⟩
    case round =>
      obtain ⟨k, hk, rfl, HO, BW⟩ := hrel
      by_cases hlt : k < n1
      · have hltz : (k : Int) < (n1 : Int) := by omega
        obtain ⟨b1, o1, rfl, hb1, hc1⟩ := (H1.out.below BW.out).get hlt
        obtain ⟨b2, o2, rfl, hb2, hc2⟩ := (H2.out.below BW.out).get hlt
        by_cases he : l1.getD k 0 = l2.getD k 0
        · have HN := Lib.hid (show ∀ j, j < k + 1 → l1.getD j 0 = l2.getD j 0 from fun j hj => by
            rcases Nat.lt_or_ge j k with h | h
            · exact HO.out j h
            · obtain rfl : j = k := by omega
              exact he)
          rw [← he] at hc2
          generalize l1.getD k 0 = x at hc1 hc2
          clear he
          go_wp2
          go_quiet (fail)
          go_wp2
          go_roundw
          case rel => exact ⟨k + 1, by omega, by go_num, HN, Lib.hid (below_drewN BW.out _)⟩
          case measure => simp [intOf]; omega
        · have HF := Lib.hid (show q = false by rw [← HQ.out]; exact decide_eq_false (fun e => he (by rw [e])))
          generalize l1.getD k 0 = x at he hc1
          generalize l2.getD k 0 = y at he hc2
          have hx : (x == y) = false := beq_eq_false_iff_ne.2 he
          have hx2 : (x != y) = true := by simp [bne, hx]
          clear he
          go_wp2
          go_quiet (fail)
          go_wp2
          go_ret
          rw [HF.out]
          exact ⟨rfl, below_drewN BW.out _⟩
      · have hltz : ¬ (k : Int) < (n1 : Int) := by omega
        have HT := Lib.hid (show q = true by
          rw [← HQ.out]
          exact decide_eq_true (ints_ext (by rw [HL1.out, HL2.out]) (fun j hj => HO.out j (by rw [HL1.out] at hj; omega))))
        go_wp2
        go_ret
        rw [HT.out]
        exact ⟨rfl, BW.out⟩
  · have HF := Lib.hid (show q = false by rw [← HQ.out]; exact decide_eq_false (fun e => hn (by rw [← HL1.out, ← HL2.out, e])))
    have hx : ((n1 : Int) == (n2 : Int)) = false := beq_eq_false_iff_ne.2 (by omega)
    go_enter Tryz.func55, Tryz.ntmps55
    go_wp2
    go_ret
    rw [HF.out]
    exact ⟨rfl, Below.refl _ _⟩
end Go.Proofs.YtablocpcgknmaaaGreatDoor
namespace Go.Proofs.YtablocpcgknmaaaGreatDoor
open Go Go.RowKit
set_option linter.unusedVariables false
set_option linter.unusedSimpArgs false
set_option maxRecDepth 100000

theorem tk1_0 : hasB (kpT 1) ((0 : Nat) : Int) = true := by kernel_rfl
theorem tk1_1 : hasB (kpT 1) ((1 : Nat) : Int) = true := by kernel_rfl
theorem tk1_2 : hasB (kpT 1) ((2 : Nat) : Int) = true := by kernel_rfl
theorem tk1_3 : hasB (kpT 1) ((3 : Nat) : Int) = true := by kernel_rfl
theorem tk1_4 : hasB (kpT 1) ((4 : Nat) : Int) = true := by kernel_rfl
theorem tk1_5 : hasB (kpT 1) ((5 : Nat) : Int) = true := by kernel_rfl
theorem tk1_6 : hasB (kpT 1) ((6 : Nat) : Int) = true := by kernel_rfl
theorem tk1_7 : hasB (kpT 1) ((7 : Nat) : Int) = true := by kernel_rfl
theorem tk2_0 : hasB (kpT 2) ((0 : Nat) : Int) = false := by kernel_rfl
theorem tk2_1 : hasB (kpT 2) ((1 : Nat) : Int) = true := by kernel_rfl
theorem tk2_2 : hasB (kpT 2) ((2 : Nat) : Int) = false := by kernel_rfl
theorem tk2_3 : hasB (kpT 2) ((3 : Nat) : Int) = false := by kernel_rfl
theorem tk2_4 : hasB (kpT 2) ((4 : Nat) : Int) = true := by kernel_rfl
theorem tk2_5 : hasB (kpT 2) ((5 : Nat) : Int) = false := by kernel_rfl
theorem tk2_6 : hasB (kpT 2) ((6 : Nat) : Int) = false := by kernel_rfl
theorem tk2_7 : hasB (kpT 2) ((7 : Nat) : Int) = false := by kernel_rfl
theorem tk3_0 : hasB (kpT 3) ((0 : Nat) : Int) = false := by kernel_rfl
theorem tk3_1 : hasB (kpT 3) ((1 : Nat) : Int) = false := by kernel_rfl
theorem tk3_2 : hasB (kpT 3) ((2 : Nat) : Int) = false := by kernel_rfl
theorem tk3_3 : hasB (kpT 3) ((3 : Nat) : Int) = false := by kernel_rfl
theorem tk3_4 : hasB (kpT 3) ((4 : Nat) : Int) = false := by kernel_rfl
theorem tk3_5 : hasB (kpT 3) ((5 : Nat) : Int) = false := by kernel_rfl
theorem tk3_6 : hasB (kpT 3) ((6 : Nat) : Int) = false := by kernel_rfl
theorem tk3_7 : hasB (kpT 3) ((7 : Nat) : Int) = true := by kernel_rfl
theorem tk4_0 : hasB (kpT 4) ((0 : Nat) : Int) = false := by kernel_rfl
theorem tk4_1 : hasB (kpT 4) ((1 : Nat) : Int) = true := by kernel_rfl
theorem tk4_2 : hasB (kpT 4) ((2 : Nat) : Int) = false := by kernel_rfl
theorem tk4_3 : hasB (kpT 4) ((3 : Nat) : Int) = false := by kernel_rfl
theorem tk4_4 : hasB (kpT 4) ((4 : Nat) : Int) = false := by kernel_rfl
theorem tk4_5 : hasB (kpT 4) ((5 : Nat) : Int) = true := by kernel_rfl
theorem tk4_6 : hasB (kpT 4) ((6 : Nat) : Int) = false := by kernel_rfl
theorem tk4_7 : hasB (kpT 4) ((7 : Nat) : Int) = false := by kernel_rfl
theorem tk5_0 : hasB (kpT 5) ((0 : Nat) : Int) = false := by kernel_rfl
theorem tk5_1 : hasB (kpT 5) ((1 : Nat) : Int) = true := by kernel_rfl
theorem tk5_2 : hasB (kpT 5) ((2 : Nat) : Int) = false := by kernel_rfl
theorem tk5_3 : hasB (kpT 5) ((3 : Nat) : Int) = false := by kernel_rfl
theorem tk5_4 : hasB (kpT 5) ((4 : Nat) : Int) = false := by kernel_rfl
theorem tk5_5 : hasB (kpT 5) ((5 : Nat) : Int) = false := by kernel_rfl
theorem tk5_6 : hasB (kpT 5) ((6 : Nat) : Int) = false := by kernel_rfl
theorem tk5_7 : hasB (kpT 5) ((7 : Nat) : Int) = false := by kernel_rfl
theorem tk6_0 : hasB (kpT 6) ((0 : Nat) : Int) = false := by kernel_rfl
theorem tk6_1 : hasB (kpT 6) ((1 : Nat) : Int) = false := by kernel_rfl
theorem tk6_2 : hasB (kpT 6) ((2 : Nat) : Int) = false := by kernel_rfl
theorem tk6_3 : hasB (kpT 6) ((3 : Nat) : Int) = false := by kernel_rfl
theorem tk6_4 : hasB (kpT 6) ((4 : Nat) : Int) = false := by kernel_rfl
theorem tk6_5 : hasB (kpT 6) ((5 : Nat) : Int) = true := by kernel_rfl
theorem tk6_6 : hasB (kpT 6) ((6 : Nat) : Int) = true := by kernel_rfl
theorem tk6_7 : hasB (kpT 6) ((7 : Nat) : Int) = false := by kernel_rfl
theorem tk14_0 : hasB (kpT 14) ((0 : Nat) : Int) = false := by kernel_rfl
theorem tk14_1 : hasB (kpT 14) ((1 : Nat) : Int) = false := by kernel_rfl
theorem tk14_2 : hasB (kpT 14) ((2 : Nat) : Int) = true := by kernel_rfl
theorem tk14_3 : hasB (kpT 14) ((3 : Nat) : Int) = false := by kernel_rfl
theorem tk14_4 : hasB (kpT 14) ((4 : Nat) : Int) = false := by kernel_rfl
theorem tk14_5 : hasB (kpT 14) ((5 : Nat) : Int) = false := by kernel_rfl
theorem tk14_6 : hasB (kpT 14) ((6 : Nat) : Int) = false := by kernel_rfl
theorem tk14_7 : hasB (kpT 14) ((7 : Nat) : Int) = false := by kernel_rfl
theorem st_1 (tx via : ByteArray) (n tg : Int) (th : Bool) (al dn : List ByteArray) (us : List (ByteArray × Int)) (ks : List (Int × Int)) (d x3 x4 x5 x6 x7 x8 : Int) : strip 1 ⟨tx, n, tg, th, via, al, dn, us, ks, d, x3, x4, x5, x6, x7, x8⟩ = ⟨tx, n, tg, th, via, al, dn, us, ks, d, x3, x4, x5, x6, x7, x8⟩ := by
  have g : ∀ i, i < 8 → gB (kpT 1) 8 i = hasB (kpT 1) (i : Int) := fun i hi => by unfold gB; rw [decide_eq_true hi, Bool.true_and]
  unfold strip
  rw [if_pos (show kdB 1 = true from rfl)]
  unfold kc
  simp only [g _ (show 0 < 8 by decide), g _ (show 1 < 8 by decide), g _ (show 2 < 8 by decide), g _ (show 3 < 8 by decide), g _ (show 4 < 8 by decide), g _ (show 5 < 8 by decide), g _ (show 6 < 8 by decide), g _ (show 7 < 8 by decide), tk1_0, tk1_1, tk1_2, tk1_3, tk1_4, tk1_5, tk1_6, tk1_7, if_true, Bool.false_eq_true, if_false]
theorem st_2 (tx via : ByteArray) (n tg : Int) (th : Bool) (al dn : List ByteArray) (us : List (ByteArray × Int)) (ks : List (Int × Int)) (d x3 x4 x5 x6 x7 x8 : Int) : strip 2 ⟨tx, n, tg, th, via, al, dn, us, ks, d, x3, x4, x5, x6, x7, x8⟩ = ⟨⟨#[]⟩, n, 0, false, via, [], [], [], [], 0, 0, 0, 0, 0, 0, 0⟩ := by
  have g : ∀ i, i < 8 → gB (kpT 2) 8 i = hasB (kpT 2) (i : Int) := fun i hi => by unfold gB; rw [decide_eq_true hi, Bool.true_and]
  unfold strip
  rw [if_pos (show kdB 2 = true from rfl)]
  unfold kc
  simp only [g _ (show 0 < 8 by decide), g _ (show 1 < 8 by decide), g _ (show 2 < 8 by decide), g _ (show 3 < 8 by decide), g _ (show 4 < 8 by decide), g _ (show 5 < 8 by decide), g _ (show 6 < 8 by decide), g _ (show 7 < 8 by decide), tk2_0, tk2_1, tk2_2, tk2_3, tk2_4, tk2_5, tk2_6, tk2_7, if_true, Bool.false_eq_true, if_false]
theorem st_3 (tx via : ByteArray) (n tg : Int) (th : Bool) (al dn : List ByteArray) (us : List (ByteArray × Int)) (ks : List (Int × Int)) (d x3 x4 x5 x6 x7 x8 : Int) : strip 3 ⟨tx, n, tg, th, via, al, dn, us, ks, d, x3, x4, x5, x6, x7, x8⟩ = ⟨⟨#[]⟩, 0, 0, false, ⟨#[]⟩, [], [], us, ks, d, x3, x4, x5, x6, x7, x8⟩ := by
  have g : ∀ i, i < 8 → gB (kpT 3) 8 i = hasB (kpT 3) (i : Int) := fun i hi => by unfold gB; rw [decide_eq_true hi, Bool.true_and]
  unfold strip
  rw [if_pos (show kdB 3 = true from rfl)]
  unfold kc
  simp only [g _ (show 0 < 8 by decide), g _ (show 1 < 8 by decide), g _ (show 2 < 8 by decide), g _ (show 3 < 8 by decide), g _ (show 4 < 8 by decide), g _ (show 5 < 8 by decide), g _ (show 6 < 8 by decide), g _ (show 7 < 8 by decide), tk3_0, tk3_1, tk3_2, tk3_3, tk3_4, tk3_5, tk3_6, tk3_7, if_true, Bool.false_eq_true, if_false]
theorem st_4 (tx via : ByteArray) (n tg : Int) (th : Bool) (al dn : List ByteArray) (us : List (ByteArray × Int)) (ks : List (Int × Int)) (d x3 x4 x5 x6 x7 x8 : Int) : strip 4 ⟨tx, n, tg, th, via, al, dn, us, ks, d, x3, x4, x5, x6, x7, x8⟩ = ⟨⟨#[]⟩, n, 0, false, ⟨#[]⟩, al, [], [], [], 0, 0, 0, 0, 0, 0, 0⟩ := by
  have g : ∀ i, i < 8 → gB (kpT 4) 8 i = hasB (kpT 4) (i : Int) := fun i hi => by unfold gB; rw [decide_eq_true hi, Bool.true_and]
  unfold strip
  rw [if_pos (show kdB 4 = true from rfl)]
  unfold kc
  simp only [g _ (show 0 < 8 by decide), g _ (show 1 < 8 by decide), g _ (show 2 < 8 by decide), g _ (show 3 < 8 by decide), g _ (show 4 < 8 by decide), g _ (show 5 < 8 by decide), g _ (show 6 < 8 by decide), g _ (show 7 < 8 by decide), tk4_0, tk4_1, tk4_2, tk4_3, tk4_4, tk4_5, tk4_6, tk4_7, if_true, Bool.false_eq_true, if_false]
theorem st_5 (tx via : ByteArray) (n tg : Int) (th : Bool) (al dn : List ByteArray) (us : List (ByteArray × Int)) (ks : List (Int × Int)) (d x3 x4 x5 x6 x7 x8 : Int) : strip 5 ⟨tx, n, tg, th, via, al, dn, us, ks, d, x3, x4, x5, x6, x7, x8⟩ = ⟨⟨#[]⟩, n, 0, false, ⟨#[]⟩, [], [], [], [], 0, 0, 0, 0, 0, 0, 0⟩ := by
  have g : ∀ i, i < 8 → gB (kpT 5) 8 i = hasB (kpT 5) (i : Int) := fun i hi => by unfold gB; rw [decide_eq_true hi, Bool.true_and]
  unfold strip
  rw [if_pos (show kdB 5 = true from rfl)]
  unfold kc
  simp only [g _ (show 0 < 8 by decide), g _ (show 1 < 8 by decide), g _ (show 2 < 8 by decide), g _ (show 3 < 8 by decide), g _ (show 4 < 8 by decide), g _ (show 5 < 8 by decide), g _ (show 6 < 8 by decide), g _ (show 7 < 8 by decide), tk5_0, tk5_1, tk5_2, tk5_3, tk5_4, tk5_5, tk5_6, tk5_7, if_true, Bool.false_eq_true, if_false]
theorem st_6 (tx via : ByteArray) (n tg : Int) (th : Bool) (al dn : List ByteArray) (us : List (ByteArray × Int)) (ks : List (Int × Int)) (d x3 x4 x5 x6 x7 x8 : Int) : strip 6 ⟨tx, n, tg, th, via, al, dn, us, ks, d, x3, x4, x5, x6, x7, x8⟩ = ⟨⟨#[]⟩, 0, 0, false, ⟨#[]⟩, al, dn, [], [], 0, 0, 0, 0, 0, 0, 0⟩ := by
  have g : ∀ i, i < 8 → gB (kpT 6) 8 i = hasB (kpT 6) (i : Int) := fun i hi => by unfold gB; rw [decide_eq_true hi, Bool.true_and]
  unfold strip
  rw [if_pos (show kdB 6 = true from rfl)]
  unfold kc
  simp only [g _ (show 0 < 8 by decide), g _ (show 1 < 8 by decide), g _ (show 2 < 8 by decide), g _ (show 3 < 8 by decide), g _ (show 4 < 8 by decide), g _ (show 5 < 8 by decide), g _ (show 6 < 8 by decide), g _ (show 7 < 8 by decide), tk6_0, tk6_1, tk6_2, tk6_3, tk6_4, tk6_5, tk6_6, tk6_7, if_true, Bool.false_eq_true, if_false]
theorem st_14 (tx via : ByteArray) (n tg : Int) (th : Bool) (al dn : List ByteArray) (us : List (ByteArray × Int)) (ks : List (Int × Int)) (d x3 x4 x5 x6 x7 x8 : Int) : strip 14 ⟨tx, n, tg, th, via, al, dn, us, ks, d, x3, x4, x5, x6, x7, x8⟩ = ⟨⟨#[]⟩, 0, tg, false, ⟨#[]⟩, [], [], [], [], 0, 0, 0, 0, 0, 0, 0⟩ := by
  have g : ∀ i, i < 8 → gB (kpT 14) 8 i = hasB (kpT 14) (i : Int) := fun i hi => by unfold gB; rw [decide_eq_true hi, Bool.true_and]
  unfold strip
  rw [if_pos (show kdB 14 = true from rfl)]
  unfold kc
  simp only [g _ (show 0 < 8 by decide), g _ (show 1 < 8 by decide), g _ (show 2 < 8 by decide), g _ (show 3 < 8 by decide), g _ (show 4 < 8 by decide), g _ (show 5 < 8 by decide), g _ (show 6 < 8 by decide), g _ (show 7 < 8 by decide), tk14_0, tk14_1, tk14_2, tk14_3, tk14_4, tk14_5, tk14_6, tk14_7, if_true, Bool.false_eq_true, if_false]
theorem in0 : i64B 0 := by unfold i64B; decide
theorem tz0 : hasB 0 ((0 : Nat) : Int) = false := by kernel_rfl
theorem tz1 : hasB 0 ((1 : Nat) : Int) = false := by kernel_rfl
theorem tz2 : hasB 0 ((2 : Nat) : Int) = false := by kernel_rfl
theorem tz3 : hasB 0 ((3 : Nat) : Int) = false := by kernel_rfl
theorem tz4 : hasB 0 ((4 : Nat) : Int) = false := by kernel_rfl
theorem tz5 : hasB 0 ((5 : Nat) : Int) = false := by kernel_rfl
theorem tz6 : hasB 0 ((6 : Nat) : Int) = false := by kernel_rfl
theorem tz7 : hasB 0 ((7 : Nat) : Int) = false := by kernel_rfl
theorem kpT_none {k : Int} (hk : kdB k = true) (h1 : ¬ k = 1) (h2 : ¬ k = 2) (h3 : ¬ k = 3) (h4 : ¬ k = 4) (h5 : ¬ k = 5) (h6 : ¬ k = 6) (h14 : ¬ k = 14) : kpT k = 0 := by
  have := of_decide_eq_true hk
  rcases (show k = 7 ∨ k = 8 ∨ k = 9 ∨ k = 10 ∨ k = 11 ∨ k = 12 ∨ k = 13 by omega) with rfl | rfl | rfl | rfl | rfl | rfl | rfl <;> rfl
theorem strip_none {k : Int} (h1 : ¬ k = 1) (h2 : ¬ k = 2) (h3 : ¬ k = 3) (h4 : ¬ k = 4) (h5 : ¬ k = 5) (h6 : ¬ k = 6) (h14 : ¬ k = 14) (C : Cn) : strip k C = c0 := by
  unfold strip
  by_cases hk : kdB k = true
  · rw [if_pos hk, kpT_none hk h1 h2 h3 h4 h5 h6 h14]
    have g : ∀ i, i < 8 → gB 0 8 i = false := fun i hi => by
      unfold gB
      rw [decide_eq_true hi, Bool.true_and]
      match i, hi with
      | 0, _ => exact tz0
      | 1, _ => exact tz1
      | 2, _ => exact tz2
      | 3, _ => exact tz3
      | 4, _ => exact tz4
      | 5, _ => exact tz5
      | 6, _ => exact tz6
      | 7, _ => exact tz7
    unfold kc
    simp only [g 0 (by decide), g 1 (by decide), g 2 (by decide), g 3 (by decide), g 4 (by decide), g 5 (by decide), g 6 (by decide), g 7 (by decide), Bool.false_eq_true, if_false]
    rfl
  · rw [if_neg hk]
set_option maxHeartbeats 16000000 in
theorem rstrip22 (k : Int) (C : Cn) (a : Ads) (w : World) (h : IsC w C a) : Calls Tryz.prog 36 #[.int .i64 k, .agg (ccs C a).toArray] w (StS C a (strip k C) w) := by
  unfold StS
  have HI0 := Lib.hid h
  clear h
  obtain ⟨tx, n, tg, th, via, al, dn, us, ks, d, x3, x4, x5, x6, x7, x8⟩ := C
  obtain ⟨aA, aC, dA, dC, uA, uC, kA, kC⟩ := a
  have BA := Lib.hid (((Below.refl w.heap.size w).alloc (Nat.le_refl _) (.cells #[.string tx, .int .i64 n, .int .i64 tg, .bool th, .string via, .slice aA al.length aC, .slice dA dn.length dC, .slice uA us.length uC, .slice kA ks.length kC, .int .i64 d, .int .i64 x3, .int .i64 x4, .int .i64 x5, .int .i64 x6, .int .i64 x7, .int .i64 x8] 30)).alloc (by simp) (.cells #[.string ⟨#[]⟩, .int .i64 0, .int .i64 0, .bool false, .string ⟨#[]⟩, .slice none 0 0, .slice none 0 0, .slice none 0 0, .slice none 0 0, .int .i64 0, .int .i64 0, .int .i64 0, .int .i64 0, .int .i64 0, .int .i64 0, .int .i64 0] 30))
  have XA := Lib.hid ((blk_new w [.string tx, .int .i64 n, .int .i64 tg, .bool th, .string via, .slice aA al.length aC, .slice dA dn.length dC, .slice uA us.length uC, .slice kA ks.length kC, .int .i64 d, .int .i64 x3, .int .i64 x4, .int .i64 x5, .int .i64 x6, .int .i64 x7, .int .i64 x8] 30).alloc (.cells #[.string ⟨#[]⟩, .int .i64 0, .int .i64 0, .bool false, .string ⟨#[]⟩, .slice none 0 0, .slice none 0 0, .slice none 0 0, .slice none 0 0, .int .i64 0, .int .i64 0, .int .i64 0, .int .i64 0, .int .i64 0, .int .i64 0, .int .i64 0] 30))
  have RA := Lib.hid (blk_new2 w (.cells #[.string tx, .int .i64 n, .int .i64 tg, .bool th, .string via, .slice aA al.length aC, .slice dA dn.length dC, .slice uA us.length uC, .slice kA ks.length kC, .int .i64 d, .int .i64 x3, .int .i64 x4, .int .i64 x5, .int .i64 x6, .int .i64 x7, .int .i64 x8] 30) [.string ⟨#[]⟩, .int .i64 0, .int .i64 0, .bool false, .string ⟨#[]⟩, .slice none 0 0, .slice none 0 0, .slice none 0 0, .slice none 0 0, .int .i64 0, .int .i64 0, .int .i64 0, .int .i64 0, .int .i64 0, .int .i64 0, .int .i64 0] 30)
  show Calls Tryz.prog 36 #[.int .i64 k, .agg #[.string tx, .int .i64 n, .int .i64 tg, .bool th, .string via, .slice aA al.length aC, .slice dA dn.length dC, .slice uA us.length uC, .slice kA ks.length kC, .int .i64 d, .int .i64 x3, .int .i64 x4, .int .i64 x5, .int .i64 x6, .int .i64 x7, .int .i64 x8]] w _
  generalize hW : (w.alloc (.cells #[.string tx, .int .i64 n, .int .i64 tg, .bool th, .string via, .slice aA al.length aC, .slice dA dn.length dC, .slice uA us.length uC, .slice kA ks.length kC, .int .i64 d, .int .i64 x3, .int .i64 x4, .int .i64 x5, .int .i64 x6, .int .i64 x7, .int .i64 x8] 30)).alloc (.cells #[.string ⟨#[]⟩, .int .i64 0, .int .i64 0, .bool false, .string ⟨#[]⟩, .slice none 0 0, .slice none 0 0, .slice none 0 0, .slice none 0 0, .int .i64 0, .int .i64 0, .int .i64 0, .int .i64 0, .int .i64 0, .int .i64 0, .int .i64 0] 30) = WA at BA XA RA
  have y1 := XA.out.cell (i := 1) rfl
  have y2 := XA.out.cell (i := 2) rfl
  have y4 := XA.out.cell (i := 4) rfl
  have y5 := XA.out.cell (i := 5) rfl
  have y6 := XA.out.cell (i := 6) rfl
  by_cases h1 : k = 1
  · subst h1
    have HS := Lib.hid (st_1 tx via n tg th al dn us ks d x3 x4 x5 x6 x7 x8)
    generalize strip 1 ⟨tx, n, tg, th, via, al, dn, us, ks, d, x3, x4, x5, x6, x7, x8⟩ = r at HS ⊢
    go_enter Tryz.func36, Tryz.ntmps36
    go_wp2_with (first
      | (refine wpList_load_mid rfl 30 _ rfl w.heap.size 0 rfl [.string tx, .int .i64 n, .int .i64 tg, .bool th, .string via, .slice aA al.length aC, .slice dA dn.length dC, .slice uA us.length uC, .slice kA ks.length kC, .int .i64 d, .int .i64 x3, .int .i64 x4, .int .i64 x5, .int .i64 x6, .int .i64 x7, .int .i64 x8] _ XA.out.range Tryz.underlying30 rfl size29 ?_)
      | (refine wpList_load_mid rfl 28 _ rfl w.heap.size 7 rfl [.slice uA us.length uC, .slice kA ks.length kC, .int .i64 d, .int .i64 x3, .int .i64 x4, .int .i64 x5, .int .i64 x6, .int .i64 x7, .int .i64 x8] _ (XA.out.mid 7 9) Tryz.underlying28 rfl size27 ?_)
      | (refine store_mid_as rfl 30 _ _ rfl (w.heap.size + 1) 0 (#[.string tx, .int .i64 n, .int .i64 tg, .bool th, .string via, .slice aA al.length aC, .slice dA dn.length dC, .slice uA us.length uC, .slice kA ks.length kC, .int .i64 d, .int .i64 x3, .int .i64 x4, .int .i64 x5, .int .i64 x6, .int .i64 x7, .int .i64 x8] : Array Value) rfl rfl (Blk.there (n := 16) RA.out (Nat.le_refl 16)) size29 (by simp [Value.oneCell']) ?_; intro wz ez; have EZ := Lib.hid ez; clear ez)
      | fail)
    (try simp only [Exit.inBlock, Exit.then])
    have BZ := Lib.hid (show Below w.heap.size w wz by rw [EZ.out]; exact below_setAll (Nat.le_succ _) _ _ _ BA.out)
    have IZ := Lib.hid (HI0.out.below BZ.out)
    refine bodyPost_ret (results_cell_mid rfl _ _ (w.heap.size + 1) [.string tx, .int .i64 n, .int .i64 tg, .bool th, .string via, .slice aA al.length aC, .slice dA dn.length dC, .slice uA us.length uC, .slice kA ks.length kC, .int .i64 d, .int .i64 x3, .int .i64 x4, .int .i64 x5, .int .i64 x6, .int .i64 x7, .int .i64 x8] 30 _ rfl (by rw [EZ.out]; exact Blk.setAll RA.out _ rfl) Tryz.underlying30 rfl size29) rfl ?_
    rw [HS.out]
    exact ⟨⟨aA, aC, dA, dC, uA, uC, kA, kC⟩, rfl, ⟨IZ.out.al, IZ.out.dn, IZ.out.lv, IZ.out.tx, IZ.out.via, IZ.out.n, IZ.out.tg⟩, BZ.out, fun g hg => ⟨by first | exact hg.al | (intro h0; exact absurd h0 (Nat.lt_irrefl 0)), by first | exact hg.dn | (intro h0; exact absurd h0 (Nat.lt_irrefl 0)), by first | exact hg.us | (intro h0; exact absurd h0 (Nat.lt_irrefl 0)), by first | exact hg.ks | (intro h0; exact absurd h0 (Nat.lt_irrefl 0))⟩⟩
  have e1 : (k == 1) = false := by simpa using h1
  by_cases h2 : k = 2
  · subst h2
    have HS := Lib.hid (st_2 tx via n tg th al dn us ks d x3 x4 x5 x6 x7 x8)
    generalize strip 2 ⟨tx, n, tg, th, via, al, dn, us, ks, d, x3, x4, x5, x6, x7, x8⟩ = r at HS ⊢
    go_enter Tryz.func36, Tryz.ntmps36
    go_wp2_with (first
      | (refine wpList_load_mid rfl 30 _ rfl w.heap.size 0 rfl [.string tx, .int .i64 n, .int .i64 tg, .bool th, .string via, .slice aA al.length aC, .slice dA dn.length dC, .slice uA us.length uC, .slice kA ks.length kC, .int .i64 d, .int .i64 x3, .int .i64 x4, .int .i64 x5, .int .i64 x6, .int .i64 x7, .int .i64 x8] _ XA.out.range Tryz.underlying30 rfl size29 ?_)
      | (refine wpList_load_mid rfl 28 _ rfl w.heap.size 7 rfl [.slice uA us.length uC, .slice kA ks.length kC, .int .i64 d, .int .i64 x3, .int .i64 x4, .int .i64 x5, .int .i64 x6, .int .i64 x7, .int .i64 x8] _ (XA.out.mid 7 9) Tryz.underlying28 rfl size27 ?_)
      | (refine store_mid_as rfl 30 _ _ rfl (w.heap.size + 1) 0 (#[.string ⟨#[]⟩, .int .i64 n, .int .i64 0, .bool false, .string via, .slice none 0 0, .slice none 0 0, .slice none 0 0, .slice none 0 0, .int .i64 0, .int .i64 0, .int .i64 0, .int .i64 0, .int .i64 0, .int .i64 0, .int .i64 0] : Array Value) rfl rfl (Blk.there (n := 16) RA.out (Nat.le_refl 16)) size29 (by simp [Value.oneCell']) ?_; intro wz ez; have EZ := Lib.hid ez; clear ez)
      | fail)
    (try simp only [Exit.inBlock, Exit.then])
    have BZ := Lib.hid (show Below w.heap.size w wz by rw [EZ.out]; exact below_setAll (Nat.le_succ _) _ _ _ BA.out)
    have IZ := Lib.hid (HI0.out.below BZ.out)
    refine bodyPost_ret (results_cell_mid rfl _ _ (w.heap.size + 1) [.string ⟨#[]⟩, .int .i64 n, .int .i64 0, .bool false, .string via, .slice none 0 0, .slice none 0 0, .slice none 0 0, .slice none 0 0, .int .i64 0, .int .i64 0, .int .i64 0, .int .i64 0, .int .i64 0, .int .i64 0, .int .i64 0] 30 _ rfl (by rw [EZ.out]; exact Blk.setAll RA.out _ rfl) Tryz.underlying30 rfl size29) rfl ?_
    rw [HS.out]
    exact ⟨⟨none, 0, none, 0, none, 0, none, 0⟩, rfl, ⟨Txs.nil _, Txs.nil _, zero_isL _, sz0, IZ.out.via, IZ.out.n, in0⟩, BZ.out, fun g hg => ⟨by first | exact hg.al | (intro h0; exact absurd h0 (Nat.lt_irrefl 0)), by first | exact hg.dn | (intro h0; exact absurd h0 (Nat.lt_irrefl 0)), by first | exact hg.us | (intro h0; exact absurd h0 (Nat.lt_irrefl 0)), by first | exact hg.ks | (intro h0; exact absurd h0 (Nat.lt_irrefl 0))⟩⟩
  have e2 : (k == 2) = false := by simpa using h2
  by_cases h3 : k = 3
  · subst h3
    have HS := Lib.hid (st_3 tx via n tg th al dn us ks d x3 x4 x5 x6 x7 x8)
    generalize strip 3 ⟨tx, n, tg, th, via, al, dn, us, ks, d, x3, x4, x5, x6, x7, x8⟩ = r at HS ⊢
    go_enter Tryz.func36, Tryz.ntmps36
    go_wp2_with (first
      | (refine wpList_load_mid rfl 30 _ rfl w.heap.size 0 rfl [.string tx, .int .i64 n, .int .i64 tg, .bool th, .string via, .slice aA al.length aC, .slice dA dn.length dC, .slice uA us.length uC, .slice kA ks.length kC, .int .i64 d, .int .i64 x3, .int .i64 x4, .int .i64 x5, .int .i64 x6, .int .i64 x7, .int .i64 x8] _ XA.out.range Tryz.underlying30 rfl size29 ?_)
      | (refine wpList_load_mid rfl 28 _ rfl w.heap.size 7 rfl [.slice uA us.length uC, .slice kA ks.length kC, .int .i64 d, .int .i64 x3, .int .i64 x4, .int .i64 x5, .int .i64 x6, .int .i64 x7, .int .i64 x8] _ (XA.out.mid 7 9) Tryz.underlying28 rfl size27 ?_)
      | (refine store_mid_as rfl 30 _ _ rfl (w.heap.size + 1) 0 (#[.string ⟨#[]⟩, .int .i64 0, .int .i64 0, .bool false, .string ⟨#[]⟩, .slice none 0 0, .slice none 0 0, .slice uA us.length uC, .slice kA ks.length kC, .int .i64 d, .int .i64 x3, .int .i64 x4, .int .i64 x5, .int .i64 x6, .int .i64 x7, .int .i64 x8] : Array Value) rfl rfl (Blk.there (n := 16) RA.out (Nat.le_refl 16)) size29 (by simp [Value.oneCell']) ?_; intro wz ez; have EZ := Lib.hid ez; clear ez)
      | fail)
    (try simp only [Exit.inBlock, Exit.then])
    have BZ := Lib.hid (show Below w.heap.size w wz by rw [EZ.out]; exact below_setAll (Nat.le_succ _) _ _ _ BA.out)
    have IZ := Lib.hid (HI0.out.below BZ.out)
    refine bodyPost_ret (results_cell_mid rfl _ _ (w.heap.size + 1) [.string ⟨#[]⟩, .int .i64 0, .int .i64 0, .bool false, .string ⟨#[]⟩, .slice none 0 0, .slice none 0 0, .slice uA us.length uC, .slice kA ks.length kC, .int .i64 d, .int .i64 x3, .int .i64 x4, .int .i64 x5, .int .i64 x6, .int .i64 x7, .int .i64 x8] 30 _ rfl (by rw [EZ.out]; exact Blk.setAll RA.out _ rfl) Tryz.underlying30 rfl size29) rfl ?_
    rw [HS.out]
    exact ⟨⟨none, 0, none, 0, uA, uC, kA, kC⟩, rfl, ⟨Txs.nil _, Txs.nil _, IZ.out.lv, sz0, sz0, in0, in0⟩, BZ.out, fun g hg => ⟨by first | exact hg.al | (intro h0; exact absurd h0 (Nat.lt_irrefl 0)), by first | exact hg.dn | (intro h0; exact absurd h0 (Nat.lt_irrefl 0)), by first | exact hg.us | (intro h0; exact absurd h0 (Nat.lt_irrefl 0)), by first | exact hg.ks | (intro h0; exact absurd h0 (Nat.lt_irrefl 0))⟩⟩
  have e3 : (k == 3) = false := by simpa using h3
  by_cases h4 : k = 4
  · subst h4
    have HS := Lib.hid (st_4 tx via n tg th al dn us ks d x3 x4 x5 x6 x7 x8)
    generalize strip 4 ⟨tx, n, tg, th, via, al, dn, us, ks, d, x3, x4, x5, x6, x7, x8⟩ = r at HS ⊢
    go_enter Tryz.func36, Tryz.ntmps36
    go_wp2_with (first
      | (refine wpList_load_mid rfl 30 _ rfl w.heap.size 0 rfl [.string tx, .int .i64 n, .int .i64 tg, .bool th, .string via, .slice aA al.length aC, .slice dA dn.length dC, .slice uA us.length uC, .slice kA ks.length kC, .int .i64 d, .int .i64 x3, .int .i64 x4, .int .i64 x5, .int .i64 x6, .int .i64 x7, .int .i64 x8] _ XA.out.range Tryz.underlying30 rfl size29 ?_)
      | (refine wpList_load_mid rfl 28 _ rfl w.heap.size 7 rfl [.slice uA us.length uC, .slice kA ks.length kC, .int .i64 d, .int .i64 x3, .int .i64 x4, .int .i64 x5, .int .i64 x6, .int .i64 x7, .int .i64 x8] _ (XA.out.mid 7 9) Tryz.underlying28 rfl size27 ?_)
      | (refine store_mid_as rfl 30 _ _ rfl (w.heap.size + 1) 0 (#[.string ⟨#[]⟩, .int .i64 n, .int .i64 0, .bool false, .string ⟨#[]⟩, .slice aA al.length aC, .slice none 0 0, .slice none 0 0, .slice none 0 0, .int .i64 0, .int .i64 0, .int .i64 0, .int .i64 0, .int .i64 0, .int .i64 0, .int .i64 0] : Array Value) rfl rfl (Blk.there (n := 16) RA.out (Nat.le_refl 16)) size29 (by simp [Value.oneCell']) ?_; intro wz ez; have EZ := Lib.hid ez; clear ez)
      | fail)
    (try simp only [Exit.inBlock, Exit.then])
    have BZ := Lib.hid (show Below w.heap.size w wz by rw [EZ.out]; exact below_setAll (Nat.le_succ _) _ _ _ BA.out)
    have IZ := Lib.hid (HI0.out.below BZ.out)
    refine bodyPost_ret (results_cell_mid rfl _ _ (w.heap.size + 1) [.string ⟨#[]⟩, .int .i64 n, .int .i64 0, .bool false, .string ⟨#[]⟩, .slice aA al.length aC, .slice none 0 0, .slice none 0 0, .slice none 0 0, .int .i64 0, .int .i64 0, .int .i64 0, .int .i64 0, .int .i64 0, .int .i64 0, .int .i64 0] 30 _ rfl (by rw [EZ.out]; exact Blk.setAll RA.out _ rfl) Tryz.underlying30 rfl size29) rfl ?_
    rw [HS.out]
    exact ⟨⟨aA, aC, none, 0, none, 0, none, 0⟩, rfl, ⟨IZ.out.al, Txs.nil _, zero_isL _, sz0, sz0, IZ.out.n, in0⟩, BZ.out, fun g hg => ⟨by first | exact hg.al | (intro h0; exact absurd h0 (Nat.lt_irrefl 0)), by first | exact hg.dn | (intro h0; exact absurd h0 (Nat.lt_irrefl 0)), by first | exact hg.us | (intro h0; exact absurd h0 (Nat.lt_irrefl 0)), by first | exact hg.ks | (intro h0; exact absurd h0 (Nat.lt_irrefl 0))⟩⟩
  have e4 : (k == 4) = false := by simpa using h4
  by_cases h5 : k = 5
  · subst h5
    have HS := Lib.hid (st_5 tx via n tg th al dn us ks d x3 x4 x5 x6 x7 x8)
    generalize strip 5 ⟨tx, n, tg, th, via, al, dn, us, ks, d, x3, x4, x5, x6, x7, x8⟩ = r at HS ⊢
    go_enter Tryz.func36, Tryz.ntmps36
    go_wp2_with (first
      | (refine wpList_load_mid rfl 30 _ rfl w.heap.size 0 rfl [.string tx, .int .i64 n, .int .i64 tg, .bool th, .string via, .slice aA al.length aC, .slice dA dn.length dC, .slice uA us.length uC, .slice kA ks.length kC, .int .i64 d, .int .i64 x3, .int .i64 x4, .int .i64 x5, .int .i64 x6, .int .i64 x7, .int .i64 x8] _ XA.out.range Tryz.underlying30 rfl size29 ?_)
      | (refine wpList_load_mid rfl 28 _ rfl w.heap.size 7 rfl [.slice uA us.length uC, .slice kA ks.length kC, .int .i64 d, .int .i64 x3, .int .i64 x4, .int .i64 x5, .int .i64 x6, .int .i64 x7, .int .i64 x8] _ (XA.out.mid 7 9) Tryz.underlying28 rfl size27 ?_)
      | (refine store_mid_as rfl 30 _ _ rfl (w.heap.size + 1) 0 (#[.string ⟨#[]⟩, .int .i64 n, .int .i64 0, .bool false, .string ⟨#[]⟩, .slice none 0 0, .slice none 0 0, .slice none 0 0, .slice none 0 0, .int .i64 0, .int .i64 0, .int .i64 0, .int .i64 0, .int .i64 0, .int .i64 0, .int .i64 0] : Array Value) rfl rfl (Blk.there (n := 16) RA.out (Nat.le_refl 16)) size29 (by simp [Value.oneCell']) ?_; intro wz ez; have EZ := Lib.hid ez; clear ez)
      | fail)
    (try simp only [Exit.inBlock, Exit.then])
    have BZ := Lib.hid (show Below w.heap.size w wz by rw [EZ.out]; exact below_setAll (Nat.le_succ _) _ _ _ BA.out)
    have IZ := Lib.hid (HI0.out.below BZ.out)
    refine bodyPost_ret (results_cell_mid rfl _ _ (w.heap.size + 1) [.string ⟨#[]⟩, .int .i64 n, .int .i64 0, .bool false, .string ⟨#[]⟩, .slice none 0 0, .slice none 0 0, .slice none 0 0, .slice none 0 0, .int .i64 0, .int .i64 0, .int .i64 0, .int .i64 0, .int .i64 0, .int .i64 0, .int .i64 0] 30 _ rfl (by rw [EZ.out]; exact Blk.setAll RA.out _ rfl) Tryz.underlying30 rfl size29) rfl ?_
    rw [HS.out]
    exact ⟨⟨none, 0, none, 0, none, 0, none, 0⟩, rfl, ⟨Txs.nil _, Txs.nil _, zero_isL _, sz0, sz0, IZ.out.n, in0⟩, BZ.out, fun g hg => ⟨by first | exact hg.al | (intro h0; exact absurd h0 (Nat.lt_irrefl 0)), by first | exact hg.dn | (intro h0; exact absurd h0 (Nat.lt_irrefl 0)), by first | exact hg.us | (intro h0; exact absurd h0 (Nat.lt_irrefl 0)), by first | exact hg.ks | (intro h0; exact absurd h0 (Nat.lt_irrefl 0))⟩⟩
  have e5 : (k == 5) = false := by simpa using h5
  by_cases h6 : k = 6
  · subst h6
    have HS := Lib.hid (st_6 tx via n tg th al dn us ks d x3 x4 x5 x6 x7 x8)
    generalize strip 6 ⟨tx, n, tg, th, via, al, dn, us, ks, d, x3, x4, x5, x6, x7, x8⟩ = r at HS ⊢
    go_enter Tryz.func36, Tryz.ntmps36
    go_wp2_with (first
      | (refine wpList_load_mid rfl 30 _ rfl w.heap.size 0 rfl [.string tx, .int .i64 n, .int .i64 tg, .bool th, .string via, .slice aA al.length aC, .slice dA dn.length dC, .slice uA us.length uC, .slice kA ks.length kC, .int .i64 d, .int .i64 x3, .int .i64 x4, .int .i64 x5, .int .i64 x6, .int .i64 x7, .int .i64 x8] _ XA.out.range Tryz.underlying30 rfl size29 ?_)
      | (refine wpList_load_mid rfl 28 _ rfl w.heap.size 7 rfl [.slice uA us.length uC, .slice kA ks.length kC, .int .i64 d, .int .i64 x3, .int .i64 x4, .int .i64 x5, .int .i64 x6, .int .i64 x7, .int .i64 x8] _ (XA.out.mid 7 9) Tryz.underlying28 rfl size27 ?_)
      | (refine store_mid_as rfl 30 _ _ rfl (w.heap.size + 1) 0 (#[.string ⟨#[]⟩, .int .i64 0, .int .i64 0, .bool false, .string ⟨#[]⟩, .slice aA al.length aC, .slice dA dn.length dC, .slice none 0 0, .slice none 0 0, .int .i64 0, .int .i64 0, .int .i64 0, .int .i64 0, .int .i64 0, .int .i64 0, .int .i64 0] : Array Value) rfl rfl (Blk.there (n := 16) RA.out (Nat.le_refl 16)) size29 (by simp [Value.oneCell']) ?_; intro wz ez; have EZ := Lib.hid ez; clear ez)
      | fail)
    (try simp only [Exit.inBlock, Exit.then])
    have BZ := Lib.hid (show Below w.heap.size w wz by rw [EZ.out]; exact below_setAll (Nat.le_succ _) _ _ _ BA.out)
    have IZ := Lib.hid (HI0.out.below BZ.out)
    refine bodyPost_ret (results_cell_mid rfl _ _ (w.heap.size + 1) [.string ⟨#[]⟩, .int .i64 0, .int .i64 0, .bool false, .string ⟨#[]⟩, .slice aA al.length aC, .slice dA dn.length dC, .slice none 0 0, .slice none 0 0, .int .i64 0, .int .i64 0, .int .i64 0, .int .i64 0, .int .i64 0, .int .i64 0, .int .i64 0] 30 _ rfl (by rw [EZ.out]; exact Blk.setAll RA.out _ rfl) Tryz.underlying30 rfl size29) rfl ?_
    rw [HS.out]
    exact ⟨⟨aA, aC, dA, dC, none, 0, none, 0⟩, rfl, ⟨IZ.out.al, IZ.out.dn, zero_isL _, sz0, sz0, in0, in0⟩, BZ.out, fun g hg => ⟨by first | exact hg.al | (intro h0; exact absurd h0 (Nat.lt_irrefl 0)), by first | exact hg.dn | (intro h0; exact absurd h0 (Nat.lt_irrefl 0)), by first | exact hg.us | (intro h0; exact absurd h0 (Nat.lt_irrefl 0)), by first | exact hg.ks | (intro h0; exact absurd h0 (Nat.lt_irrefl 0))⟩⟩
  have e6 : (k == 6) = false := by simpa using h6
  by_cases h14 : k = 14
  · subst h14
    have HS := Lib.hid (st_14 tx via n tg th al dn us ks d x3 x4 x5 x6 x7 x8)
    generalize strip 14 ⟨tx, n, tg, th, via, al, dn, us, ks, d, x3, x4, x5, x6, x7, x8⟩ = r at HS ⊢
    go_enter Tryz.func36, Tryz.ntmps36
    go_wp2_with (first
      | (refine wpList_load_mid rfl 30 _ rfl w.heap.size 0 rfl [.string tx, .int .i64 n, .int .i64 tg, .bool th, .string via, .slice aA al.length aC, .slice dA dn.length dC, .slice uA us.length uC, .slice kA ks.length kC, .int .i64 d, .int .i64 x3, .int .i64 x4, .int .i64 x5, .int .i64 x6, .int .i64 x7, .int .i64 x8] _ XA.out.range Tryz.underlying30 rfl size29 ?_)
      | (refine wpList_load_mid rfl 28 _ rfl w.heap.size 7 rfl [.slice uA us.length uC, .slice kA ks.length kC, .int .i64 d, .int .i64 x3, .int .i64 x4, .int .i64 x5, .int .i64 x6, .int .i64 x7, .int .i64 x8] _ (XA.out.mid 7 9) Tryz.underlying28 rfl size27 ?_)
      | (refine store_mid_as rfl 30 _ _ rfl (w.heap.size + 1) 0 (#[.string ⟨#[]⟩, .int .i64 0, .int .i64 tg, .bool false, .string ⟨#[]⟩, .slice none 0 0, .slice none 0 0, .slice none 0 0, .slice none 0 0, .int .i64 0, .int .i64 0, .int .i64 0, .int .i64 0, .int .i64 0, .int .i64 0, .int .i64 0] : Array Value) rfl rfl (Blk.there (n := 16) RA.out (Nat.le_refl 16)) size29 (by simp [Value.oneCell']) ?_; intro wz ez; have EZ := Lib.hid ez; clear ez)
      | fail)
    (try simp only [Exit.inBlock, Exit.then])
    have BZ := Lib.hid (show Below w.heap.size w wz by rw [EZ.out]; exact below_setAll (Nat.le_succ _) _ _ _ BA.out)
    have IZ := Lib.hid (HI0.out.below BZ.out)
    refine bodyPost_ret (results_cell_mid rfl _ _ (w.heap.size + 1) [.string ⟨#[]⟩, .int .i64 0, .int .i64 tg, .bool false, .string ⟨#[]⟩, .slice none 0 0, .slice none 0 0, .slice none 0 0, .slice none 0 0, .int .i64 0, .int .i64 0, .int .i64 0, .int .i64 0, .int .i64 0, .int .i64 0, .int .i64 0] 30 _ rfl (by rw [EZ.out]; exact Blk.setAll RA.out _ rfl) Tryz.underlying30 rfl size29) rfl ?_
    rw [HS.out]
    exact ⟨⟨none, 0, none, 0, none, 0, none, 0⟩, rfl, ⟨Txs.nil _, Txs.nil _, zero_isL _, sz0, sz0, in0, IZ.out.tg⟩, BZ.out, fun g hg => ⟨by first | exact hg.al | (intro h0; exact absurd h0 (Nat.lt_irrefl 0)), by first | exact hg.dn | (intro h0; exact absurd h0 (Nat.lt_irrefl 0)), by first | exact hg.us | (intro h0; exact absurd h0 (Nat.lt_irrefl 0)), by first | exact hg.ks | (intro h0; exact absurd h0 (Nat.lt_irrefl 0))⟩⟩
  have e14 : (k == 14) = false := by simpa using h14
  have HS := Lib.hid (strip_none h1 h2 h3 h4 h5 h6 h14 ⟨tx, n, tg, th, via, al, dn, us, ks, d, x3, x4, x5, x6, x7, x8⟩)
  generalize strip k ⟨tx, n, tg, th, via, al, dn, us, ks, d, x3, x4, x5, x6, x7, x8⟩ = r at HS ⊢
  clear h1 h2 h3 h4 h5 h6 h14
  go_enter Tryz.func36, Tryz.ntmps36
  go_wp2_with (first
    | (refine wpList_load_mid rfl 30 _ rfl w.heap.size 0 rfl [.string tx, .int .i64 n, .int .i64 tg, .bool th, .string via, .slice aA al.length aC, .slice dA dn.length dC, .slice uA us.length uC, .slice kA ks.length kC, .int .i64 d, .int .i64 x3, .int .i64 x4, .int .i64 x5, .int .i64 x6, .int .i64 x7, .int .i64 x8] _ XA.out.range Tryz.underlying30 rfl size29 ?_)
    | (refine wpList_load_mid rfl 28 _ rfl w.heap.size 7 rfl [.slice uA us.length uC, .slice kA ks.length kC, .int .i64 d, .int .i64 x3, .int .i64 x4, .int .i64 x5, .int .i64 x6, .int .i64 x7, .int .i64 x8] _ (XA.out.mid 7 9) Tryz.underlying28 rfl size27 ?_)
    | (refine store_mid_as rfl 30 _ _ rfl (w.heap.size + 1) 0 (#[.string ⟨#[]⟩, .int .i64 0, .int .i64 0, .bool false, .string ⟨#[]⟩, .slice none 0 0, .slice none 0 0, .slice none 0 0, .slice none 0 0, .int .i64 0, .int .i64 0, .int .i64 0, .int .i64 0, .int .i64 0, .int .i64 0, .int .i64 0] : Array Value) rfl rfl (Blk.there (n := 16) RA.out (Nat.le_refl 16)) size29 (by simp [Value.oneCell']) ?_; intro wz ez; have EZ := Lib.hid ez; clear ez)
    | fail)
  (try simp only [Exit.inBlock, Exit.then])
  have BZ := Lib.hid (show Below w.heap.size w wz by rw [EZ.out]; exact below_setAll (Nat.le_succ _) _ _ _ BA.out)
  have IZ := Lib.hid (HI0.out.below BZ.out)
  refine bodyPost_ret (results_cell_mid rfl _ _ (w.heap.size + 1) [.string ⟨#[]⟩, .int .i64 0, .int .i64 0, .bool false, .string ⟨#[]⟩, .slice none 0 0, .slice none 0 0, .slice none 0 0, .slice none 0 0, .int .i64 0, .int .i64 0, .int .i64 0, .int .i64 0, .int .i64 0, .int .i64 0, .int .i64 0] 30 _ rfl (by rw [EZ.out]; exact Blk.setAll RA.out _ rfl) Tryz.underlying30 rfl size29) rfl ?_
  rw [HS.out]
  exact ⟨⟨none, 0, none, 0, none, 0, none, 0⟩, rfl, ⟨Txs.nil _, Txs.nil _, zero_isL _, sz0, sz0, in0, in0⟩, BZ.out, fun g hg => ⟨by first | exact hg.al | (intro h0; exact absurd h0 (Nat.lt_irrefl 0)), by first | exact hg.dn | (intro h0; exact absurd h0 (Nat.lt_irrefl 0)), by first | exact hg.us | (intro h0; exact absurd h0 (Nat.lt_irrefl 0)), by first | exact hg.ks | (intro h0; exact absurd h0 (Nat.lt_irrefl 0))⟩⟩
end Go.Proofs.YtablocpcgknmaaaGreatDoor
namespace Go.Proofs.YtablocpcgknmaaaGreatDoor
open Go Go.RowKit
set_option linter.unusedVariables false
set_option linter.unusedSimpArgs false
set_option maxRecDepth 100000

theorem same23r (C : Cn) (a a' : Ads) (w : World) (h : IsC w C a) (h' : IsC w C a') : Calls Tryz.prog 35 #[.agg (ccs C a).toArray, .agg (ccs C a').toArray] w fun e w' => e = .returned (.bool true) ∧ Below w.heap.size w w' := by
  have := same23 C C a a' w h h'
  rwa [sameC_refl] at this
end Go.Proofs.YtablocpcgknmaaaGreatDoor
namespace Go.Proofs.YtablocpcgknmaaaGreatDoor
open Go Go.RowKit
set_option linter.unusedVariables false
set_option linter.unusedSimpArgs false
set_option maxRecDepth 100000

set_option maxHeartbeats 8000000 in
theorem rstrip25 (E : Ew) (a : Aw) (w : World) (h : IsE w E a) : Calls Tryz.prog 25 #[.agg (ecs E a).toArray] w (StE E a (strE E) w) := by
  unfold StE
  have BA := Lib.hid (((Below.refl w.heap.size w).alloc (Nat.le_refl _) (.cells #[.int .i64 E.id, .string E.rm, .string E.sd, .int .i64 E.kd, .bool E.st, .string E.ky, .int .i64 E.tm, .int .i64 E.dp, .slice a.pA E.pv.length a.pC, .slice a.qA E.au.length a.qC, .string E.c.tx, .int .i64 E.c.n, .int .i64 E.c.tg, .bool E.c.th, .string E.c.via, .slice a.c.aA E.c.al.length a.c.aC, .slice a.c.dA E.c.dn.length a.c.dC, .slice a.c.uA E.c.us.length a.c.uC, .slice a.c.kA E.c.ks.length a.c.kC, .int .i64 E.c.d, .int .i64 E.c.x3, .int .i64 E.c.x4, .int .i64 E.c.x5, .int .i64 E.c.x6, .int .i64 E.c.x7, .int .i64 E.c.x8, .int .i64 E.hs, .string E.sv, .int .i64 E.sm] 34)).alloc (by simp) (.cells #[.int .i64 0, .string ⟨#[]⟩, .string ⟨#[]⟩, .int .i64 0, .bool false, .string ⟨#[]⟩, .int .i64 0, .int .i64 0, .slice none 0 0, .slice none 0 0, .string ⟨#[]⟩, .int .i64 0, .int .i64 0, .bool false, .string ⟨#[]⟩, .slice none 0 0, .slice none 0 0, .slice none 0 0, .slice none 0 0, .int .i64 0, .int .i64 0, .int .i64 0, .int .i64 0, .int .i64 0, .int .i64 0, .int .i64 0, .int .i64 0, .string ⟨#[]⟩, .int .i64 0] 34))
  have X0 := Lib.hid ((blk_new w [.int .i64 E.id, .string E.rm, .string E.sd, .int .i64 E.kd, .bool E.st, .string E.ky, .int .i64 E.tm, .int .i64 E.dp, .slice a.pA E.pv.length a.pC, .slice a.qA E.au.length a.qC, .string E.c.tx, .int .i64 E.c.n, .int .i64 E.c.tg, .bool E.c.th, .string E.c.via, .slice a.c.aA E.c.al.length a.c.aC, .slice a.c.dA E.c.dn.length a.c.dC, .slice a.c.uA E.c.us.length a.c.uC, .slice a.c.kA E.c.ks.length a.c.kC, .int .i64 E.c.d, .int .i64 E.c.x3, .int .i64 E.c.x4, .int .i64 E.c.x5, .int .i64 E.c.x6, .int .i64 E.c.x7, .int .i64 E.c.x8, .int .i64 E.hs, .string E.sv, .int .i64 E.sm] 34).alloc (.cells #[.int .i64 0, .string ⟨#[]⟩, .string ⟨#[]⟩, .int .i64 0, .bool false, .string ⟨#[]⟩, .int .i64 0, .int .i64 0, .slice none 0 0, .slice none 0 0, .string ⟨#[]⟩, .int .i64 0, .int .i64 0, .bool false, .string ⟨#[]⟩, .slice none 0 0, .slice none 0 0, .slice none 0 0, .slice none 0 0, .int .i64 0, .int .i64 0, .int .i64 0, .int .i64 0, .int .i64 0, .int .i64 0, .int .i64 0, .int .i64 0, .string ⟨#[]⟩, .int .i64 0] 34))
  have R0 := Lib.hid (blk_new2 w (.cells #[.int .i64 E.id, .string E.rm, .string E.sd, .int .i64 E.kd, .bool E.st, .string E.ky, .int .i64 E.tm, .int .i64 E.dp, .slice a.pA E.pv.length a.pC, .slice a.qA E.au.length a.qC, .string E.c.tx, .int .i64 E.c.n, .int .i64 E.c.tg, .bool E.c.th, .string E.c.via, .slice a.c.aA E.c.al.length a.c.aC, .slice a.c.dA E.c.dn.length a.c.dC, .slice a.c.uA E.c.us.length a.c.uC, .slice a.c.kA E.c.ks.length a.c.kC, .int .i64 E.c.d, .int .i64 E.c.x3, .int .i64 E.c.x4, .int .i64 E.c.x5, .int .i64 E.c.x6, .int .i64 E.c.x7, .int .i64 E.c.x8, .int .i64 E.hs, .string E.sv, .int .i64 E.sm] 34) [.int .i64 0, .string ⟨#[]⟩, .string ⟨#[]⟩, .int .i64 0, .bool false, .string ⟨#[]⟩, .int .i64 0, .int .i64 0, .slice none 0 0, .slice none 0 0, .string ⟨#[]⟩, .int .i64 0, .int .i64 0, .bool false, .string ⟨#[]⟩, .slice none 0 0, .slice none 0 0, .slice none 0 0, .slice none 0 0, .int .i64 0, .int .i64 0, .int .i64 0, .int .i64 0, .int .i64 0, .int .i64 0, .int .i64 0, .int .i64 0, .string ⟨#[]⟩, .int .i64 0] 34)
  have HE := Lib.hid h
  have HC := Lib.hid (fun y (hb : Below w.heap.size w y) => rstrip22 E.kd E.c a.c y (h.c.below hb))
  unfold StS at HC
  have HD := Lib.hid (show strE E = E.wc (strip E.kd E.c) from rfl)
  generalize strE E = E2 at HD ⊢
  generalize strip E.kd E.c = C2 at HC HD
  clear h
  show Calls Tryz.prog 25 #[.agg #[.int .i64 E.id, .string E.rm, .string E.sd, .int .i64 E.kd, .bool E.st, .string E.ky, .int .i64 E.tm, .int .i64 E.dp, .slice a.pA E.pv.length a.pC, .slice a.qA E.au.length a.qC, .string E.c.tx, .int .i64 E.c.n, .int .i64 E.c.tg, .bool E.c.th, .string E.c.via, .slice a.c.aA E.c.al.length a.c.aC, .slice a.c.dA E.c.dn.length a.c.dC, .slice a.c.uA E.c.us.length a.c.uC, .slice a.c.kA E.c.ks.length a.c.kC, .int .i64 E.c.d, .int .i64 E.c.x3, .int .i64 E.c.x4, .int .i64 E.c.x5, .int .i64 E.c.x6, .int .i64 E.c.x7, .int .i64 E.c.x8, .int .i64 E.hs, .string E.sv, .int .i64 E.sm]] w _
  generalize hW0 : (w.alloc (.cells #[.int .i64 E.id, .string E.rm, .string E.sd, .int .i64 E.kd, .bool E.st, .string E.ky, .int .i64 E.tm, .int .i64 E.dp, .slice a.pA E.pv.length a.pC, .slice a.qA E.au.length a.qC, .string E.c.tx, .int .i64 E.c.n, .int .i64 E.c.tg, .bool E.c.th, .string E.c.via, .slice a.c.aA E.c.al.length a.c.aC, .slice a.c.dA E.c.dn.length a.c.dC, .slice a.c.uA E.c.us.length a.c.uC, .slice a.c.kA E.c.ks.length a.c.kC, .int .i64 E.c.d, .int .i64 E.c.x3, .int .i64 E.c.x4, .int .i64 E.c.x5, .int .i64 E.c.x6, .int .i64 E.c.x7, .int .i64 E.c.x8, .int .i64 E.hs, .string E.sv, .int .i64 E.sm] 34)).alloc (.cells #[.int .i64 0, .string ⟨#[]⟩, .string ⟨#[]⟩, .int .i64 0, .bool false, .string ⟨#[]⟩, .int .i64 0, .int .i64 0, .slice none 0 0, .slice none 0 0, .string ⟨#[]⟩, .int .i64 0, .int .i64 0, .bool false, .string ⟨#[]⟩, .slice none 0 0, .slice none 0 0, .slice none 0 0, .slice none 0 0, .int .i64 0, .int .i64 0, .int .i64 0, .int .i64 0, .int .i64 0, .int .i64 0, .int .i64 0, .int .i64 0, .string ⟨#[]⟩, .int .i64 0] 34) = W0 at BA X0 R0
  have y3 := X0.out.cell (i := 3) rfl
  go_enter Tryz.func25, Tryz.ntmps25
  go_wp2_with (first
    | (refine wpList_load_mid rfl 30 _ rfl w.heap.size 10 rfl (ccs E.c a.c) _ (X0.out.mid 10 16) Tryz.underlying30 rfl size29 ?_)
    | (go_at_call 36; (with_reducible refine (HC.out W0 BA.out).mono ?_); rintro e w3 ⟨b1, rfl, hi, hb, hn⟩; have K3 := Lib.hid hi; have N3 := Lib.hid hn; have X3 := Lib.hid (X0.out.below hb); have B3 := Lib.hid (BA.out.trans (hb.mono BA.out.size)); have R3 := Lib.hid (R0.out.below hb); clear hi hn hb HC y3)
    | (refine store_mid_as rfl 30 _ _ rfl w.heap.size 10 (ccs C2 b1).toArray rfl rfl (Blk.thereAt X3.out 10 16 (show (10 : Nat) + 16 ≤ 29 by decide)) size29 (by simp [Value.oneCell']) ?_; intro u3 eu; have P4 := Lib.hid (show Blk u3 w.heap.size (ecs (E.wc C2) (a.wc b1)) 34 by rw [eu]; exact set_midl (ccs C2 b1) [.int .i64 E.id, .string E.rm, .string E.sd, .int .i64 E.kd, .bool E.st, .string E.ky, .int .i64 E.tm, .int .i64 E.dp, .slice a.pA E.pv.length a.pC, .slice a.qA E.au.length a.qC] (ccs E.c a.c) [.int .i64 E.hs, .string E.sv, .int .i64 E.sm] w3 X3.out rfl); have R4 := Lib.hid (show Blk u3 (w.heap.size + 1) [.int .i64 0, .string ⟨#[]⟩, .string ⟨#[]⟩, .int .i64 0, .bool false, .string ⟨#[]⟩, .int .i64 0, .int .i64 0, .slice none 0 0, .slice none 0 0, .string ⟨#[]⟩, .int .i64 0, .int .i64 0, .bool false, .string ⟨#[]⟩, .slice none 0 0, .slice none 0 0, .slice none 0 0, .slice none 0 0, .int .i64 0, .int .i64 0, .int .i64 0, .int .i64 0, .int .i64 0, .int .i64 0, .int .i64 0, .int .i64 0, .string ⟨#[]⟩, .int .i64 0] 34 by rw [eu]; exact R3.out.otherAll _ _ _ (by omega)); have B4 := Lib.hid (show Below w.heap.size w u3 by rw [eu]; exact below_setAll (Nat.le_refl _) _ _ _ B3.out); have K4 := Lib.hid (show IsC u3 C2 b1 by rw [eu]; exact K3.out.otherC _ _ _ (N3.out _ (HE.out.c.ap (Nat.le_refl _)))); clear eu K3 X3 R3 B3)
    | (refine wpList_load_mid rfl 34 _ rfl w.heap.size 0 rfl (ecs (E.wc C2) (a.wc b1)) _ P4.out.range Tryz.underlying34 rfl size34 ?_)
    | (refine store_mid_as rfl 34 _ _ rfl (w.heap.size + 1) 0 (ecs (E.wc C2) (a.wc b1)).toArray rfl rfl (Blk.there (n := 29) R4.out (Nat.le_refl 29)) size34 (ecs_one _ _) ?_; intro wz ez; have EZ := Lib.hid ez; clear ez)
    | fail)
  (try simp only [Exit.inBlock, Exit.then])
  refine bodyPost_ret (results_cell_mid rfl _ _ (w.heap.size + 1) (ecs (E.wc C2) (a.wc b1)) 34 _ rfl (by rw [EZ.out]; exact Blk.setAll R4.out _ rfl) Tryz.underlying34 rfl size34) rfl ?_
  rw [EZ.out, HD.out]
  have hA : ∀ g, ApE g E a → ApE g (E.wc C2) (a.wc b1) := fun g hg => ⟨hg.pv, hg.au, N3.out g hg.c⟩
  have h4 := HE.out.below B4.out
  have hI : IsE u3 (E.wc C2) (a.wc b1) := { h4 with c := K4.out }
  exact ⟨a.wc b1, rfl, hI.otherE _ _ _ (hA _ (HE.out.ap (Nat.le_succ _))), below_setAll (Nat.le_succ _) _ _ _ B4.out, hA⟩
end Go.Proofs.YtablocpcgknmaaaGreatDoor
namespace Go.Proofs.YtablocpcgknmaaaGreatDoor
open Go Go.RowKit
set_option linter.unusedVariables false
set_option linter.unusedSimpArgs false
set_option maxRecDepth 100000

set_option maxHeartbeats 32000000 in
theorem rsame24t (E : Ew) (a b : Aw) (w : World) (h : IsE w E a) (h' : IsE w E b) : Calls Tryz.prog 24 #[.agg (ecs E a).toArray, .agg (ecs E b).toArray] w fun e w' => e = .returned (.bool true) ∧ Below w.heap.size w w' := by
  have BA := Lib.hid (((Below.refl w.heap.size w).alloc (Nat.le_refl _) (.cells #[.int .i64 E.id, .string E.rm, .string E.sd, .int .i64 E.kd, .bool E.st, .string E.ky, .int .i64 E.tm, .int .i64 E.dp, .slice a.pA E.pv.length a.pC, .slice a.qA E.au.length a.qC, .string E.c.tx, .int .i64 E.c.n, .int .i64 E.c.tg, .bool E.c.th, .string E.c.via, .slice a.c.aA E.c.al.length a.c.aC, .slice a.c.dA E.c.dn.length a.c.dC, .slice a.c.uA E.c.us.length a.c.uC, .slice a.c.kA E.c.ks.length a.c.kC, .int .i64 E.c.d, .int .i64 E.c.x3, .int .i64 E.c.x4, .int .i64 E.c.x5, .int .i64 E.c.x6, .int .i64 E.c.x7, .int .i64 E.c.x8, .int .i64 E.hs, .string E.sv, .int .i64 E.sm] 34)).alloc (by simp) (.cells #[.int .i64 E.id, .string E.rm, .string E.sd, .int .i64 E.kd, .bool E.st, .string E.ky, .int .i64 E.tm, .int .i64 E.dp, .slice b.pA E.pv.length b.pC, .slice b.qA E.au.length b.qC, .string E.c.tx, .int .i64 E.c.n, .int .i64 E.c.tg, .bool E.c.th, .string E.c.via, .slice b.c.aA E.c.al.length b.c.aC, .slice b.c.dA E.c.dn.length b.c.dC, .slice b.c.uA E.c.us.length b.c.uC, .slice b.c.kA E.c.ks.length b.c.kC, .int .i64 E.c.d, .int .i64 E.c.x3, .int .i64 E.c.x4, .int .i64 E.c.x5, .int .i64 E.c.x6, .int .i64 E.c.x7, .int .i64 E.c.x8, .int .i64 E.hs, .string E.sv, .int .i64 E.sm] 34))
  have X0 := Lib.hid ((blk_new w [.int .i64 E.id, .string E.rm, .string E.sd, .int .i64 E.kd, .bool E.st, .string E.ky, .int .i64 E.tm, .int .i64 E.dp, .slice a.pA E.pv.length a.pC, .slice a.qA E.au.length a.qC, .string E.c.tx, .int .i64 E.c.n, .int .i64 E.c.tg, .bool E.c.th, .string E.c.via, .slice a.c.aA E.c.al.length a.c.aC, .slice a.c.dA E.c.dn.length a.c.dC, .slice a.c.uA E.c.us.length a.c.uC, .slice a.c.kA E.c.ks.length a.c.kC, .int .i64 E.c.d, .int .i64 E.c.x3, .int .i64 E.c.x4, .int .i64 E.c.x5, .int .i64 E.c.x6, .int .i64 E.c.x7, .int .i64 E.c.x8, .int .i64 E.hs, .string E.sv, .int .i64 E.sm] 34).alloc (.cells #[.int .i64 E.id, .string E.rm, .string E.sd, .int .i64 E.kd, .bool E.st, .string E.ky, .int .i64 E.tm, .int .i64 E.dp, .slice b.pA E.pv.length b.pC, .slice b.qA E.au.length b.qC, .string E.c.tx, .int .i64 E.c.n, .int .i64 E.c.tg, .bool E.c.th, .string E.c.via, .slice b.c.aA E.c.al.length b.c.aC, .slice b.c.dA E.c.dn.length b.c.dC, .slice b.c.uA E.c.us.length b.c.uC, .slice b.c.kA E.c.ks.length b.c.kC, .int .i64 E.c.d, .int .i64 E.c.x3, .int .i64 E.c.x4, .int .i64 E.c.x5, .int .i64 E.c.x6, .int .i64 E.c.x7, .int .i64 E.c.x8, .int .i64 E.hs, .string E.sv, .int .i64 E.sm] 34))
  have Y0 := Lib.hid (blk_new2 w (.cells #[.int .i64 E.id, .string E.rm, .string E.sd, .int .i64 E.kd, .bool E.st, .string E.ky, .int .i64 E.tm, .int .i64 E.dp, .slice a.pA E.pv.length a.pC, .slice a.qA E.au.length a.qC, .string E.c.tx, .int .i64 E.c.n, .int .i64 E.c.tg, .bool E.c.th, .string E.c.via, .slice a.c.aA E.c.al.length a.c.aC, .slice a.c.dA E.c.dn.length a.c.dC, .slice a.c.uA E.c.us.length a.c.uC, .slice a.c.kA E.c.ks.length a.c.kC, .int .i64 E.c.d, .int .i64 E.c.x3, .int .i64 E.c.x4, .int .i64 E.c.x5, .int .i64 E.c.x6, .int .i64 E.c.x7, .int .i64 E.c.x8, .int .i64 E.hs, .string E.sv, .int .i64 E.sm] 34) [.int .i64 E.id, .string E.rm, .string E.sd, .int .i64 E.kd, .bool E.st, .string E.ky, .int .i64 E.tm, .int .i64 E.dp, .slice b.pA E.pv.length b.pC, .slice b.qA E.au.length b.qC, .string E.c.tx, .int .i64 E.c.n, .int .i64 E.c.tg, .bool E.c.th, .string E.c.via, .slice b.c.aA E.c.al.length b.c.aC, .slice b.c.dA E.c.dn.length b.c.dC, .slice b.c.uA E.c.us.length b.c.uC, .slice b.c.kA E.c.ks.length b.c.kC, .int .i64 E.c.d, .int .i64 E.c.x3, .int .i64 E.c.x4, .int .i64 E.c.x5, .int .i64 E.c.x6, .int .i64 E.c.x7, .int .i64 E.c.x8, .int .i64 E.hs, .string E.sv, .int .i64 E.sm] 34)
  have HP := Lib.hid (fun y (hb : Below w.heap.size w y) => same55 a.pA E.pv.length a.pC E.pv b.pA E.pv.length b.pC E.pv y (h.pv.below hb) (h'.pv.below hb) true (decide_eq_true rfl))
  have HA := Lib.hid (fun y (hb : Below w.heap.size w y) => same55 a.qA E.au.length a.qC E.au b.qA E.au.length b.qC E.au y (h.au.below hb) (h'.au.below hb) true (decide_eq_true rfl))
  have HC := Lib.hid (fun y (hb : Below w.heap.size w y) => same23r E.c a.c b.c y (h.c.below hb) (h'.c.below hb))
  clear h h'
  show Calls Tryz.prog 24 #[.agg #[.int .i64 E.id, .string E.rm, .string E.sd, .int .i64 E.kd, .bool E.st, .string E.ky, .int .i64 E.tm, .int .i64 E.dp, .slice a.pA E.pv.length a.pC, .slice a.qA E.au.length a.qC, .string E.c.tx, .int .i64 E.c.n, .int .i64 E.c.tg, .bool E.c.th, .string E.c.via, .slice a.c.aA E.c.al.length a.c.aC, .slice a.c.dA E.c.dn.length a.c.dC, .slice a.c.uA E.c.us.length a.c.uC, .slice a.c.kA E.c.ks.length a.c.kC, .int .i64 E.c.d, .int .i64 E.c.x3, .int .i64 E.c.x4, .int .i64 E.c.x5, .int .i64 E.c.x6, .int .i64 E.c.x7, .int .i64 E.c.x8, .int .i64 E.hs, .string E.sv, .int .i64 E.sm], .agg #[.int .i64 E.id, .string E.rm, .string E.sd, .int .i64 E.kd, .bool E.st, .string E.ky, .int .i64 E.tm, .int .i64 E.dp, .slice b.pA E.pv.length b.pC, .slice b.qA E.au.length b.qC, .string E.c.tx, .int .i64 E.c.n, .int .i64 E.c.tg, .bool E.c.th, .string E.c.via, .slice b.c.aA E.c.al.length b.c.aC, .slice b.c.dA E.c.dn.length b.c.dC, .slice b.c.uA E.c.us.length b.c.uC, .slice b.c.kA E.c.ks.length b.c.kC, .int .i64 E.c.d, .int .i64 E.c.x3, .int .i64 E.c.x4, .int .i64 E.c.x5, .int .i64 E.c.x6, .int .i64 E.c.x7, .int .i64 E.c.x8, .int .i64 E.hs, .string E.sv, .int .i64 E.sm]] w _
  generalize hW0 : (w.alloc (.cells #[.int .i64 E.id, .string E.rm, .string E.sd, .int .i64 E.kd, .bool E.st, .string E.ky, .int .i64 E.tm, .int .i64 E.dp, .slice a.pA E.pv.length a.pC, .slice a.qA E.au.length a.qC, .string E.c.tx, .int .i64 E.c.n, .int .i64 E.c.tg, .bool E.c.th, .string E.c.via, .slice a.c.aA E.c.al.length a.c.aC, .slice a.c.dA E.c.dn.length a.c.dC, .slice a.c.uA E.c.us.length a.c.uC, .slice a.c.kA E.c.ks.length a.c.kC, .int .i64 E.c.d, .int .i64 E.c.x3, .int .i64 E.c.x4, .int .i64 E.c.x5, .int .i64 E.c.x6, .int .i64 E.c.x7, .int .i64 E.c.x8, .int .i64 E.hs, .string E.sv, .int .i64 E.sm] 34)).alloc (.cells #[.int .i64 E.id, .string E.rm, .string E.sd, .int .i64 E.kd, .bool E.st, .string E.ky, .int .i64 E.tm, .int .i64 E.dp, .slice b.pA E.pv.length b.pC, .slice b.qA E.au.length b.qC, .string E.c.tx, .int .i64 E.c.n, .int .i64 E.c.tg, .bool E.c.th, .string E.c.via, .slice b.c.aA E.c.al.length b.c.aC, .slice b.c.dA E.c.dn.length b.c.dC, .slice b.c.uA E.c.us.length b.c.uC, .slice b.c.kA E.c.ks.length b.c.kC, .int .i64 E.c.d, .int .i64 E.c.x3, .int .i64 E.c.x4, .int .i64 E.c.x5, .int .i64 E.c.x6, .int .i64 E.c.x7, .int .i64 E.c.x8, .int .i64 E.hs, .string E.sv, .int .i64 E.sm] 34) = W0 at BA X0 Y0
  have p0 := X0.out.cell (i := 0) rfl
  have q0 := Y0.out.cell (i := 0) rfl
  have p1 := X0.out.cell (i := 1) rfl
  have q1 := Y0.out.cell (i := 1) rfl
  have p2 := X0.out.cell (i := 2) rfl
  have q2 := Y0.out.cell (i := 2) rfl
  have p3 := X0.out.cell (i := 3) rfl
  have q3 := Y0.out.cell (i := 3) rfl
  have p4 := X0.out.cell (i := 4) rfl
  have q4 := Y0.out.cell (i := 4) rfl
  have p5 := X0.out.cell (i := 5) rfl
  have q5 := Y0.out.cell (i := 5) rfl
  have p6 := X0.out.cell (i := 6) rfl
  have q6 := Y0.out.cell (i := 6) rfl
  have p7 := X0.out.cell (i := 7) rfl
  have q7 := Y0.out.cell (i := 7) rfl
  have p8 := X0.out.cell (i := 8) rfl
  have q8 := Y0.out.cell (i := 8) rfl
  go_enter Tryz.func24, Tryz.ntmps24
  go_wp2_with (first
    | (go_at_call 55; (with_reducible refine (HP.out W0 BA.out).mono ?_); rintro e w1 ⟨rfl, hb⟩; have B1 := Lib.hid (BA.out.trans (hb.mono BA.out.size)); have X1 := Lib.hid (X0.out.below hb); have Y1 := Lib.hid (Y0.out.below hb); clear hb p0 q0 p1 q1 p2 q2 p3 q3 p4 q4 p5 q5 p6 q6 p7 q7 p8 q8; have p9 := X1.out.cell (i := 9) rfl; have q9 := Y1.out.cell (i := 9) rfl)
    | (go_at_call 55; (with_reducible refine (HA.out w1 B1.out).mono ?_); rintro e w2 ⟨rfl, hb⟩; have B2 := Lib.hid (B1.out.trans (hb.mono B1.out.size)); have X2 := Lib.hid (X1.out.below hb); have Y2 := Lib.hid (Y1.out.below hb); clear hb p9 q9)
    | (refine load_mid_g (by rfl) 30 _ rfl w.heap.size 10 rfl (ccs E.c a.c) _ (X2.out.mid 10 16) Tryz.underlying30 rfl size29 ?_)
    | (refine load_mid_g (by rfl) 30 _ rfl (w.heap.size + 1) 10 rfl (ccs E.c b.c) _ (Y2.out.mid 10 16) Tryz.underlying30 rfl size29 ?_)
    | (go_at_call 35; (with_reducible refine (HC.out w2 B2.out).mono ?_); rintro e w3 ⟨rfl, hb⟩; have B3 := Lib.hid (B2.out.trans (hb.mono B2.out.size)); have X3 := Lib.hid (X2.out.below hb); have Y3 := Lib.hid (Y2.out.below hb); clear hb ; have p26 := X3.out.cell (i := 26) rfl; have q26 := Y3.out.cell (i := 26) rfl; have p27 := X3.out.cell (i := 27) rfl; have q27 := Y3.out.cell (i := 27) rfl; have p28 := X3.out.cell (i := 28) rfl; have q28 := Y3.out.cell (i := 28) rfl)
    | fail)
  go_ret
  exact ⟨rfl, B3.out⟩
end Go.Proofs.YtablocpcgknmaaaGreatDoor
