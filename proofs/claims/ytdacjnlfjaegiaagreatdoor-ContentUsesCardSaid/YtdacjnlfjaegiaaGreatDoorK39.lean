/- Whether a kind uses a field (law). No condition. -/
import Derived.Test.YtdacjnlfjaegiaaGreatDoorK22
import Derived.Test.YtdacjnlfjaegiaaGreatDoorK37
namespace Go.Proofs.YtdacjnlfjaegiaaGreatDoor
open Go Go.RowKit
set_option linter.unusedVariables false
set_option linter.unusedSimpArgs false
set_option maxRecDepth 100000

set_option maxHeartbeats 4000000 in
theorem has33 (k : Int) (f : ByteArray) (w : World) (hl0 : Lt w) : Calls Tryz.prog 33 #[.int .i64 k, .string f] w fun e w' => e = .returned (.bool (hasF (unL k) f)) ∧ Below w.heap.size w w' := by
  have HU := Lib.hid (uses25 k w hl0)
  have hl := unL_len k
  clear hl0
  generalize unL k = l at HU hl ⊢
  have HY := Lib.hid (fun j => hasF_yes (l := l) (f := f) (k := j))
  have HN := Lib.hid (hasF_no (l := l) (f := f))
  generalize hasF l f = q at HY HN ⊢
  unfold UsP at HU
  go_enter Tryz.func33, Tryz.ntmps33
  go_wp2_with (first | (go_at_call 25; (with_reducible refine HU.out.mono ?_); rintro e w1 ⟨A, c, rfl, ht, hb⟩; have HT := Lib.hid ht; have HB := Lib.hid hb; clear ht hb) | fail)
  go_loop [6] (fun s => ∃ (j : Nat), j ≤ l.length ∧ s = .int .i64 (j : Int) ∧ Hid (∀ i, i < j → ¬ l.getD i ByteArray.empty = f)) (fun s => l.length - (intOf s).toNat)
  case atStart => exact ⟨0, Nat.zero_le _, by go_num, Lib.hid (fun i hi => absurd hi (Nat.not_lt_zero _))⟩
  case round =>
    obtain ⟨j, hj, rfl, HJ⟩ := hrel
    by_cases hlt : j < l.length
    · have hltz : (j : Int) < (l.length : Int) := by omega
      have hk0 : (0 : Int) ≤ (j : Int) := by omega
      obtain ⟨b, off, rfl, t, ht, hts, q0⟩ := HT.out.get hlt
      have HR := Lib.hid ht
      clear ht hts
      by_cases e1 : t = f
      · have z1 : (t.toList == f.toList) = true := by rw [e1]; exact beq_self_eq_true _
        have HE := Lib.hid (HY.out j hlt (HR.out.trans e1))
        clear e1
        go_wp2
        go_ret
        rw [HE.out]
        exact ⟨rfl, HB.out⟩
      · have z1 : (t.toList == f.toList) = false := beq_eq_false_iff_ne.2 (fun e => e1 (eq_of_toList e))
        have HJ2 := Lib.hid (show ∀ i, i < j + 1 → ¬ l.getD i ByteArray.empty = f from fun i hi => by
          by_cases e : i = j
          · subst e; rw [HR.out]; exact e1
          · exact HJ.out i (by omega))
        clear e1
        go_wp2
        go_round
        case rel => exact ⟨j + 1, by omega, by go_num, HJ2⟩
        case measure => simp [intOf]; omega
    · have hltz : ¬ (j : Int) < (l.length : Int) := by omega
      have HE := Lib.hid (HN.out (fun i hi => HJ.out i (by omega)))
      go_wp2
      go_ret
      rw [HE.out]
      exact ⟨rfl, HB.out⟩
theorem hasF_tab {k : Int} (hk : kdB k = true) : (hasF (unL k) nText = hasB (usT k) ((0 : Nat) : Int)) ∧ (hasF (unL k) nN = hasB (usT k) ((1 : Nat) : Int)) ∧ (hasF (unL k) nTarget = hasB (usT k) ((2 : Nat) : Int)) ∧ (hasF (unL k) nThread = hasB (usT k) ((3 : Nat) : Int)) ∧ (hasF (unL k) nVia = hasB (usT k) ((4 : Nat) : Int)) ∧ (hasF (unL k) nAllow = hasB (usT k) ((5 : Nat) : Int)) ∧ (hasF (unL k) nDeny = hasB (usT k) ((6 : Nat) : Int)) ∧ (hasF (unL k) nLevels = hasB (usT k) ((7 : Nat) : Int)) := by
  rcases kd_cases hk with rfl | rfl | rfl | rfl | rfl | rfl | rfl | rfl | rfl | rfl | rfl | rfl | rfl | rfl
  · exact ⟨tf1_0.trans tb1_0.symm, tf1_1.trans tb1_1.symm, tf1_2.trans tb1_2.symm, tf1_3.trans tb1_3.symm, tf1_4.trans tb1_4.symm, tf1_5.trans tb1_5.symm, tf1_6.trans tb1_6.symm, tf1_7.trans tb1_7.symm⟩
  · exact ⟨tf2_0.trans tb2_0.symm, tf2_1.trans tb2_1.symm, tf2_2.trans tb2_2.symm, tf2_3.trans tb2_3.symm, tf2_4.trans tb2_4.symm, tf2_5.trans tb2_5.symm, tf2_6.trans tb2_6.symm, tf2_7.trans tb2_7.symm⟩
  · exact ⟨tf3_0.trans tb3_0.symm, tf3_1.trans tb3_1.symm, tf3_2.trans tb3_2.symm, tf3_3.trans tb3_3.symm, tf3_4.trans tb3_4.symm, tf3_5.trans tb3_5.symm, tf3_6.trans tb3_6.symm, tf3_7.trans tb3_7.symm⟩
  · exact ⟨tf4_0.trans tb4_0.symm, tf4_1.trans tb4_1.symm, tf4_2.trans tb4_2.symm, tf4_3.trans tb4_3.symm, tf4_4.trans tb4_4.symm, tf4_5.trans tb4_5.symm, tf4_6.trans tb4_6.symm, tf4_7.trans tb4_7.symm⟩
  · exact ⟨tf5_0.trans tb5_0.symm, tf5_1.trans tb5_1.symm, tf5_2.trans tb5_2.symm, tf5_3.trans tb5_3.symm, tf5_4.trans tb5_4.symm, tf5_5.trans tb5_5.symm, tf5_6.trans tb5_6.symm, tf5_7.trans tb5_7.symm⟩
  · exact ⟨tf6_0.trans tb6_0.symm, tf6_1.trans tb6_1.symm, tf6_2.trans tb6_2.symm, tf6_3.trans tb6_3.symm, tf6_4.trans tb6_4.symm, tf6_5.trans tb6_5.symm, tf6_6.trans tb6_6.symm, tf6_7.trans tb6_7.symm⟩
  · exact ⟨tf7_0.trans tb7_0.symm, tf7_1.trans tb7_1.symm, tf7_2.trans tb7_2.symm, tf7_3.trans tb7_3.symm, tf7_4.trans tb7_4.symm, tf7_5.trans tb7_5.symm, tf7_6.trans tb7_6.symm, tf7_7.trans tb7_7.symm⟩
  · exact ⟨tf8_0.trans tb8_0.symm, tf8_1.trans tb8_1.symm, tf8_2.trans tb8_2.symm, tf8_3.trans tb8_3.symm, tf8_4.trans tb8_4.symm, tf8_5.trans tb8_5.symm, tf8_6.trans tb8_6.symm, tf8_7.trans tb8_7.symm⟩
  · exact ⟨tf9_0.trans tb9_0.symm, tf9_1.trans tb9_1.symm, tf9_2.trans tb9_2.symm, tf9_3.trans tb9_3.symm, tf9_4.trans tb9_4.symm, tf9_5.trans tb9_5.symm, tf9_6.trans tb9_6.symm, tf9_7.trans tb9_7.symm⟩
  · exact ⟨tf10_0.trans tb10_0.symm, tf10_1.trans tb10_1.symm, tf10_2.trans tb10_2.symm, tf10_3.trans tb10_3.symm, tf10_4.trans tb10_4.symm, tf10_5.trans tb10_5.symm, tf10_6.trans tb10_6.symm, tf10_7.trans tb10_7.symm⟩
  · exact ⟨tf11_0.trans tb11_0.symm, tf11_1.trans tb11_1.symm, tf11_2.trans tb11_2.symm, tf11_3.trans tb11_3.symm, tf11_4.trans tb11_4.symm, tf11_5.trans tb11_5.symm, tf11_6.trans tb11_6.symm, tf11_7.trans tb11_7.symm⟩
  · exact ⟨tf12_0.trans tb12_0.symm, tf12_1.trans tb12_1.symm, tf12_2.trans tb12_2.symm, tf12_3.trans tb12_3.symm, tf12_4.trans tb12_4.symm, tf12_5.trans tb12_5.symm, tf12_6.trans tb12_6.symm, tf12_7.trans tb12_7.symm⟩
  · exact ⟨tf13_0.trans tb13_0.symm, tf13_1.trans tb13_1.symm, tf13_2.trans tb13_2.symm, tf13_3.trans tb13_3.symm, tf13_4.trans tb13_4.symm, tf13_5.trans tb13_5.symm, tf13_6.trans tb13_6.symm, tf13_7.trans tb13_7.symm⟩
  · exact ⟨tf14_0.trans tb14_0.symm, tf14_1.trans tb14_1.symm, tf14_2.trans tb14_2.symm, tf14_3.trans tb14_3.symm, tf14_4.trans tb14_4.symm, tf14_5.trans tb14_5.symm, tf14_6.trans tb14_6.symm, tf14_7.trans tb14_7.symm⟩
/-- A set field that the kind does not use. -/
theorem pchk_bad {k : Int} {C : Cn} (hk : kdB k = true) (i : Nat) (hi : i < 8) (h1 : hasB (usT k) (i : Int) = false) (h2 : hz C i = false) : pchk k C = 1 := by
  unfold pchk
  rw [if_neg (by rw [hk]; decide)]
  rcases e : badE (usT k) C 0 8 with _ | _
  · exact absurd ((bad_to 8 0 e i (Nat.zero_le _) (by omega) h1).symm.trans h2) (by decide)
  · rw [if_pos rfl]
/-- An int that is 1 or any, by a Bool. -/
theorem or_one {q : Bool} {v : Int} (h : q = false → v = 1) : (q || (v == 1)) = true := by
  cases q with
  | true => rfl
  | false => rw [h rfl]; rfl
end Go.Proofs.YtdacjnlfjaegiaaGreatDoor
