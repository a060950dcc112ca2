/- Plain arithmetic of the rate limits: what Take leaves behind, and when enough tokens are there. Condition: the bucket is right. -/
import Derived.Test.YtcnbeflfndfndaaR1
namespace Go.Proofs.Ytcnbeflfndfndaa
open Go.RowKit
set_option linter.unusedVariables false

theorem arr_parts {A E now : Int} (hE : 1 ≤ E) (h : A ≤ now) : arr A E now * E ≤ now - A ∧ now - A < arr A E now * E + E := by
  rw [← arr_hi h]
  have h1 := Int.mul_ediv_add_emod (now - A) E
  have h2 := Int.emod_nonneg (now - A) (show E ≠ 0 by omega)
  have h3 := Int.emod_lt_of_pos (now - A) (show 0 < E by omega)
  rw [Int.mul_comm] at h1
  omega
theorem tat_bd {L A M E now : Int} (ok : Ok L A M E) (h : A ≤ now) : A ≤ tat L A M E now ∧ tat L A M E now ≤ now ∧ now - tat L A M E now < E := by
  have hE := ok.e0
  obtain ⟨h1, h2⟩ := arr_parts hE h
  have hz := arr_nn (A := A) (now := now) hE
  have hm : 0 ≤ arr A E now * E := Int.mul_nonneg hz (by omega)
  by_cases hf : M - L ≤ arr A E now
  · rw [tat_hi hf h]; omega
  · rw [tat_no hf]; omega
theorem tat_ok {L A M E now n : Int} (ok : Ok L A M E) (hn : 1 ≤ n) (ht1 : now ≤ 1000000000) (hc : ¬ cnt L A M E now < n) : Ok (cnt L A M E now - n) (tat L A M E now) M E := by
  have hb := cnt_bd (now := now) ok
  have ha0 := ok.a0
  have ha1 := ok.a1
  have ht : 0 ≤ tat L A M E now ∧ tat L A M E now ≤ 1000000000 := by
    by_cases h : A ≤ now
    · have := tat_bd ok h; omega
    · have := (cnt_before ok (show now ≤ A by omega)).2; omega
  exact ⟨ok.m0, ok.m1, ok.e0, ok.e1, by omega, by omega, ht.1, ht.2⟩
theorem lef_after {L A M E now n : Int} (ok : Ok L A M E) (hn : 1 ≤ n) (ht1 : now ≤ 1000000000) (hc : ¬ cnt L A M E now < n) (h : A ≤ now) :
    lef (cnt L A M E now - n) (tat L A M E now) M E now = cnt L A M E now - n := by
  have ok2 := tat_ok ok hn ht1 hc
  have hb := cnt_bd (now := now) ok
  obtain ⟨t1, t2, t3⟩ := tat_bd ok h
  have ha : arr (tat L A M E now) E now = 0 := by
    rw [← arr_hi t2]
    exact Int.ediv_eq_zero_of_lt (by omega) t3
  rw [← lef_yes ok2, ← cnt_less (by omega), ha]
  omega
end Go.Proofs.Ytcnbeflfndfndaa
