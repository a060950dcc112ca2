/- Plain arithmetic of the rate limits: when enough tokens are there. Condition: the bucket is right. -/
import Derived.Test.YtcnbeflfndfndaaM
namespace Go.Proofs.Ytcnbeflfndfndaa
open Go.RowKit
set_option linter.unusedVariables false

theorem tk_form (L A M E now n : Int) : ∃ a b c d e : Int, tk L A M E now n = .tuple #[bk a b c d, .int .i64 e] ∧
    (Ok L A M E ∧ 1 ≤ n ∧ 0 ≤ now ∧ now ≤ 1000000000 → n ≤ cnt L A M E now → e = 0) ∧ (Ok L A M E ∧ 1 ≤ n ∧ 0 ≤ now ∧ now ≤ 1000000000 → cnt L A M E now < n → e = 25) ∧ (¬ (Ok L A M E ∧ 1 ≤ n ∧ 0 ≤ now ∧ now ≤ 1000000000 ∧ n ≤ cnt L A M E now) → e ≠ 0) := by
  by_cases h : Ok L A M E ∧ 1 ≤ n ∧ 0 ≤ now ∧ now ≤ 1000000000
  · by_cases h2 : cnt L A M E now < n
    · exact ⟨_, _, _, _, _, (Ending.returned.inj (tk_few h h2)).symm, fun _ h3 => absurd h2 (by omega), fun _ _ => rfl, fun _ => by decide⟩
    · exact ⟨_, _, _, _, _, (Ending.returned.inj (tk_yes h h2)).symm, fun _ _ => rfl, fun _ h3 => absurd h3 h2, fun h3 => absurd ⟨h.1, h.2.1, h.2.2.1, h.2.2.2, by omega⟩ h3⟩
  · exact ⟨_, _, _, _, _, (Ending.returned.inj (tk_bad h)).symm, fun h3 _ => absurd h3 h, fun h3 _ => absurd h3 h, fun _ => by decide⟩

/-- Before the tokens are there, the bucket has fewer. -/
theorem cnt_early {L A M E t n : Int} (ok : Ok L A M E) (hL : L < n) (hnM : n ≤ M) (h : t < A + (n - L) * E) : cnt L A M E t < n := by
  have hE := ok.e0
  have hlt : arr A E t < n - L := by
    by_cases hA : A ≤ t
    · obtain ⟨h1, h2⟩ := arr_parts hE hA
      rcases Int.lt_or_le (arr A E t) (n - L) with h3 | h3
      · exact h3
      · have := Int.mul_le_mul_of_nonneg_right h3 (show 0 ≤ E by omega)
        omega
    · rw [arr_lo (by omega)]; omega
  rw [← cnt_less (by omega)]
  omega
/-- Once the tokens are there, the bucket has enough. -/
theorem cnt_late {L A M E t n : Int} (ok : Ok L A M E) (hnM : n ≤ M) (hL : L ≤ n) (h : A + (n - L) * E ≤ t) : n ≤ cnt L A M E t := by
  have hE := ok.e0
  have hm : 0 ≤ (n - L) * E := Int.mul_nonneg (by omega) (by omega)
  have hA : A ≤ t := by omega
  obtain ⟨h1, h2⟩ := arr_parts hE hA
  have hge : n - L ≤ arr A E t := by
    rcases Int.lt_or_le (arr A E t) (n - L) with h3 | h3
    · have h4 := Int.mul_le_mul_of_nonneg_right (show arr A E t + 1 ≤ n - L by omega) (show 0 ≤ E by omega)
      rw [Int.add_mul, Int.one_mul] at h4
      omega
    · exact h3
  by_cases hf : M - L ≤ arr A E t
  · rw [← cnt_full hf]; exact hnM
  · rw [← cnt_less hf]; omega

end Go.Proofs.Ytcnbeflfndfndaa
