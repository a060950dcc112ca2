/- The mainline: the two forms of a list of numbers; num.Sorted and the reference's Sorted at the one of W2. Bound: at most a million numbers. -/
import Derived.Test.YtoljlpddcpdoiaaW16
import Derived.Test.YtoljlpddcpdoiaaL10
namespace Go.Proofs.Ytoljlpddcpdoiaa
open Go Go.RowKit
set_option linter.unusedVariables false
set_option linter.unusedSimpArgs false

theorem Its.ints {w : World} {A : Option Addr} {n c : Nat} {zs : List Int} (h : Its w A n c zs) (hn : n ≤ 1000000) : Q.Ints w A n c zs := by
  refine ⟨h.len, h.cap, hn, h.rws.nil, ?_⟩
  by_cases h0 : n = 0
  · exact .inl h0
  · obtain ⟨b, off, e, hlt, _⟩ := h.at_ (show 0 < n by omega)
    refine .inr ⟨b, off, e, hlt, fun i hi => ?_⟩
    obtain ⟨b2, off2, e2, _, hc, _⟩ := h.at_ hi
    rw [e] at e2
    simp only [Option.some.injEq, Addr.mk.injEq, and_true] at e2
    obtain ⟨rfl, rfl⟩ := e2
    exact hc
theorem its_of {w : World} {A : Option Addr} {n c : Nat} {zs : List Int} (h : Q.Ints w A n c zs) (wf : ∀ z ∈ zs, i64B z) : Its w A n c zs := by
  refine ⟨⟨fun j _ => rfl, fun j _ => by simp [rowI, Value.oneCell'], by have := h.big; unfold maxLen; omega, h.nil, ?_⟩, h.len, h.cap, wf⟩
  rcases h.at_ with h0 | ⟨b, off, e, hlt, hc⟩
  · exact .inl h0
  · refine .inr ⟨b, off, e, hlt, fun j hj i u hu => ?_⟩
    have hi : i = 0 := by
      have := (List.getElem?_eq_some_iff.1 hu).1
      simp [rowI] at this
      exact this
    subst hi
    rw [Nat.mul_one, Nat.add_zero, hc j hj]
    simpa [rowI] using hu
theorem sorted27 (A : Option Addr) (n c : Nat) (zs : List Int) (w : World) (h : Its w A n c zs) (hn : n ≤ 1000000) (wf : ∀ z ∈ Q.M.st zs, i64B z) : Calls Try.prog 27 #[.slice A n c] w fun e w' => ∃ A' c', e = .returned (.slice A' (Q.M.st zs).length c') ∧ Its w' A' (Q.M.st zs).length c' (Q.M.st zs) ∧ Below w.heap.size w w' ∧ ∀ b off, A' = some ⟨b, off, none⟩ → w.heap.size ≤ b :=
  (Q.sortedN_any A n c zs w (h.ints hn)).mono fun e w' ⟨A', c', he, hi, hb, hf⟩ => ⟨A', c', he, its_of hi wf, hb, hf⟩
theorem rsorted19 (A : Option Addr) (n c : Nat) (zs : List Int) (w : World) (h : Its w A n c zs) (hn : n ≤ 1000) (wf : ∀ z ∈ Q.M.st zs, i64B z) : Calls Try.prog 19 #[.slice A n c] w fun e w' => ∃ A' c', e = .returned (.slice A' (Q.M.st zs).length c') ∧ Its w' A' (Q.M.st zs).length c' (Q.M.st zs) ∧ Below w.heap.size w w' :=
  (Q.rsorted_any A n c zs w (h.ints (by omega)) hn).mono fun e w' ⟨A', c', he, hi, hb⟩ => ⟨A', c', he, its_of hi wf, hb⟩
end Go.Proofs.Ytoljlpddcpdoiaa
