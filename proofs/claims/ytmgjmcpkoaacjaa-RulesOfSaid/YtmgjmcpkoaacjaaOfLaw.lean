/- RulesOf: for every list of events the statement returns true and changes nothing. Conditions: none beyond the statement's own. -/
import Derived.Test.YtmgjmcpkoaacjaaRows
import Derived.Test.YtmgjmcpkoaacjaaW13
import Derived.Test.YtmgjmcpkoaacjaaOp
import Derived.ProofKit
import Derived.OpenShut
import Derived.ShutString
import Derived.ChangeOld
import Derived.Below
import Derived.SliceStrings
namespace Go.Proofs.Ytmgjmcpkoaacjaa.rulesOf
open Go.ChangeShapes Go.WideShapes Go.ChangeAt Go.RowKit
open Go.ChangeMaps (open_string shut_string)
set_option linter.unusedVariables false

theorem own : ownKnob Try.prog.godebug = none := by kernel_rfl
theorem laidOut : laidOutB Try.prog = true := by kernel_rfl

theorem first_of (p : Nat → Prop) (n : Nat) (h : ∃ j, j < n ∧ p j) : ∃ k, k < n ∧ p k ∧ ∀ j, j < k → ¬ p j := by
  induction n with
  | zero => obtain ⟨j, hj, _⟩ := h; omega
  | succ n ih =>
    by_cases h' : ∃ j, j < n ∧ p j
    · obtain ⟨k, hk, hp, hl⟩ := ih h'
      exact ⟨k, by omega, hp, hl⟩
    · obtain ⟨j, hj, hp⟩ := h
      have : j = n := by
        rcases Nat.lt_or_ge j n with h1 | h1
        · exact absurd ⟨j, h1, hp⟩ h'
        · omega
      subst this
      exact ⟨j, hj, hp, fun i hi hpi => h' ⟨i, hi, hpi⟩⟩

set_option maxHeartbeats 1600000 in
theorem walk (A : Option Addr) (n c : Nat) (E : Nat → Ev) (Z : Nat → List ByteArray) (w : World) (hE : EvsA w A n E) (hT : ∀ j, j < n → TextsAt w (E j).aA (E j).lA (E j).cA (Z j)) :
    Calls Try.prog 3 #[.slice A n c] w fun e w' => e = .returned (.bool true) ∧ Below w.heap.size w w' := by
  by_cases hn : 40 < n
  · exact walk_many A n c w hn
  by_cases hl : ∃ j, j < n ∧ 110 < (E j).lA
  · exact walk_long A n c E w (by omega) hE hl
  have hs : ∀ j, j < n → (E j).lA ≤ 110 := fun j hj => Nat.le_of_not_lt fun h => hl ⟨j, hj, h⟩
  have hF : Few w A n E (fun j => (Z j).take (E j).lA) := ⟨hE, fun j hj => (hT j hj).texts (hs j hj), fun j hj h0 => by
    rcases hT j hj with ⟨_, h1, h2⟩ | ⟨a, h1, _⟩
    · exact ⟨h1, h2⟩
    · rw [h0] at h1; cases h1⟩
  by_cases hy : ∀ j, j < n → (E j).kd ≠ 4
  · exact walk_no A n c E _ w (by omega) hF hs hy
  · obtain ⟨k, hk, h4, hl4⟩ := first_of (fun j => (E j).kd = 4) n (by
      refine Classical.byContradiction fun h => hy fun j hj e => h ⟨j, hj, e⟩)
    exact walk_yes A n c E _ w (by omega) hF hs k hk h4 hl4

set_option maxRecDepth 100000 in
theorem lifted (os : Os) (started : os.Started) (H : Type) (enc : TypeId × Value → H) :
    ReturnsInHanded {} Try.checked os 3 .any (Rows.rulesOfSpec.pre6 enc Try.prog Try.f3 Rows.rulesOfRow.domain false) (Rows.rulesOfSpec.post enc Try.prog Try.f3 false true false false) := by
  refine returnsInHanded_of_change (C := Try.checked) own started (by kernel_rfl) Try.func3
    (ChangeSpec.witness6 (enc := enc) (C := Try.checked) false ⟨#[], #[.slice none 0 0], []⟩ 8 (by kernel_rfl) (by kernel_rfl) (by kernel_rfl) (by kernel_rfl)) ?_
  intro W base args ds gs before hval0 hW hcnd _
  have hval : ∀ (j : Nat) t v, Try.f3.params[j]? = some t → args[j]? = some v → Value.okWide Try.prog W .any base t v := hval0
  have hW' := hW
  obtain ⟨p, q, hA0, hV, rfl, hfz, hnd⟩ := hW
  have hA : DataW.TrodAll enc Try.prog W 0 (fun _ => true) true Try.f3.params.toList args.toList ds p := hA0
  rw [Try.params3] at hA hval
  obtain ⟨v0, vs0, d0, ds0, p0, q0, hargs, rfl, rfl, h0, r0⟩ := trodAll_cons hA
  obtain ⟨rfl, rfl, rfl⟩ := trodAll_nil r0
  obtain rfl : args = #[v0] := by cases args; simp_all
  obtain ⟨rfl, rfl⟩ := trodVars_none hV
  have k0 := h0
  have lt0 : ∀ x ∈ p0, x.block < W.heap.size := by obtain ⟨m, hm⟩ := k0; exact DataW.trod_lt m _ _ _ hm
  obtain ⟨A, n, c, rfl⟩ := okWide_slice Try.underlying22 (hval 0 22 v0 rfl rfl)
  obtain ⟨E, Z, hE, hT⟩ : ∃ (E : Nat → Ev) (Z : Nat → List ByteArray), EvsA W A n E ∧ ∀ j, j < n → TextsAt W (E j).aA (E j).lA (E j).cA (Z j) := by
    obtain ⟨fuel, hf⟩ := h0
    by_cases hn0 : 0 < n
    · obtain ⟨_, b, off, E, Z, hA', hev, ht⟩ := open_events hf hn0
      exact ⟨E, Z, .inr ⟨b, off, hA', hev⟩, ht⟩
    · exact ⟨EL 0, fun _ => [], .inl (by omega), fun j hj => absurd hj (by omega)⟩
  clear hA0 hval0
  refine (walk A n c E Z W hE hT).mono fun e W' ⟨he, bel⟩ => ?_
  subst he
  exact ⟨_, rfl, _, _, _, [], _, [], hW', trodAll_mk1 (shut_bool Try.underlying4 _), (trodAll_cons_mk (Below.trod laidOut (by kernel_rfl) (of_decide_eq_true (by kernel_rfl)) k0 bel lt0) trodAll_mk0), rfl, bel.frame _, fun h => by cases h⟩

theorem over : Rows.rulesOfRow.holds Try.pinned (OpenSpec.ofChange Rows.rulesOfSpec) :=
  OpenClaim.holds_of_wide 3 Try.f3 rfl rfl rfl rfl rfl rfl rfl ⟨rfl, rfl, rfl, rfl, rfl⟩ rfl rfl rfl rfl rfl (by kernel_rfl) Try.func3 (by kernel_rfl)
    (of_decide_eq_true (by kernel_rfl)) (by unfold Func.isWrapper; first | (rw [if_pos (by decide +kernel)]; kernel_rfl) | (rw [if_neg (by decide +kernel)]; exact ⟨rfl, rfl⟩))
    (fun os started H enc _ => lifted os started H enc)

theorem proved : Rows.RulesOfSaid := over
#print axioms proved
end Go.Proofs.Ytmgjmcpkoaacjaa.rulesOf
