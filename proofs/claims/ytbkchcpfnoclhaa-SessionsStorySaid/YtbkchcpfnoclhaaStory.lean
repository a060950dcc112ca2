/- SessionsStory: for every list of steps and device the statement returns true and changes nothing. Conditions: none beyond the statement's own. -/
import Derived.Test.YtbkchcpfnoclhaaRows
import Derived.Test.YtbkchcpfnoclhaaV24
import Derived.Test.YtbkchcpfnoclhaaOS
import Derived.Test.YtbkchcpfnoclhaaOA
import Derived.Lib.SmallJoins
import Derived.ProofKit
import Derived.OpenShut
import Derived.ShutString
import Derived.ChangeOld
import Derived.Below
import Derived.SliceStrings
namespace Go.Proofs.Ytbkchcpfnoclhaa.sessionsStory
open Go.ChangeShapes Go.WideShapes Go.ChangeAt Go.RowKit
open Go.ChangeMaps (open_string shut_string)
set_option linter.unusedVariables false

theorem own : ownKnob Try.prog.godebug = none := by kernel_rfl
theorem laidOut : laidOutB Try.prog = true := by kernel_rfl


set_option maxHeartbeats 1600000 in
theorem walk (A0 : Option Addr) (n0 b0 : Nat) (T0 : List Sp.Rc) (y1 z1 : ByteArray) (w : World) (H0 : Sp.Rcs w A0 n0 b0 T0) (Y1 : y1.size ≤ 9223372036854775807) (Z1 : z1.size ≤ 9223372036854775807) :
    Calls Try.prog 6 #[.slice A0 n0 b0, .agg #[.string y1, .string z1]] w fun e w' => e = .returned (.bool true) ∧ Below w.heap.size w w' := by
  exact story_walk A0 n0 b0 T0 y1 z1 w H0 Y1 Z1

set_option maxRecDepth 100000 in
theorem lifted (os : Os) (started : os.Started) (H : Type) (enc : TypeId × Value → H) :
    ReturnsInHanded {} Try.checked os 6 .any (Rows.sessionsStorySpec.pre6 enc Try.prog Try.f6 Rows.sessionsStoryRow.domain false) (Rows.sessionsStorySpec.post enc Try.prog Try.f6 false true false false) := by
  refine returnsInHanded_of_change (C := Try.checked) own started (by kernel_rfl) Try.func6
    (ChangeSpec.witness6 (enc := enc) (C := Try.checked) false ⟨#[], #[.slice none 0 0, .agg #[.string ⟨#[]⟩, .string ⟨#[]⟩]], []⟩ 8 (by kernel_rfl) (by kernel_rfl) (by kernel_rfl) (by kernel_rfl)) ?_
  intro W base args ds gs before hval0 hW hcnd _
  have hval : ∀ (j : Nat) t v, Try.f6.params[j]? = some t → args[j]? = some v → Value.okWide Try.prog W .any base t v := hval0
  have hW' := hW
  obtain ⟨p, q, hA0, hV, rfl, hfz, hnd⟩ := hW
  have hA : DataW.TrodAll enc Try.prog W 0 (fun _ => true) true Try.f6.params.toList args.toList ds p := hA0
  rw [Try.params6] at hA hval
  obtain ⟨v0, vs0, d0, ds0, p0, q0, hargs, rfl, rfl, h0, r0⟩ := trodAll_cons hA
  obtain ⟨v1, vs1, d1, ds1, p1, q1, rfl, rfl, rfl, h1, r1⟩ := trodAll_cons r0
  obtain ⟨rfl, rfl, rfl⟩ := trodAll_nil r1
  obtain rfl : args = #[v0, v1] := by cases args; simp_all
  obtain ⟨rfl, rfl⟩ := trodVars_none hV
  have k0 := h0
  have lt0 : ∀ x ∈ p0, x.block < W.heap.size := by obtain ⟨m, hm⟩ := k0; exact DataW.trod_lt m _ _ _ hm
  obtain ⟨A0, n0, b0, rfl⟩ := okWide_slice Try.underlying46 (hval 0 46 v0 rfl rfl)
  obtain ⟨T0, H0⟩ : ∃ zs, Sp.Rcs W A0 n0 b0 zs := by
    obtain ⟨fuel, hf⟩ := h0
    exact open_sps (by simpa [Value.cells] using hf)
  have k1 := h1
  have lt1 : ∀ x ∈ p1, x.block < W.heap.size := by obtain ⟨m, hm⟩ := k1; exact DataW.trod_lt m _ _ _ hm
  obtain ⟨cs1, rfl, hsz1⟩ := okWide_struct Try.underlying26 (hval 1 26 v1 rfl rfl)
  obtain ⟨y1, z1, e1, Y1, Z1⟩ : ∃ u d : ByteArray, [.string u, .string d] = cs1.toList ∧ u.size ≤ 9223372036854775807 ∧ d.size ≤ 9223372036854775807 := by
    obtain ⟨fuel, hf⟩ := h1
    exact dev_open (by rw [Array.length_toList]; exact hsz1.trans cells26) (by simpa [Value.cells] using hf)
  obtain rfl : cs1 = #[.string y1, .string z1] := by
    show cs1 = List.toArray _
    rw [e1]
  clear hA0 hval0
  refine (walk A0 n0 b0 T0 y1 z1 W H0 Y1 Z1).mono fun e W' ⟨he, bel⟩ => ?_
  subst he
  exact ⟨_, rfl, _, _, _, [], _, [], hW', trodAll_mk1 (shut_bool Try.underlying4 _), (trodAll_cons_mk (Below.trod laidOut (by kernel_rfl) (of_decide_eq_true (by kernel_rfl)) k0 bel lt0) (trodAll_cons_mk (Below.trod laidOut (by kernel_rfl) (of_decide_eq_true (by kernel_rfl)) k1 bel lt1) trodAll_mk0)), rfl, bel.frame _, fun h => by cases h⟩

theorem over : Rows.sessionsStoryRow.holds Try.pinned (OpenSpec.ofChange Rows.sessionsStorySpec) :=
  OpenClaim.holds_of_wide 6 Try.f6 rfl rfl rfl rfl rfl rfl rfl ⟨rfl, rfl, rfl, rfl, rfl⟩ rfl rfl rfl rfl rfl (by kernel_rfl) Try.func6 (by kernel_rfl)
    (of_decide_eq_true (by kernel_rfl)) (by unfold Func.isWrapper; first | (rw [if_pos (by decide +kernel)]; kernel_rfl) | (rw [if_neg (by decide +kernel)]; exact ⟨rfl, rfl⟩))
    (fun os started H enc _ => lifted os started H enc)

theorem proved : Rows.SessionsStorySaid := over
#print axioms proved
end Go.Proofs.Ytbkchcpfnoclhaa.sessionsStory
