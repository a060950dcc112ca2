/- SessionsWants: for every session, members and keys the statement returns true and changes nothing. Conditions: none beyond the statement's own. -/
import Derived.Test.YtbkchcpfnoclhaaRows
import Derived.Test.YtbkchcpfnoclhaaV21
import Derived.Test.YtbkchcpfnoclhaaOA
import Derived.Lib.SmallJoins
import Derived.ProofKit
import Derived.OpenShut
import Derived.ShutString
import Derived.ChangeOld
import Derived.Below
import Derived.SliceStrings
namespace Go.Proofs.Ytbkchcpfnoclhaa.sessionsWants
open Go.ChangeShapes Go.WideShapes Go.ChangeAt Go.RowKit
open Go.ChangeMaps (open_string shut_string)
set_option linter.unusedVariables false

theorem own : ownKnob Try.prog.godebug = none := by kernel_rfl
theorem laidOut : laidOutB Try.prog = true := by kernel_rfl


set_option maxHeartbeats 1600000 in
theorem walk (S0 : Ses) (A0 : Option Addr) (b0 : Nat) (A1 : Option Addr) (n1 b1 : Nat) (L1 : List ByteArray) (A2 : Option Addr) (n2 b2 : Nat) (K2 : Nat → Kd) (w : World) (H0 : Rcs w A0 S0.l.length b0 S0.l) (N0 : i64B S0.nx) (R0 : S0.rm.size ≤ 9223372036854775807) (H1 : Strs w A1 n1 L1) (C1 : n1 ≤ b1) (H2 : Kys w A2 n2 K2) :
    Calls Try.prog 4 #[.agg #[.int .i64 S0.id, .string S0.rm, .int .i64 S0.nx, .slice A0 S0.l.length b0], .slice A1 n1 b1, .slice A2 n2 b2] w fun e w' => e = .returned (.bool true) ∧ Below w.heap.size w w' := by
  exact wants_walk S0 A0 b0 A1 n1 b1 L1 A2 n2 b2 K2 w H0 R0 H1 C1 H2

set_option maxRecDepth 100000 in
theorem lifted (os : Os) (started : os.Started) (H : Type) (enc : TypeId × Value → H) :
    ReturnsInHanded {} Try.checked os 4 .any (Rows.sessionsWantsSpec.pre6 enc Try.prog Try.f4 Rows.sessionsWantsRow.domain false) (Rows.sessionsWantsSpec.post enc Try.prog Try.f4 false true false false) := by
  refine returnsInHanded_of_change (C := Try.checked) own started (by kernel_rfl) Try.func4
    (ChangeSpec.witness6 (enc := enc) (C := Try.checked) false ⟨#[], #[.agg #[.int .i64 0, .string ⟨#[]⟩, .int .i64 0, .slice none 0 0], .slice none 0 0, .slice none 0 0], []⟩ 8 (by kernel_rfl) (by kernel_rfl) (by kernel_rfl) (by kernel_rfl)) ?_
  intro W base args ds gs before hval0 hW hcnd _
  have hval : ∀ (j : Nat) t v, Try.f4.params[j]? = some t → args[j]? = some v → Value.okWide Try.prog W .any base t v := hval0
  have hW' := hW
  obtain ⟨p, q, hA0, hV, rfl, hfz, hnd⟩ := hW
  have hA : DataW.TrodAll enc Try.prog W 0 (fun _ => true) true Try.f4.params.toList args.toList ds p := hA0
  rw [Try.params4] at hA hval
  obtain ⟨v0, vs0, d0, ds0, p0, q0, hargs, rfl, rfl, h0, r0⟩ := trodAll_cons hA
  obtain ⟨v1, vs1, d1, ds1, p1, q1, rfl, rfl, rfl, h1, r1⟩ := trodAll_cons r0
  obtain ⟨v2, vs2, d2, ds2, p2, q2, rfl, rfl, rfl, h2, r2⟩ := trodAll_cons r1
  obtain ⟨rfl, rfl, rfl⟩ := trodAll_nil r2
  obtain rfl : args = #[v0, v1, v2] := by cases args; simp_all
  obtain ⟨rfl, rfl⟩ := trodVars_none hV
  have k0 := h0
  have lt0 : ∀ x ∈ p0, x.block < W.heap.size := by obtain ⟨m, hm⟩ := k0; exact DataW.trod_lt m _ _ _ hm
  obtain ⟨cs0, rfl, hsz0⟩ := okWide_struct Try.underlying24 (hval 0 24 v0 rfl rfl)
  obtain ⟨S0, A0, b0, e0, H0, N0, R0⟩ : ∃ (S : Ses) (A : Option Addr) (c : Nat), [.int .i64 S.id, .string S.rm, .int .i64 S.nx, .slice A S.l.length c] = cs0.toList ∧ Rcs W A S.l.length c S.l ∧ i64B S.nx ∧ S.rm.size ≤ 9223372036854775807 := by
    obtain ⟨fuel, hf⟩ := h0
    exact ses_open (by rw [Array.length_toList]; exact hsz0.trans cells24) (by simpa [Value.cells] using hf)
  obtain rfl : cs0 = #[.int .i64 S0.id, .string S0.rm, .int .i64 S0.nx, .slice A0 S0.l.length b0] := by
    show cs0 = List.toArray _
    rw [e0]
  have k1 := h1
  have lt1 : ∀ x ∈ p1, x.block < W.heap.size := by obtain ⟨m, hm⟩ := k1; exact DataW.trod_lt m _ _ _ hm
  obtain ⟨A1, n1, b1, rfl⟩ := okWide_slice Try.underlying35 (hval 1 35 v1 rfl rfl)
  obtain ⟨L1, H1, C1⟩ : ∃ zs, Strs W A1 n1 zs ∧ n1 ≤ b1 := by
    obtain ⟨fuel, hf⟩ := h1
    exact open_strsL (by simpa [Value.cells] using hf)
  have k2 := h2
  have lt2 : ∀ x ∈ p2, x.block < W.heap.size := by obtain ⟨m, hm⟩ := k2; exact DataW.trod_lt m _ _ _ hm
  obtain ⟨A2, n2, b2, rfl⟩ := okWide_slice Try.underlying36 (hval 2 36 v2 rfl rfl)
  obtain ⟨K2, H2, _⟩ : ∃ K : Nat → Kd, Kys W A2 n2 K ∧ n2 ≤ b2 := by
    obtain ⟨fuel, hf⟩ := h2
    exact open_kys (by simpa [Value.cells] using hf)
  clear hA0 hval0
  refine (walk S0 A0 b0 A1 n1 b1 L1 A2 n2 b2 K2 W H0 N0 R0 H1 C1 H2).mono fun e W' ⟨he, bel⟩ => ?_
  subst he
  exact ⟨_, rfl, _, _, _, [], _, [], hW', trodAll_mk1 (shut_bool Try.underlying4 _), (trodAll_cons_mk (Below.trod laidOut (by kernel_rfl) (of_decide_eq_true (by kernel_rfl)) k0 bel lt0) (trodAll_cons_mk (Below.trod laidOut (by kernel_rfl) (of_decide_eq_true (by kernel_rfl)) k1 bel lt1) (trodAll_cons_mk (Below.trod laidOut (by kernel_rfl) (of_decide_eq_true (by kernel_rfl)) k2 bel lt2) trodAll_mk0))), rfl, bel.frame _, fun h => by cases h⟩

theorem over : Rows.sessionsWantsRow.holds Try.pinned (OpenSpec.ofChange Rows.sessionsWantsSpec) :=
  OpenClaim.holds_of_wide 4 Try.f4 rfl rfl rfl rfl rfl rfl rfl ⟨rfl, rfl, rfl, rfl, rfl⟩ rfl rfl rfl rfl rfl (by kernel_rfl) Try.func4 (by kernel_rfl)
    (of_decide_eq_true (by kernel_rfl)) (by unfold Func.isWrapper; first | (rw [if_pos (by decide +kernel)]; kernel_rfl) | (rw [if_neg (by decide +kernel)]; exact ⟨rfl, rfl⟩))
    (fun os started H enc _ => lifted os started H enc)

theorem proved : Rows.SessionsWantsSaid := over
#print axioms proved
end Go.Proofs.Ytbkchcpfnoclhaa.sessionsWants
