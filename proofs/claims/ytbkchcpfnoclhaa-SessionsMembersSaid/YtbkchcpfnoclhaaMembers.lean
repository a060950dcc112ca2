/- SessionsMembers: for every session, members with keys, and device the statement returns true and changes nothing. Conditions: none beyond the statement's own. -/
import Derived.Test.YtbkchcpfnoclhaaRows
import Derived.Test.YtbkchcpfnoclhaaV22
import Derived.Test.YtbkchcpfnoclhaaOA
import Derived.Lib.SmallJoins
import Derived.ProofKit
import Derived.OpenShut
import Derived.ShutString
import Derived.ChangeOld
import Derived.Below
import Derived.SliceStrings
namespace Go.Proofs.Ytbkchcpfnoclhaa.sessionsMembers
open Go.ChangeShapes Go.WideShapes Go.ChangeAt Go.RowKit
open Go.ChangeMaps (open_string shut_string)
set_option linter.unusedVariables false

theorem own : ownKnob Try.prog.godebug = none := by kernel_rfl
theorem laidOut : laidOutB Try.prog = true := by kernel_rfl


set_option maxHeartbeats 1600000 in
theorem walk (S0 : Ses) (A0 : Option Addr) (b0 : Nat) (P1 : Option Addr) (n1 b1 : Nat) (L1 : List ByteArray) (Q1 : Option Addr) (m1 q1 : Nat) (K1 : Nat → Kd) (y2 z2 : ByteArray) (w : World) (H0 : Rcs w A0 S0.l.length b0 S0.l) (N0 : i64B S0.nx) (R0 : S0.rm.size ≤ 9223372036854775807) (H1 : Strs w P1 n1 L1) (C1 : n1 ≤ b1) (J1 : Kys w Q1 m1 K1) (Y2 : y2.size ≤ 9223372036854775807) (Z2 : z2.size ≤ 9223372036854775807) :
    Calls Try.prog 7 #[.agg #[.int .i64 S0.id, .string S0.rm, .int .i64 S0.nx, .slice A0 S0.l.length b0], .agg #[.slice P1 n1 b1, .slice Q1 m1 q1], .agg #[.string y2, .string z2]] w fun e w' => e = .returned (.bool true) ∧ Below w.heap.size w w' := by
  exact members_walk S0 A0 b0 P1 n1 b1 L1 Q1 m1 q1 K1 y2 z2 w H0 R0 H1 C1 J1 Y2 Z2

set_option maxRecDepth 100000 in
theorem lifted (os : Os) (started : os.Started) (H : Type) (enc : TypeId × Value → H) :
    ReturnsInHanded {} Try.checked os 7 .any (Rows.sessionsMembersSpec.pre6 enc Try.prog Try.f7 Rows.sessionsMembersRow.domain false) (Rows.sessionsMembersSpec.post enc Try.prog Try.f7 false true false false) := by
  refine returnsInHanded_of_change (C := Try.checked) own started (by kernel_rfl) Try.func7
    (ChangeSpec.witness6 (enc := enc) (C := Try.checked) false ⟨#[], #[.agg #[.int .i64 0, .string ⟨#[]⟩, .int .i64 0, .slice none 0 0], .agg #[.slice none 0 0, .slice none 0 0], .agg #[.string ⟨#[]⟩, .string ⟨#[]⟩]], []⟩ 8 (by kernel_rfl) (by kernel_rfl) (by kernel_rfl) (by kernel_rfl)) ?_
  intro W base args ds gs before hval0 hW hcnd _
  have hval : ∀ (j : Nat) t v, Try.f7.params[j]? = some t → args[j]? = some v → Value.okWide Try.prog W .any base t v := hval0
  have hW' := hW
  obtain ⟨p, q, hA0, hV, rfl, hfz, hnd⟩ := hW
  have hA : DataW.TrodAll enc Try.prog W 0 (fun _ => true) true Try.f7.params.toList args.toList ds p := hA0
  rw [Try.params7] at hA hval
  obtain ⟨v0, vs0, d0, ds0, p0, q0, hargs, rfl, rfl, h0, r0⟩ := trodAll_cons hA
  obtain ⟨v1, vs1, d1, ds1, p1, q1, rfl, rfl, rfl, h1, r1⟩ := trodAll_cons r0
  obtain ⟨v2, vs2, d2, ds2, p2, q2, rfl, rfl, rfl, h2, r2⟩ := trodAll_cons r1
  obtain ⟨rfl, rfl, rfl⟩ := trodAll_nil r2
  obtain rfl : args = #[v0, v1, v2] := by cases args; simp_all
  obtain ⟨rfl, rfl⟩ := trodVars_none hV
  have k0 := h0
  have lt0 : ∀ x ∈ p0, x.block < W.heap.size := by obtain ⟨m, hm⟩ := k0; exact DataW.trod_lt m _ _ _ hm
  obtain ⟨cs0, rfl, hsz0⟩ := okWide_struct Try.underlying24 (hval 0 24 v0 rfl rfl)
  obtain ⟨S0, A0, b0, e0, H0, N0, R0⟩ : ∃ (S : Ses) (A : Option Addr) (c : Nat), [.int .i64 S.id, .string S.rm, .int .i64 S.nx, .slice A S.l.length c] = cs0.toList ∧ Rcs W A S.l.length c S.l ∧ i64B S.nx ∧ S.rm.size ≤ 9223372036854775807 := by
    obtain ⟨fuel, hf⟩ := h0
    exact ses_open (by rw [Array.length_toList]; exact hsz0.trans cells24) (by simpa [Value.cells] using hf)
  obtain rfl : cs0 = #[.int .i64 S0.id, .string S0.rm, .int .i64 S0.nx, .slice A0 S0.l.length b0] := by
    show cs0 = List.toArray _
    rw [e0]
  have k1 := h1
  have lt1 : ∀ x ∈ p1, x.block < W.heap.size := by obtain ⟨m, hm⟩ := k1; exact DataW.trod_lt m _ _ _ hm
  obtain ⟨cs1, rfl, hsz1⟩ := okWide_struct Try.underlying42 (hval 1 42 v1 rfl rfl)
  obtain ⟨P1, n1, b1, L1, Q1, m1, q1', K1, e1, H1, C1, J1, _⟩ : ∃ (A1 : Option Addr) (n1 c1 : Nat) (ms : List ByteArray) (A : Option Addr) (n c : Nat) (K : Nat → Kd), [.slice A1 n1 c1, .slice A n c] = cs1.toList ∧ Strs W A1 n1 ms ∧ n1 ≤ c1 ∧ Kys W A n K ∧ n ≤ c := by
    obtain ⟨fuel, hf⟩ := h1
    exact grp_open (by rw [Array.length_toList]; exact hsz1.trans cells42) (by simpa [Value.cells] using hf)
  obtain rfl : cs1 = #[.slice P1 n1 b1, .slice Q1 m1 q1'] := by
    show cs1 = List.toArray _
    rw [e1]
  have k2 := h2
  have lt2 : ∀ x ∈ p2, x.block < W.heap.size := by obtain ⟨m, hm⟩ := k2; exact DataW.trod_lt m _ _ _ hm
  obtain ⟨cs2, rfl, hsz2⟩ := okWide_struct Try.underlying26 (hval 2 26 v2 rfl rfl)
  obtain ⟨y2, z2, e2, Y2, Z2⟩ : ∃ u d : ByteArray, [.string u, .string d] = cs2.toList ∧ u.size ≤ 9223372036854775807 ∧ d.size ≤ 9223372036854775807 := by
    obtain ⟨fuel, hf⟩ := h2
    exact dev_open (by rw [Array.length_toList]; exact hsz2.trans cells26) (by simpa [Value.cells] using hf)
  obtain rfl : cs2 = #[.string y2, .string z2] := by
    show cs2 = List.toArray _
    rw [e2]
  clear hA0 hval0
  refine (walk S0 A0 b0 P1 n1 b1 L1 Q1 m1 q1' K1 y2 z2 W H0 N0 R0 H1 C1 J1 Y2 Z2).mono fun e W' ⟨he, bel⟩ => ?_
  subst he
  exact ⟨_, rfl, _, _, _, [], _, [], hW', trodAll_mk1 (shut_bool Try.underlying4 _), (trodAll_cons_mk (Below.trod laidOut (by kernel_rfl) (of_decide_eq_true (by kernel_rfl)) k0 bel lt0) (trodAll_cons_mk (Below.trod laidOut (by kernel_rfl) (of_decide_eq_true (by kernel_rfl)) k1 bel lt1) (trodAll_cons_mk (Below.trod laidOut (by kernel_rfl) (of_decide_eq_true (by kernel_rfl)) k2 bel lt2) trodAll_mk0))), rfl, bel.frame _, fun h => by cases h⟩

theorem over : Rows.sessionsMembersRow.holds Try.pinned (OpenSpec.ofChange Rows.sessionsMembersSpec) :=
  OpenClaim.holds_of_wide 7 Try.f7 rfl rfl rfl rfl rfl rfl rfl ⟨rfl, rfl, rfl, rfl, rfl⟩ rfl rfl rfl rfl rfl (by kernel_rfl) Try.func7 (by kernel_rfl)
    (of_decide_eq_true (by kernel_rfl)) (by unfold Func.isWrapper; first | (rw [if_pos (by decide +kernel)]; kernel_rfl) | (rw [if_neg (by decide +kernel)]; exact ⟨rfl, rfl⟩))
    (fun os started H enc _ => lifted os started H enc)

theorem proved : Rows.SessionsMembersSaid := over
#print axioms proved
end Go.Proofs.Ytbkchcpfnoclhaa.sessionsMembers
