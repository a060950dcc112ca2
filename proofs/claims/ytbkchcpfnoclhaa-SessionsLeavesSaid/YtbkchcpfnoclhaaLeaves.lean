/- SessionsLeaves: for every session, members with keys, device and index the statement returns true and changes nothing. Conditions: none beyond the statement's own. -/
import Derived.Test.YtbkchcpfnoclhaaV23B
import Derived.Test.YtbkchcpfnoclhaaV23C
import Derived.Test.YtbkchcpfnoclhaaV23S
import Derived.Test.YtbkchcpfnoclhaaV23Q
import Derived.Test.YtbkchcpfnoclhaaRows
import Derived.Test.YtbkchcpfnoclhaaOA
import Derived.Lib.SmallJoins
import Derived.ProofKit
import Derived.OpenShut
import Derived.ShutString
import Derived.ChangeOld
import Derived.Below
import Derived.SliceStrings
namespace Go.Proofs.Ytbkchcpfnoclhaa
open Go Go.RowKit
set_option linter.unusedVariables false
set_option linter.unusedSimpArgs false
set_option maxRecDepth 100000

set_option maxHeartbeats 16000000 in
theorem leaves_walk (S : Ses) (A : Option Addr) (c : Nat) (A1 : Option Addr) (n1 c1 : Nat) (ms : List ByteArray) (A2 : Option Addr) (n2 c2 : Nat) (K : Nat → Kd) (yu zd : ByteArray) (ix : Int) (w : World) (h : Rcs w A S.l.length c S.l) (hnx : i64B S.nx) (hrm : S.rm.size ≤ 9223372036854775807) (hm : Strs w A1 n1 ms) (hc1 : n1 ≤ c1) (hK : Kys w A2 n2 K) (hyu : yu.size ≤ 9223372036854775807) (hzd : zd.size ≤ 9223372036854775807) : Calls Try.prog 8 #[.agg #[.int .i64 S.id, .string S.rm, .int .i64 S.nx, .slice A S.l.length c], .agg #[.slice A1 n1 c1, .slice A2 n2 c2], .agg #[.string yu, .string zd], .int .i64 ix] w fun r w' => r = .returned (.bool true) ∧ Below w.heap.size w w' := by
  by_cases e1 : (200 : Int) < (yu.size : Int)
  · exact leaves_q1 S A c A1 n1 c1 ms A2 n2 c2 K yu zd ix w h hnx hrm hm hc1 hK hyu hzd e1
  by_cases e2 : (200 : Int) < (zd.size : Int)
  · exact leaves_q2 S A c A1 n1 c1 ms A2 n2 c2 K yu zd ix w h hnx hrm hm hc1 hK hyu hzd e1 e2
  rcases hrq : rdB S.l S.nx yu zd ix with _ | _
  · exact leaves_q3 S A c A1 n1 c1 ms A2 n2 c2 K yu zd ix w h hnx hrm hm hc1 hK hyu hzd e1 e2 hrq
  rcases use_cases S 10000 with ⟨er, hne, hX⟩ | hX
  · exact leaves_e S A c A1 n1 c1 ms A2 n2 c2 K yu zd ix w h hnx hrm hm hc1 hK hyu hzd e1 e2 hrq er hne hX
  · exact leaves_o S A c A1 n1 c1 ms A2 n2 c2 K yu zd ix w h hnx hrm hm hc1 hK hyu hzd e1 e2 hrq hX
end Go.Proofs.Ytbkchcpfnoclhaa

namespace Go.Proofs.Ytbkchcpfnoclhaa.sessionsLeaves
open Go.ChangeShapes Go.WideShapes Go.ChangeAt Go.RowKit
open Go.ChangeMaps (open_string shut_string)
set_option linter.unusedVariables false

theorem own : ownKnob Try.prog.godebug = none := by kernel_rfl
theorem laidOut : laidOutB Try.prog = true := by kernel_rfl


set_option maxHeartbeats 1600000 in
theorem walk (S0 : Ses) (A0 : Option Addr) (b0 : Nat) (P1 : Option Addr) (n1 b1 : Nat) (L1 : List ByteArray) (Q1 : Option Addr) (m1 q1 : Nat) (K1 : Nat → Kd) (y2 z2 : ByteArray) (a3 : Int) (w : World) (H0 : Rcs w A0 S0.l.length b0 S0.l) (N0 : i64B S0.nx) (R0 : S0.rm.size ≤ 9223372036854775807) (H1 : Strs w P1 n1 L1) (C1 : n1 ≤ b1) (J1 : Kys w Q1 m1 K1) (Y2 : y2.size ≤ 9223372036854775807) (Z2 : z2.size ≤ 9223372036854775807) (w3 : (Lit.int .i64 a3).wf = true) :
    Calls Try.prog 8 #[.agg #[.int .i64 S0.id, .string S0.rm, .int .i64 S0.nx, .slice A0 S0.l.length b0], .agg #[.slice P1 n1 b1, .slice Q1 m1 q1], .agg #[.string y2, .string z2], .int .i64 a3] w fun e w' => e = .returned (.bool true) ∧ Below w.heap.size w w' := by
  exact leaves_walk S0 A0 b0 P1 n1 b1 L1 Q1 m1 q1 K1 y2 z2 a3 w H0 N0 R0 H1 C1 J1 Y2 Z2

set_option maxRecDepth 100000 in
theorem lifted (os : Os) (started : os.Started) (H : Type) (enc : TypeId × Value → H) :
    ReturnsInHanded {} Try.checked os 8 .any (Rows.sessionsLeavesSpec.pre6 enc Try.prog Try.f8 Rows.sessionsLeavesRow.domain false) (Rows.sessionsLeavesSpec.post enc Try.prog Try.f8 false true false false) := by
  refine returnsInHanded_of_change (C := Try.checked) own started (by kernel_rfl) Try.func8
    (ChangeSpec.witness6 (enc := enc) (C := Try.checked) false ⟨#[], #[.agg #[.int .i64 0, .string ⟨#[]⟩, .int .i64 0, .slice none 0 0], .agg #[.slice none 0 0, .slice none 0 0], .agg #[.string ⟨#[]⟩, .string ⟨#[]⟩], .int .i64 0], []⟩ 8 (by kernel_rfl) (by kernel_rfl) (by kernel_rfl) (by kernel_rfl)) ?_
  intro W base args ds gs before hval0 hW hcnd _
  have hval : ∀ (j : Nat) t v, Try.f8.params[j]? = some t → args[j]? = some v → Value.okWide Try.prog W .any base t v := hval0
  have hW' := hW
  obtain ⟨p, q, hA0, hV, rfl, hfz, hnd⟩ := hW
  have hA : DataW.TrodAll enc Try.prog W 0 (fun _ => true) true Try.f8.params.toList args.toList ds p := hA0
  rw [Try.params8] at hA hval
  obtain ⟨v0, vs0, d0, ds0, p0, q0, hargs, rfl, rfl, h0, r0⟩ := trodAll_cons hA
  obtain ⟨v1, vs1, d1, ds1, p1, q1, rfl, rfl, rfl, h1, r1⟩ := trodAll_cons r0
  obtain ⟨v2, vs2, d2, ds2, p2, q2, rfl, rfl, rfl, h2, r2⟩ := trodAll_cons r1
  obtain ⟨v3, vs3, d3, ds3, p3, q3, rfl, rfl, rfl, h3, r3⟩ := trodAll_cons r2
  obtain ⟨rfl, rfl, rfl⟩ := trodAll_nil r3
  obtain rfl : args = #[v0, v1, v2, v3] := by cases args; simp_all
  obtain ⟨rfl, rfl⟩ := trodVars_none hV
  have k0 := h0
  have lt0 : ∀ x ∈ p0, x.block < W.heap.size := by obtain ⟨m, hm⟩ := k0; exact DataW.trod_lt m _ _ _ hm
  obtain ⟨cs0, rfl, hsz0⟩ := okWide_struct Try.underlying24 (hval 0 24 v0 rfl rfl)
  obtain ⟨S0, A0, b0, e0, H0, N0, R0⟩ : ∃ (S : Ses) (A : Option Addr) (c : Nat), [.int .i64 S.id, .string S.rm, .int .i64 S.nx, .slice A S.l.length c] = cs0.toList ∧ Rcs W A S.l.length c S.l ∧ i64B S.nx ∧ S.rm.size ≤ 9223372036854775807 := by
    obtain ⟨fuel, hf⟩ := h0
    exact ses_open (by rw [Array.length_toList]; exact hsz0.trans cells24) (by simpa [Value.cells] using hf)
  obtain rfl : cs0 = #[.int .i64 S0.id, .string S0.rm, .int .i64 S0.nx, .slice A0 S0.l.length b0] := by
    show cs0 = List.toArray _
    rw [e0]
  have k1 := h1
  have lt1 : ∀ x ∈ p1, x.block < W.heap.size := by obtain ⟨m, hm⟩ := k1; exact DataW.trod_lt m _ _ _ hm
  obtain ⟨cs1, rfl, hsz1⟩ := okWide_struct Try.underlying42 (hval 1 42 v1 rfl rfl)
  obtain ⟨P1, n1, b1, L1, Q1, m1, q1', K1, e1, H1, C1, J1, _⟩ : ∃ (A1 : Option Addr) (n1 c1 : Nat) (ms : List ByteArray) (A : Option Addr) (n c : Nat) (K : Nat → Kd), [.slice A1 n1 c1, .slice A n c] = cs1.toList ∧ Strs W A1 n1 ms ∧ n1 ≤ c1 ∧ Kys W A n K ∧ n ≤ c := by
    obtain ⟨fuel, hf⟩ := h1
    exact grp_open (by rw [Array.length_toList]; exact hsz1.trans cells42) (by simpa [Value.cells] using hf)
  obtain rfl : cs1 = #[.slice P1 n1 b1, .slice Q1 m1 q1'] := by
    show cs1 = List.toArray _
    rw [e1]
  have k2 := h2
  have lt2 : ∀ x ∈ p2, x.block < W.heap.size := by obtain ⟨m, hm⟩ := k2; exact DataW.trod_lt m _ _ _ hm
  obtain ⟨cs2, rfl, hsz2⟩ := okWide_struct Try.underlying26 (hval 2 26 v2 rfl rfl)
  obtain ⟨y2, z2, e2, Y2, Z2⟩ : ∃ u d : ByteArray, [.string u, .string d] = cs2.toList ∧ u.size ≤ 9223372036854775807 ∧ d.size ≤ 9223372036854775807 := by
    obtain ⟨fuel, hf⟩ := h2
    exact dev_open (by rw [Array.length_toList]; exact hsz2.trans cells26) (by simpa [Value.cells] using hf)
  obtain rfl : cs2 = #[.string y2, .string z2] := by
    show cs2 = List.toArray _
    rw [e2]
  obtain ⟨a3, rfl, rfl, rfl, w3⟩ := open_int Try.underlying3 (hval 3 3 v3 rfl rfl) h3
  clear hA0 hval0
  refine (walk S0 A0 b0 P1 n1 b1 L1 Q1 m1 q1' K1 y2 z2 a3 W H0 N0 R0 H1 C1 J1 Y2 Z2 w3).mono fun e W' ⟨he, bel⟩ => ?_
  subst he
  exact ⟨_, rfl, _, _, _, [], _, [], hW', trodAll_mk1 (shut_bool Try.underlying4 _), (trodAll_cons_mk (Below.trod laidOut (by kernel_rfl) (of_decide_eq_true (by kernel_rfl)) k0 bel lt0) (trodAll_cons_mk (Below.trod laidOut (by kernel_rfl) (of_decide_eq_true (by kernel_rfl)) k1 bel lt1) (trodAll_cons_mk (Below.trod laidOut (by kernel_rfl) (of_decide_eq_true (by kernel_rfl)) k2 bel lt2) (trodAll_cons_mk (shut_int Try.underlying3 w3) trodAll_mk0)))), rfl, bel.frame _, fun h => by cases h⟩

theorem over : Rows.sessionsLeavesRow.holds Try.pinned (OpenSpec.ofChange Rows.sessionsLeavesSpec) :=
  OpenClaim.holds_of_wide 8 Try.f8 rfl rfl rfl rfl rfl rfl rfl ⟨rfl, rfl, rfl, rfl, rfl⟩ rfl rfl rfl rfl rfl (by kernel_rfl) Try.func8 (by kernel_rfl)
    (of_decide_eq_true (by kernel_rfl)) (by unfold Func.isWrapper; first | (rw [if_pos (by decide +kernel)]; kernel_rfl) | (rw [if_neg (by decide +kernel)]; exact ⟨rfl, rfl⟩))
    (fun os started H enc _ => lifted os started H enc)

theorem proved : Rows.SessionsLeavesSaid := over
#print axioms proved
end Go.Proofs.Ytbkchcpfnoclhaa.sessionsLeaves
