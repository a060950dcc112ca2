/- SessionsNews: for every number, session and device the statement returns true and changes nothing. Conditions: none beyond the statement's own. -/
import Derived.Test.YtbkchcpfnoclhaaGreatRows
import Derived.Test.YtbkchcpfnoclhaaGreatV32
import Derived.Test.YtbkchcpfnoclhaaGreatOA
import Derived.Lib.SmallJoins
import Derived.ProofKit
import Derived.OpenShut
import Derived.ShutString
import Derived.ChangeOld
import Derived.Below
import Derived.SliceStrings
namespace Go.Proofs.YtbkchcpfnoclhaaGreat.sessionsNews
open Go.ChangeShapes Go.WideShapes Go.ChangeAt Go.RowKit
open Go.ChangeMaps (open_string shut_string)
set_option linter.unusedVariables false

theorem own : ownKnob Tryz.prog.godebug = none := by kernel_rfl
theorem laidOut : laidOutB Tryz.prog = true := by kernel_rfl


set_option maxHeartbeats 1600000 in
theorem walk (a0 : Int) (S1 : Ses) (A1 : Option Addr) (b1 : Nat) (y2 z2 : ByteArray) (w : World) (w0 : (Lit.int .i64 a0).wf = true) (H1 : Rcs w A1 S1.l.length b1 S1.l) (R1 : S1.rm.size ≤ 9223372036854775807) (C1 : b1 ≤ 9223372036854775807) (Y2 : y2.size ≤ 9223372036854775807) (Z2 : z2.size ≤ 9223372036854775807) :
    Calls Tryz.prog 3 #[.int .i64 a0, .agg #[.int .i64 S1.id, .string S1.rm, .int .i64 S1.nx, .slice A1 S1.l.length b1], .agg #[.string y2, .string z2]] w fun e w' => e = .returned (.bool true) ∧ Below w.heap.size w w' := by
  exact news_walk a0 S1 A1 b1 y2 z2 w H1 R1 C1 Y2 Z2

set_option maxRecDepth 100000 in
theorem lifted (os : Os) (started : os.Started) (H : Type) (enc : TypeId × Value → H) :
    ReturnsInHanded {} Tryz.checked os 3 .any (Rows.sessionsNewsSpec.pre6 enc Tryz.prog Tryz.f3 Rows.sessionsNewsRow.domain false) (Rows.sessionsNewsSpec.post enc Tryz.prog Tryz.f3 false true false false) := by
  refine returnsInHanded_of_change (C := Tryz.checked) own started (by kernel_rfl) Tryz.func3
    (ChangeSpec.witness6 (enc := enc) (C := Tryz.checked) false ⟨#[], #[.int .i64 0, .agg #[.int .i64 0, .string ⟨#[]⟩, .int .i64 0, .slice none 0 0], .agg #[.string ⟨#[]⟩, .string ⟨#[]⟩]], []⟩ 8 (by kernel_rfl) (by kernel_rfl) (by kernel_rfl) (by kernel_rfl)) ?_
  intro W base args ds gs before hval0 hW hcnd _
  have hval : ∀ (j : Nat) t v, Tryz.f3.params[j]? = some t → args[j]? = some v → Value.okWide Tryz.prog W .any base t v := hval0
  have hW' := hW
  obtain ⟨p, q, hA0, hV, rfl, hfz, hnd⟩ := hW
  have hA : DataW.TrodAll enc Tryz.prog W 0 (fun _ => true) true Tryz.f3.params.toList args.toList ds p := hA0
  rw [Tryz.params3] at hA hval
  obtain ⟨v0, vs0, d0, ds0, p0, q0, hargs, rfl, rfl, h0, r0⟩ := trodAll_cons hA
  obtain ⟨v1, vs1, d1, ds1, p1, q1, rfl, rfl, rfl, h1, r1⟩ := trodAll_cons r0
  obtain ⟨v2, vs2, d2, ds2, p2, q2, rfl, rfl, rfl, h2, r2⟩ := trodAll_cons r1
  obtain ⟨rfl, rfl, rfl⟩ := trodAll_nil r2
  obtain rfl : args = #[v0, v1, v2] := by cases args; simp_all
  obtain ⟨rfl, rfl⟩ := trodVars_none hV
  obtain ⟨a0, rfl, rfl, rfl, w0⟩ := open_int Tryz.underlying3 (hval 0 3 v0 rfl rfl) h0
  have k1 := h1
  have lt1 : ∀ x ∈ p1, x.block < W.heap.size := by obtain ⟨m, hm⟩ := k1; exact DataW.trod_lt m _ _ _ hm
  obtain ⟨cs1, rfl, hsz1⟩ := okWide_struct Tryz.underlying24 (hval 1 24 v1 rfl rfl)
  obtain ⟨S1, A1, b1, e1, H1, N1, R1, C1⟩ : ∃ (S : Ses) (A : Option Addr) (c : Nat), [.int .i64 S.id, .string S.rm, .int .i64 S.nx, .slice A S.l.length c] = cs1.toList ∧ Rcs W A S.l.length c S.l ∧ i64B S.nx ∧ S.rm.size ≤ 9223372036854775807 ∧ c ≤ 9223372036854775807 := by
    obtain ⟨fuel, hf⟩ := h1
    exact ses_open (by rw [Array.length_toList]; exact hsz1.trans cells24) (by simpa [Value.cells] using hf)
  obtain rfl : cs1 = #[.int .i64 S1.id, .string S1.rm, .int .i64 S1.nx, .slice A1 S1.l.length b1] := by
    show cs1 = List.toArray _
    rw [e1]
  have k2 := h2
  have lt2 : ∀ x ∈ p2, x.block < W.heap.size := by obtain ⟨m, hm⟩ := k2; exact DataW.trod_lt m _ _ _ hm
  obtain ⟨cs2, rfl, hsz2⟩ := okWide_struct Tryz.underlying26 (hval 2 26 v2 rfl rfl)
  obtain ⟨y2, z2, e2, Y2, Z2⟩ : ∃ u d : ByteArray, [.string u, .string d] = cs2.toList ∧ u.size ≤ 9223372036854775807 ∧ d.size ≤ 9223372036854775807 := by
    obtain ⟨fuel, hf⟩ := h2
    exact dev_open (by rw [Array.length_toList]; exact hsz2.trans cells26) (by simpa [Value.cells] using hf)
  obtain rfl : cs2 = #[.string y2, .string z2] := by
    show cs2 = List.toArray _
    rw [e2]
  clear hA0 hval0
  refine (walk a0 S1 A1 b1 y2 z2 W w0 H1 R1 C1 Y2 Z2).mono fun e W' ⟨he, bel⟩ => ?_
  subst he
  exact ⟨_, rfl, _, _, _, [], _, [], hW', trodAll_mk1 (shut_bool Tryz.underlying4 _), (trodAll_cons_mk (shut_int Tryz.underlying3 w0) (trodAll_cons_mk (Below.trod laidOut (by kernel_rfl) (of_decide_eq_true (by kernel_rfl)) k1 bel lt1) (trodAll_cons_mk (Below.trod laidOut (by kernel_rfl) (of_decide_eq_true (by kernel_rfl)) k2 bel lt2) trodAll_mk0))), rfl, bel.frame _, fun h => by cases h⟩

theorem over : Rows.sessionsNewsRow.holds Tryz.pinned (OpenSpec.ofChange Rows.sessionsNewsSpec) :=
  OpenClaim.holds_of_wide 3 Tryz.f3 rfl rfl rfl rfl rfl rfl rfl ⟨rfl, rfl, rfl, rfl, rfl⟩ rfl rfl rfl rfl rfl (by kernel_rfl) Tryz.func3 (by kernel_rfl)
    (of_decide_eq_true (by kernel_rfl)) (by unfold Func.isWrapper; first | (rw [if_pos (by decide +kernel)]; kernel_rfl) | (rw [if_neg (by decide +kernel)]; exact ⟨rfl, rfl⟩))
    (fun os started H enc _ => lifted os started H enc)

theorem proved : Rows.SessionsNewsSaid := over
#print axioms proved
end Go.Proofs.YtbkchcpfnoclhaaGreat.sessionsNews
