/- AuthsetMade: for all events, every event and state the statement returns true and changes nothing. Conditions: none beyond the statement's own. -/
import Derived.Test.YtbedibiodlgegaaRows
import Derived.Test.YtbedibiodlgegaaM26
import Derived.Lib.SmallJoins
import Derived.ProofKit
import Derived.OpenShut
import Derived.ShutString
import Derived.ChangeOld
import Derived.Below
import Derived.SliceStrings
namespace Go.Proofs.Ytbedibiodlgegaa.authsetMade
open Go.ChangeShapes Go.WideShapes Go.ChangeAt Go.RowKit
open Go.ChangeMaps (open_string shut_string)
set_option linter.unusedVariables false

theorem own : ownKnob Try.prog.godebug = none := by kernel_rfl
theorem laidOut : laidOutB Try.prog = true := by kernel_rfl


set_option maxHeartbeats 1600000 in
theorem walk (a0 : Option Addr) (len0 cap0 : Nat) (E0 : Nat → Evd) (m1 : Evd) (a2 : Option Addr) (len2 cap2 : Nat) (S2 : List En.Rc) (w : World) (H0 : Evx w a0 len0 E0) (H1 : IsCt w m1.C m1.a) (W1 : Wfe m1) (P1 : Its w m1.a8 m1.n8 m1.c8 m1.p8) (R1 : Its w m1.a9 m1.n9 m1.c9 m1.p9) (H2 : En.Rcs w a2 len2 cap2 S2) (J2 : ∀ p ∈ S2, i64B p.id) :
    Calls Try.prog 7 #[.slice a0 len0 cap0, .agg (cellsE m1).toArray, .slice a2 len2 cap2] w fun e w' => e = .returned (.bool true) ∧ Below w.heap.size w w' := by
  exact made_walk a0 len0 cap0 E0 m1 a2 len2 cap2 (S2.map toK) w H0 H1 W1 P1 R1 (enR_of H2) (fun p hp => by obtain ⟨q, hq, rfl⟩ := List.mem_map.1 hp; exact J2 q hq)

set_option maxRecDepth 100000 in
theorem lifted (os : Os) (started : os.Started) (H : Type) (enc : TypeId × Value → H) :
    ReturnsInHanded {} Try.checked os 7 .any (Rows.authsetMadeSpec.pre6 enc Try.prog Try.f7 Rows.authsetMadeRow.domain false) (Rows.authsetMadeSpec.post enc Try.prog Try.f7 false true false false) := by
  refine returnsInHanded_of_change (C := Try.checked) own started (by kernel_rfl) Try.func7
    (ChangeSpec.witness6 (enc := enc) (C := Try.checked) false ⟨#[], #[.slice none 0 0, .agg #[.int .i64 0, .string ⟨#[]⟩, .string ⟨#[]⟩, .int .i64 0, .bool false, .string ⟨#[]⟩, .int .i64 0, .int .i64 0, .slice none 0 0, .slice none 0 0, .string ⟨#[]⟩, .int .i64 0, .int .i64 0, .bool false, .string ⟨#[]⟩, .slice none 0 0, .slice none 0 0, .slice none 0 0, .slice none 0 0, .int .i64 0, .int .i64 0, .int .i64 0, .int .i64 0, .int .i64 0, .int .i64 0, .int .i64 0, .int .i64 0, .string ⟨#[]⟩, .int .i64 0], .slice none 0 0], []⟩ 8 (by kernel_rfl) (by kernel_rfl) (by kernel_rfl) (by kernel_rfl)) ?_
  intro W base args ds gs before hval0 hW hcnd _
  have hval : ∀ (j : Nat) t v, Try.f7.params[j]? = some t → args[j]? = some v → Value.okWide Try.prog W .any base t v := hval0
  have hW' := hW
  obtain ⟨p, q, hA0, hV, rfl, hfz, hnd⟩ := hW
  have hA : DataW.TrodAll enc Try.prog W 0 (fun _ => true) true Try.f7.params.toList args.toList ds p := hA0
  rw [Try.params7] at hA hval
  obtain ⟨v0, vs0, d0, ds0, p0, q0, hargs, rfl, rfl, h0, r0⟩ := trodAll_cons hA
  obtain ⟨v1, vs1, d1, ds1, p1, q1, rfl, rfl, rfl, h1, r1⟩ := trodAll_cons r0
  obtain ⟨v2, vs2, d2, ds2, p2, q2, rfl, rfl, rfl, h2, r2⟩ := trodAll_cons r1
  obtain ⟨rfl, rfl, rfl⟩ := trodAll_nil r2
  obtain rfl : args = #[v0, v1, v2] := by cases args; simp_all
  obtain ⟨rfl, rfl⟩ := trodVars_none hV
  have k0 := h0
  have lt0 : ∀ x ∈ p0, x.block < W.heap.size := by obtain ⟨m, hm⟩ := k0; exact DataW.trod_lt m _ _ _ hm
  obtain ⟨a0, len0, cap0, rfl⟩ := okWide_slice Try.underlying44 (hval 0 44 v0 rfl rfl)
  obtain ⟨E0, H0⟩ : ∃ E : Nat → Evd, Evx W a0 len0 E := by
    obtain ⟨fuel, hf⟩ := h0
    exact open_evx (cap := cap0) (by simpa [Value.cells] using hf)
  have k1 := h1
  have lt1 : ∀ x ∈ p1, x.block < W.heap.size := by obtain ⟨m, hm⟩ := k1; exact DataW.trod_lt m _ _ _ hm
  obtain ⟨cs1, rfl, hsz1⟩ := okWide_struct Try.underlying34 (hval 1 34 v1 rfl rfl)
  obtain ⟨m1, e1, H1, W1, P1, R1⟩ : ∃ e : Evd, cellsE e = cs1.toList ∧ IsCt W e.C e.a ∧ Wfe e ∧ Its W e.a8 e.n8 e.c8 e.p8 ∧ Its W e.a9 e.n9 e.c9 e.p9 := by
    obtain ⟨fuel, hf⟩ := h1
    exact evx_open (by rw [Array.length_toList]; exact hsz1.trans ce36) (by simpa [Value.cells] using hf)
  obtain rfl : cs1 = (cellsE m1).toArray := by rw [e1]
  have k2 := h2
  have lt2 : ∀ x ∈ p2, x.block < W.heap.size := by obtain ⟨m, hm⟩ := k2; exact DataW.trod_lt m _ _ _ hm
  obtain ⟨a2, len2, cap2, rfl⟩ := okWide_slice Try.underlying40 (hval 2 40 v2 rfl rfl)
  obtain ⟨S2, H2, J2⟩ : ∃ zs : List En.Rc, En.Rcs W a2 len2 cap2 zs ∧ ∀ p ∈ zs, i64B p.id := by
    obtain ⟨fuel, hf⟩ := h2
    exact open_ens (by simpa [Value.cells] using hf)
  clear hA0 hval0
  refine (walk a0 len0 cap0 E0 m1 a2 len2 cap2 S2 W H0 H1 W1 P1 R1 H2 J2).mono fun e W' ⟨he, bel⟩ => ?_
  subst he
  exact ⟨_, rfl, _, _, _, [], _, [], hW', trodAll_mk1 (shut_bool Try.underlying4 _), (trodAll_cons_mk (Below.trod laidOut (by kernel_rfl) (of_decide_eq_true (by kernel_rfl)) k0 bel lt0) (trodAll_cons_mk (Below.trod laidOut (by kernel_rfl) (of_decide_eq_true (by kernel_rfl)) k1 bel lt1) (trodAll_cons_mk (Below.trod laidOut (by kernel_rfl) (of_decide_eq_true (by kernel_rfl)) k2 bel lt2) trodAll_mk0))), rfl, bel.frame _, fun h => by cases h⟩

theorem over : Rows.authsetMadeRow.holds Try.pinned (OpenSpec.ofChange Rows.authsetMadeSpec) :=
  OpenClaim.holds_of_wide 7 Try.f7 rfl rfl rfl rfl rfl rfl rfl ⟨rfl, rfl, rfl, rfl, rfl⟩ rfl rfl rfl rfl rfl (by kernel_rfl) Try.func7 (by kernel_rfl)
    (of_decide_eq_true (by kernel_rfl)) (by unfold Func.isWrapper; first | (rw [if_pos (by decide +kernel)]; kernel_rfl) | (rw [if_neg (by decide +kernel)]; exact ⟨rfl, rfl⟩))
    (fun os started H enc _ => lifted os started H enc)

theorem proved : Rows.AuthsetMadeSaid := over
#print axioms proved
end Go.Proofs.Ytbedibiodlgegaa.authsetMade
