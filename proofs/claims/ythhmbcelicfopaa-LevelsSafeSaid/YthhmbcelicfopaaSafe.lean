/- LevelsSafe: for all levels and users the statement returns true and changes nothing. Conditions: none beyond the statement's own. -/
import Derived.Test.YthhmbcelicfopaaRows
import Derived.Test.YthhmbcelicfopaaNF
import Derived.Test.YthhmbcelicfopaaEO2
import Derived.Lib.SmallJoins
import Derived.ProofKit
import Derived.OpenShut
import Derived.ShutString
import Derived.ChangeOld
import Derived.Below
import Derived.SliceStrings
namespace Go.Proofs.Ythhmbcelicfopaa.levelsSafe
open Go.ChangeShapes Go.WideShapes Go.ChangeAt Go.RowKit Go.Joins Go.Deep
open Go.ChangeMaps (open_string shut_string)
set_option linter.unusedVariables false

theorem own : ownKnob Try.prog.godebug = none := by kernel_rfl
theorem laidOut : laidOutB Try.prog = true := by kernel_rfl

theorem open_pair {H : Type} {enc : TypeId × Value → H} {w : World} {base b0 : Nat} {spare : Nat → Bool} {held : Bool} {r : Reach} {v : Value} {d : DataW H} {p : List MemPlace} (hv : Value.okWide Try.prog w r b0 49 v) (h : DataW.Trod enc Try.prog w base spare held 49 v d p) :
    ∃ a o, v = .agg #[.string a, .string o] := by
  simp only [Value.okWide, Try.underlying49] at hv
  obtain ⟨cs, rfl, hsz, _⟩ := hv
  obtain ⟨fuel, hf⟩ := h
  obtain ⟨xs, m, _, _, _, hxl, hg⟩ := DataW.trod_array Try.underlying49 hf
  have hl : cs.size = 2 := hsz.trans (by kernel_rfl)
  obtain ⟨l⟩ := cs
  match l, hl with
  | [c0, c1], _ =>
    have e9 : Try.prog.cellsOf 9 = 1 := by kernel_rfl
    have g0 := hg 0 (by omega)
    have g1 := hg 1 (by omega)
    rw [e9] at g0 g1
    rw [List.getElem?_eq_getElem (by omega)] at g0 g1
    obtain ⟨s0, e0, _⟩ := DataW.trod_string Try.underlying9 g0
    obtain ⟨s1, e1, _⟩ := DataW.trod_string Try.underlying9 g1
    simp [Value.cells] at e0 e1
    exact ⟨s0, s1, by rw [e0, e1]⟩

set_option maxHeartbeats 1600000 in
theorem walk (L0 : Lvl) (uA0 : Option Addr) (uC0 : Nat) (kA0 : Option Addr) (kC0 : Nat) (L1 : Lvl) (uA1 : Option Addr) (uC1 : Nat) (kA1 : Option Addr) (kC1 : Nat) (a2 o2 : ByteArray) (w : World) (hU0 : Rws w uA0 L0.nU uC0 2 (rowU L0.U)) (hK0 : Rws w kA0 L0.nK kC0 2 (rowK L0.K)) (hU1 : Rws w uA1 L1.nU uC1 2 (rowU L1.U)) (hK1 : Rws w kA1 L1.nK kC1 2 (rowK L1.K))  :
    Calls Try.prog 7 #[.agg (lvc uA0 L0.nU uC0 kA0 L0.nK kC0 L0.d L0.x3 L0.x4 L0.x5 L0.x6 L0.x7 L0.x8).toArray, .agg (lvc uA1 L1.nU uC1 kA1 L1.nK kC1 L1.d L1.x3 L1.x4 L1.x5 L1.x6 L1.x7 L1.x8).toArray, .agg #[.string a2, .string o2]] w fun e w' => e = .returned (.bool true) ∧ Below w.heap.size w w' := by
  exact safe_walk uA0 L0.nU uC0 kA0 L0.nK kC0 L0.d L0.x3 L0.x4 L0.x5 L0.x6 L0.x7 L0.x8 uA1 L1.nU uC1 kA1 L1.nK kC1 L1.d L1.x3 L1.x4 L1.x5 L1.x6 L1.x7 L1.x8 L0.U L1.U L0.K L1.K a2 o2 w hU0 hK0 hU1 hK1
set_option maxRecDepth 100000 in
theorem lifted (os : Os) (started : os.Started) (H : Type) (enc : TypeId × Value → H) :
    ReturnsInHanded {} Try.checked os 7 .any (Rows.levelsSafeSpec.pre6 enc Try.prog Try.f7 Rows.levelsSafeRow.domain false) (Rows.levelsSafeSpec.post enc Try.prog Try.f7 false true false false) := by
  refine returnsInHanded_of_change (C := Try.checked) own started (by kernel_rfl) Try.func7
    (ChangeSpec.witness6 (enc := enc) (C := Try.checked) false ⟨#[], #[.agg #[.slice none 0 0, .slice none 0 0, .int .i64 0, .int .i64 0, .int .i64 0, .int .i64 0, .int .i64 0, .int .i64 0, .int .i64 0], .agg #[.slice none 0 0, .slice none 0 0, .int .i64 0, .int .i64 0, .int .i64 0, .int .i64 0, .int .i64 0, .int .i64 0, .int .i64 0], .agg #[.string ByteArray.empty, .string ByteArray.empty]], []⟩ 8 (by kernel_rfl) (by kernel_rfl) (by kernel_rfl) (by kernel_rfl)) ?_
  intro W base args ds gs before hval0 hW hcnd _
  have hval : ∀ (j : Nat) t v, Try.f7.params[j]? = some t → args[j]? = some v → Value.okWide Try.prog W .any base t v := hval0
  have hW' := hW
  obtain ⟨p, q, hA0, hV, rfl, hfz, hnd⟩ := hW
  have hA : DataW.TrodAll enc Try.prog W 0 (fun _ => true) true Try.f7.params.toList args.toList ds p := hA0
  rw [Try.params7] at hA hval
  obtain ⟨v0, vs0, d0, ds0, p0, q0, hargs, rfl, rfl, h0, r0⟩ := trodAll_cons hA
  obtain ⟨v1, vs1, d1, ds1, p1, q1, rfl, rfl, rfl, h1, r1⟩ := trodAll_cons r0
  obtain ⟨v2, vs2, d2, ds2, p2, q2, rfl, rfl, rfl, h2, r2⟩ := trodAll_cons r1
  obtain ⟨rfl, rfl, rfl⟩ := trodAll_nil r2
  obtain rfl : args = #[v0, v1, v2] := by cases args; simp_all
  obtain ⟨rfl, rfl⟩ := trodVars_none hV
  have k0 := h0
  have lt0 : ∀ x ∈ p0, x.block < W.heap.size := by obtain ⟨m, hm⟩ := k0; exact DataW.trod_lt m _ _ _ hm
  obtain ⟨cs0, rfl, hsz0⟩ := okWide_struct Try.underlying25 (hval 0 25 v0 rfl rfl)
  obtain ⟨L0, ⟨uA0, uC0, kA0, kC0, e0, hU0, hK0⟩, _⟩ : ∃ L : Lvl, IsLv W cs0.toList L ∧ ∀ j, j < L.nU → (L.U j).1.size ≤ maxLen := by
    obtain ⟨fuel, hf⟩ := h0
    exact lv_open (by rw [Array.length_toList]; exact hsz0.trans ce28) (by simpa [Value.cells] using hf)
  obtain rfl : cs0 = (lvc uA0 L0.nU uC0 kA0 L0.nK kC0 L0.d L0.x3 L0.x4 L0.x5 L0.x6 L0.x7 L0.x8).toArray := by rw [← e0]
  have k1 := h1
  have lt1 : ∀ x ∈ p1, x.block < W.heap.size := by obtain ⟨m, hm⟩ := k1; exact DataW.trod_lt m _ _ _ hm
  obtain ⟨cs1, rfl, hsz1⟩ := okWide_struct Try.underlying25 (hval 1 25 v1 rfl rfl)
  obtain ⟨L1, ⟨uA1, uC1, kA1, kC1, e1, hU1, hK1⟩, _⟩ : ∃ L : Lvl, IsLv W cs1.toList L ∧ ∀ j, j < L.nU → (L.U j).1.size ≤ maxLen := by
    obtain ⟨fuel, hf⟩ := h1
    exact lv_open (by rw [Array.length_toList]; exact hsz1.trans ce28) (by simpa [Value.cells] using hf)
  obtain rfl : cs1 = (lvc uA1 L1.nU uC1 kA1 L1.nK kC1 L1.d L1.x3 L1.x4 L1.x5 L1.x6 L1.x7 L1.x8).toArray := by rw [← e1]
  have k2 := h2
  have lt2 : ∀ x ∈ p2, x.block < W.heap.size := by obtain ⟨m, hm⟩ := k2; exact DataW.trod_lt m _ _ _ hm
  obtain ⟨a2, o2, rfl⟩ := open_pair (hval 2 49 v2 rfl rfl) h2
  clear hA0 hval0
  refine (walk L0 uA0 uC0 kA0 kC0 L1 uA1 uC1 kA1 kC1 a2 o2 W hU0 hK0 hU1 hK1 ).mono fun e W' ⟨he, bel⟩ => ?_
  subst he
  exact ⟨_, rfl, _, _, _, [], _, [], hW', trodAll_mk1 (shut_bool Try.underlying4 _), (trodAll_cons_mk (Below.trod laidOut (by kernel_rfl) (of_decide_eq_true (by kernel_rfl)) k0 bel lt0) (trodAll_cons_mk (Below.trod laidOut (by kernel_rfl) (of_decide_eq_true (by kernel_rfl)) k1 bel lt1) (trodAll_cons_mk (Below.trod laidOut (by kernel_rfl) (of_decide_eq_true (by kernel_rfl)) k2 bel lt2) trodAll_mk0))), rfl, bel.frame _, fun h => by cases h⟩

theorem over : Rows.levelsSafeRow.holds Try.pinned (OpenSpec.ofChange Rows.levelsSafeSpec) :=
  OpenClaim.holds_of_wide 7 Try.f7 rfl rfl rfl rfl rfl rfl rfl ⟨rfl, rfl, rfl, rfl, rfl⟩ rfl rfl rfl rfl rfl (by kernel_rfl) Try.func7 (by kernel_rfl)
    (of_decide_eq_true (by kernel_rfl)) (by unfold Func.isWrapper; first | (rw [if_pos (by decide +kernel)]; kernel_rfl) | (rw [if_neg (by decide +kernel)]; exact ⟨rfl, rfl⟩))
    (fun os started H enc _ => lifted os started H enc)

theorem proved : Rows.LevelsSafeSaid := over
#print axioms proved
end Go.Proofs.Ythhmbcelicfopaa.levelsSafe
