/- LevelsOrders: for all levels and users the statement returns true and changes nothing. Conditions: none beyond the statement's own. -/
import Derived.Test.YthhmbcelicfopaaRows
import Derived.Test.YthhmbcelicfopaaN15
import Derived.Test.YthhmbcelicfopaaEO2
import Derived.Lib.SmallJoins
import Derived.ProofKit
import Derived.OpenShut
import Derived.ShutString
import Derived.ChangeOld
import Derived.Below
import Derived.SliceStrings
namespace Go.Proofs.Ythhmbcelicfopaa.levelsOrders
open Go.ChangeShapes Go.WideShapes Go.ChangeAt Go.RowKit Go.Joins Go.Deep
open Go.ChangeMaps (open_string shut_string)
set_option linter.unusedVariables false

theorem own : ownKnob Try.prog.godebug = none := by kernel_rfl
theorem laidOut : laidOutB Try.prog = true := by kernel_rfl

set_option maxHeartbeats 4000000 in
theorem orders_many (uA : Option Addr) (n uC : Nat) (kA : Option Addr) (nK kC : Nat) (d x3 x4 x5 x6 x7 x8 : Int) (vA : Option Addr) (m vC : Nat) (lA : Option Addr) (mK lC : Nat) (e y3 y4 y5 y6 y7 y8 : Int) (user : ByteArray) (w : World) (hc : 12 < n ∨ 12 < nK ∨ isGreat m mK = true) :
    Calls Try.prog 8 #[.agg (lvc uA n uC kA nK kC d x3 x4 x5 x6 x7 x8).toArray, .agg (lvc vA m vC lA mK lC e y3 y4 y5 y6 y7 y8).toArray, .string user] w fun e' w' => e' = .returned (.bool true) ∧ Below w.heap.size w w' := by
  have HX := Lib.hid (two_boxes w (lvc uA n uC kA nK kC d x3 x4 x5 x6 x7 x8) (lvc vA m vC lA mK lC e y3 y4 y5 y6 y7 y8))
  show Calls Try.prog 8 #[.agg #[.slice uA n uC, .slice kA nK kC, .int .i64 d, .int .i64 x3, .int .i64 x4, .int .i64 x5, .int .i64 x6, .int .i64 x7, .int .i64 x8], .agg #[.slice vA m vC, .slice lA mK lC, .int .i64 e, .int .i64 y3, .int .i64 y4, .int .i64 y5, .int .i64 y6, .int .i64 y7, .int .i64 y8], .string user] w _
  by_cases h1 : 12 < n
  · have d1 : decide ((12 : Int) < (n : Int)) = true := by simp; omega
    clear h1 hc
    go_enter Try.func8, Try.ntmps8
    go_wp2_with (go_at_call 10; refine (awake10 _).mono ?_; rintro e0 w9 ⟨rfl, hb0⟩; have HB9 := Lib.hid hb0; clear hb0)
    go_ret
    exact ⟨rfl, HX.out.2.2.trans (HB9.out.mono HX.out.2.2.size)⟩
  · have d1 : decide ((12 : Int) < (n : Int)) = false := by simp; omega
    by_cases h2 : 12 < nK
    · have d2 : decide ((12 : Int) < (nK : Int)) = true := by simp; omega
      clear h1 h2 hc
      go_enter Try.func8, Try.ntmps8
      go_wp2_with (go_at_call 10; refine (awake10 _).mono ?_; rintro e0 w9 ⟨rfl, hb0⟩; have HB9 := Lib.hid hb0; clear hb0)
      go_ret
      exact ⟨rfl, HX.out.2.2.trans (HB9.out.mono HX.out.2.2.size)⟩
    · have d2 : decide ((12 : Int) < (nK : Int)) = false := by simp; omega
      have HG2 := Lib.hid (fun w => great9 vA m vC lA mK lC e y3 y4 y5 y6 y7 y8 w)
      rw [(show isGreat m mK = true by rcases hc with h | h | h; exact absurd h h1; exact absurd h h2; exact h)] at HG2
      clear h1 h2 hc
      go_enter Try.func8, Try.ntmps8
      go_wp2_with (first
        | (go_at_call 9; with_reducible refine (HG2.out _).mono ?_; rintro e0 w8 ⟨rfl, hb0⟩; have HB8 := Lib.hid hb0; clear hb0)
        | (go_at_call 10; refine (awake10 _).mono ?_; rintro e0 w9 ⟨rfl, hb0⟩; have HB9 := Lib.hid (HB8.out.trans (hb0.mono HB8.out.size)); clear hb0))
      go_ret
      exact ⟨rfl, HX.out.2.2.trans (HB9.out.mono HX.out.2.2.size)⟩

set_option maxHeartbeats 1600000 in
theorem walk (L0 : Lvl) (uA0 : Option Addr) (uC0 : Nat) (kA0 : Option Addr) (kC0 : Nat) (L1 : Lvl) (uA1 : Option Addr) (uC1 : Nat) (kA1 : Option Addr) (kC1 : Nat) (a2 : ByteArray) (w : World) (hU0 : Rws w uA0 L0.nU uC0 2 (rowU L0.U)) (hK0 : Rws w kA0 L0.nK kC0 2 (rowK L0.K)) (hU1 : Rws w uA1 L1.nU uC1 2 (rowU L1.U)) (hK1 : Rws w kA1 L1.nK kC1 2 (rowK L1.K)) (w2 : a2.size ≤ maxLen) :
    Calls Try.prog 8 #[.agg (lvc uA0 L0.nU uC0 kA0 L0.nK kC0 L0.d L0.x3 L0.x4 L0.x5 L0.x6 L0.x7 L0.x8).toArray, .agg (lvc uA1 L1.nU uC1 kA1 L1.nK kC1 L1.d L1.x3 L1.x4 L1.x5 L1.x6 L1.x7 L1.x8).toArray, .string a2] w fun e w' => e = .returned (.bool true) ∧ Below w.heap.size w w' := by
  by_cases hc : 12 < L0.nU ∨ 12 < L0.nK ∨ isGreat L1.nU L1.nK = true
  · exact orders_many uA0 L0.nU uC0 kA0 L0.nK kC0 L0.d L0.x3 L0.x4 L0.x5 L0.x6 L0.x7 L0.x8 uA1 L1.nU uC1 kA1 L1.nK kC1 L1.d L1.x3 L1.x4 L1.x5 L1.x6 L1.x7 L1.x8 a2 w hc
  · exact orders_walk uA0 L0.nU uC0 kA0 L0.nK kC0 L0.d L0.x3 L0.x4 L0.x5 L0.x6 L0.x7 L0.x8 uA1 L1.nU uC1 kA1 L1.nK kC1 L1.d L1.x3 L1.x4 L1.x5 L1.x6 L1.x7 L1.x8 L0.U L1.U L0.K L1.K a2 w hU0 hK0 hU1 hK1 (by omega) (by omega) (by cases h : isGreat L1.nU L1.nK with | false => rfl | true => exact absurd (.inr (.inr h)) hc)
set_option maxRecDepth 100000 in
theorem lifted (os : Os) (started : os.Started) (H : Type) (enc : TypeId × Value → H) :
    ReturnsInHanded {} Try.checked os 8 .any (Rows.levelsOrdersSpec.pre6 enc Try.prog Try.f8 Rows.levelsOrdersRow.domain false) (Rows.levelsOrdersSpec.post enc Try.prog Try.f8 false true false false) := by
  refine returnsInHanded_of_change (C := Try.checked) own started (by kernel_rfl) Try.func8
    (ChangeSpec.witness6 (enc := enc) (C := Try.checked) false ⟨#[], #[.agg #[.slice none 0 0, .slice none 0 0, .int .i64 0, .int .i64 0, .int .i64 0, .int .i64 0, .int .i64 0, .int .i64 0, .int .i64 0], .agg #[.slice none 0 0, .slice none 0 0, .int .i64 0, .int .i64 0, .int .i64 0, .int .i64 0, .int .i64 0, .int .i64 0, .int .i64 0], .string ByteArray.empty], []⟩ 8 (by kernel_rfl) (by kernel_rfl) (by kernel_rfl) (by kernel_rfl)) ?_
  intro W base args ds gs before hval0 hW hcnd _
  have hval : ∀ (j : Nat) t v, Try.f8.params[j]? = some t → args[j]? = some v → Value.okWide Try.prog W .any base t v := hval0
  have hW' := hW
  obtain ⟨p, q, hA0, hV, rfl, hfz, hnd⟩ := hW
  have hA : DataW.TrodAll enc Try.prog W 0 (fun _ => true) true Try.f8.params.toList args.toList ds p := hA0
  rw [Try.params8] at hA hval
  obtain ⟨v0, vs0, d0, ds0, p0, q0, hargs, rfl, rfl, h0, r0⟩ := trodAll_cons hA
  obtain ⟨v1, vs1, d1, ds1, p1, q1, rfl, rfl, rfl, h1, r1⟩ := trodAll_cons r0
  obtain ⟨v2, vs2, d2, ds2, p2, q2, rfl, rfl, rfl, h2, r2⟩ := trodAll_cons r1
  obtain ⟨rfl, rfl, rfl⟩ := trodAll_nil r2
  obtain rfl : args = #[v0, v1, v2] := by cases args; simp_all
  obtain ⟨rfl, rfl⟩ := trodVars_none hV
  have k0 := h0
  have lt0 : ∀ x ∈ p0, x.block < W.heap.size := by obtain ⟨m, hm⟩ := k0; exact DataW.trod_lt m _ _ _ hm
  obtain ⟨cs0, rfl, hsz0⟩ := okWide_struct Try.underlying25 (hval 0 25 v0 rfl rfl)
  obtain ⟨L0, ⟨uA0, uC0, kA0, kC0, e0, hU0, hK0⟩, _⟩ : ∃ L : Lvl, IsLv W cs0.toList L ∧ ∀ j, j < L.nU → (L.U j).1.size ≤ maxLen := by
    obtain ⟨fuel, hf⟩ := h0
    exact lv_open (by rw [Array.length_toList]; exact hsz0.trans ce28) (by simpa [Value.cells] using hf)
  obtain rfl : cs0 = (lvc uA0 L0.nU uC0 kA0 L0.nK kC0 L0.d L0.x3 L0.x4 L0.x5 L0.x6 L0.x7 L0.x8).toArray := by rw [← e0]
  have k1 := h1
  have lt1 : ∀ x ∈ p1, x.block < W.heap.size := by obtain ⟨m, hm⟩ := k1; exact DataW.trod_lt m _ _ _ hm
  obtain ⟨cs1, rfl, hsz1⟩ := okWide_struct Try.underlying25 (hval 1 25 v1 rfl rfl)
  obtain ⟨L1, ⟨uA1, uC1, kA1, kC1, e1, hU1, hK1⟩, _⟩ : ∃ L : Lvl, IsLv W cs1.toList L ∧ ∀ j, j < L.nU → (L.U j).1.size ≤ maxLen := by
    obtain ⟨fuel, hf⟩ := h1
    exact lv_open (by rw [Array.length_toList]; exact hsz1.trans ce28) (by simpa [Value.cells] using hf)
  obtain rfl : cs1 = (lvc uA1 L1.nU uC1 kA1 L1.nK kC1 L1.d L1.x3 L1.x4 L1.x5 L1.x6 L1.x7 L1.x8).toArray := by rw [← e1]
  obtain ⟨a2, rfl, rfl, rfl, w2⟩ := open_string Try.underlying9 (hval 2 9 v2 rfl rfl) h2
  clear hA0 hval0
  refine (walk L0 uA0 uC0 kA0 kC0 L1 uA1 uC1 kA1 kC1 a2 W hU0 hK0 hU1 hK1 w2).mono fun e W' ⟨he, bel⟩ => ?_
  subst he
  exact ⟨_, rfl, _, _, _, [], _, [], hW', trodAll_mk1 (shut_bool Try.underlying4 _), (trodAll_cons_mk (Below.trod laidOut (by kernel_rfl) (of_decide_eq_true (by kernel_rfl)) k0 bel lt0) (trodAll_cons_mk (Below.trod laidOut (by kernel_rfl) (of_decide_eq_true (by kernel_rfl)) k1 bel lt1) (trodAll_cons_mk (shut_string Try.underlying9 w2) trodAll_mk0))), rfl, bel.frame _, fun h => by cases h⟩

theorem over : Rows.levelsOrdersRow.holds Try.pinned (OpenSpec.ofChange Rows.levelsOrdersSpec) :=
  OpenClaim.holds_of_wide 8 Try.f8 rfl rfl rfl rfl rfl rfl rfl ⟨rfl, rfl, rfl, rfl, rfl⟩ rfl rfl rfl rfl rfl (by kernel_rfl) Try.func8 (by kernel_rfl)
    (of_decide_eq_true (by kernel_rfl)) (by unfold Func.isWrapper; first | (rw [if_pos (by decide +kernel)]; kernel_rfl) | (rw [if_neg (by decide +kernel)]; exact ⟨rfl, rfl⟩))
    (fun os started H enc _ => lifted os started H enc)

theorem proved : Rows.LevelsOrdersSaid := over
#print axioms proved
end Go.Proofs.Ythhmbcelicfopaa.levelsOrders
