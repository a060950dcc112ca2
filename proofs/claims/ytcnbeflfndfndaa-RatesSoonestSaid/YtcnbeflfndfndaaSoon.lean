/- RatesSoonest: for every bucket and every numbers the statement returns true and changes nothing. Conditions: none beyond the statement's own. -/
import Derived.Test.YtcnbeflfndfndaaRows
import Derived.Test.YtcnbeflfndfndaaS2
import Derived.Test.YtcnbeflfndfndaaS3
import Derived.ProofKit
import Derived.OpenShut
import Derived.ShutString
import Derived.ChangeOld
import Derived.Below
import Derived.Lib.SmallJoins
namespace Go.Proofs.Ytcnbeflfndfndaa.ratesSoonest
open Go.ChangeShapes Go.WideShapes Go.ChangeAt Go.RowKit Go.Joins
set_option linter.unusedVariables false

theorem own : ownKnob Try.prog.godebug = none := by kernel_rfl
theorem laidOut : laidOutB Try.prog = true := by kernel_rfl
theorem cells23 : Try.prog.cellsOf 23 = 4 := by kernel_rfl


theorem walk (L A M E x1 x2 x3 : Int) (bx1 : -9223372036854775808 ≤ x1 ∧ x1 ≤ 9223372036854775807) (bx2 : -9223372036854775808 ≤ x2 ∧ x2 ≤ 9223372036854775807) (bx3 : -9223372036854775808 ≤ x3 ∧ x3 ≤ 9223372036854775807) (w : World) :
    Calls Try.prog 6 #[bk L A M E, .int .i64 x1, .int .i64 x2, .int .i64 x3] w fun e w' => e = .returned (.bool true) ∧ Below w.heap.size w w' := by
  by_cases ht : 0 ≤ x1 ∧ x1 ≤ 1000000000
  · by_cases h : Ok L A M E ∧ 1 ≤ x2 ∧ x2 ≤ M ∧ 0 ≤ x1 ∧ x1 ≤ 1000000000
    · obtain ⟨ok, hn, hm, h0, h1⟩ := h
      by_cases h2 : x2 ≤ cnt L A M E x1
      · exact soon_good L A M E x1 x2 x3 0 h0 h1 (wt_now ⟨ok, hn, hm, h0, h1⟩ h2).symm (by omega) (by omega) ⟨ok, hn, by omega, by omega⟩ (by rw [Int.add_zero]; exact h2) (.inl rfl) w
      · have hL := few_lt ok hm h2
        by_cases h3 : A + (x2 - L) * E ≤ 1000000000
        · have hlt : x1 < A + (x2 - L) * E := by
            rcases Int.lt_or_le x1 (A + (x2 - L) * E) with g | g
            · exact g
            · exact absurd (cnt_late ok hm (by omega) g) h2
          have e1 : x1 + (A + (x2 - L) * E - x1) = A + (x2 - L) * E := by omega
          refine soon_good L A M E x1 x2 x3 (A + (x2 - L) * E - x1) h0 h1 (wt_at ⟨ok, hn, hm, h0, h1⟩ h2 h3).symm (by omega) (by omega) ⟨ok, hn, by omega, by omega⟩ (by rw [e1]; exact cnt_late ok hm (by omega) (Int.le_refl _)) (.inr ⟨⟨ok, hn, by omega, by omega⟩, ?_⟩) w
          rw [e1]
          exact cnt_early ok hL hm (by omega)
        · have hc : ∀ T, T ≤ 1000000000 → cnt L A M E T < x2 := fun T hT => cnt_early ok hL hm (by omega)
          rcases Int.lt_or_le x1 x3 with g | g
          · exact soon_never L A M E x1 x2 x3 x3 h0 h1 (wt_never ⟨ok, hn, hm, h0, h1⟩ h2 h3).symm (.inl ⟨g, rfl⟩) (fun q => by have := hc x3 q.2.2.2.1; omega) w
          · exact soon_never L A M E x1 x2 x3 x1 h0 h1 (wt_never ⟨ok, hn, hm, h0, h1⟩ h2 h3).symm (.inr ⟨g, rfl⟩) (fun q => by have := hc x1 q.2.2.2.1; omega) w
    · have hc : ∀ T, ¬ (Ok L A M E ∧ 1 ≤ x2 ∧ 0 ≤ T ∧ T ≤ 1000000000 ∧ x2 ≤ cnt L A M E T) := fun T q => h ⟨q.1, q.2.1, by have := (cnt_bd (now := T) q.1).2; omega, ht.1, ht.2⟩
      rcases Int.lt_or_le x1 x3 with g | g
      · exact soon_never L A M E x1 x2 x3 x3 ht.1 ht.2 (wt_bad h).symm (.inl ⟨g, rfl⟩) (hc _) w
      · exact soon_never L A M E x1 x2 x3 x1 ht.1 ht.2 (wt_bad h).symm (.inr ⟨g, rfl⟩) (hc _) w
  · exact walk_off L A M E x1 x2 x3 ht w


set_option maxRecDepth 100000 in
theorem lifted (os : Os) (started : os.Started) (H : Type) (enc : TypeId × Value → H) :
    ReturnsInHanded {} Try.checked os 6 .any (Rows.ratesSoonestSpec.pre6 enc Try.prog Try.f6 Rows.ratesSoonestRow.domain false) (Rows.ratesSoonestSpec.post enc Try.prog Try.f6 false true false false) := by
  refine returnsInHanded_of_change (C := Try.checked) own started (by kernel_rfl) Try.func6
    (ChangeSpec.witness6 (enc := enc) (C := Try.checked) false ⟨#[], #[.agg #[.int .i64 0, .int .i64 0, .int .i64 0, .int .i64 0], .int .i64 0, .int .i64 0, .int .i64 0], []⟩ 8 (by kernel_rfl) (by kernel_rfl) (by kernel_rfl) (by kernel_rfl)) ?_
  intro W base args ds gs before hval0 hW hcnd _
  have hval : ∀ (j : Nat) t v, Try.f6.params[j]? = some t → args[j]? = some v → Value.okWide Try.prog W .any base t v := hval0
  have hW' := hW
  obtain ⟨p, q, hA0, hV, rfl, hfz, hnd⟩ := hW
  have hA : DataW.TrodAll enc Try.prog W 0 (fun _ => true) true Try.f6.params.toList args.toList ds p := hA0
  rw [Try.params6] at hA hval
  obtain ⟨v0, vs0, d0, ds0, p0, q0, hargs, rfl, rfl, h0, r0⟩ := trodAll_cons hA
  obtain ⟨v1, vs1, d1, ds1, p1, q1, rfl, rfl, rfl, h1, r1⟩ := trodAll_cons r0
  obtain ⟨v2, vs2, d2, ds2, p2, q2, rfl, rfl, rfl, h2, r2⟩ := trodAll_cons r1
  obtain ⟨v3, vs3, d3, ds3, p3, q3, rfl, rfl, rfl, h3, r3⟩ := trodAll_cons r2
  obtain ⟨rfl, rfl, rfl⟩ := trodAll_nil r3
  obtain rfl : args = #[v0, v1, v2, v3] := by cases args; simp_all
  obtain ⟨rfl, rfl⟩ := trodVars_none hV
  have k0 := h0
  have lt0 : ∀ x ∈ p0, x.block < W.heap.size := by obtain ⟨m, hm⟩ := k0; exact DataW.trod_lt m _ _ _ hm
  obtain ⟨c0, c1, c2, c3, y0, y1, y2, y3, m, rfl, hd0, hp0, hy0, hy1, hy2, hy3⟩ := open_agg4 Try.underlying23 (by kernel_rfl) cells23 (hval 0 23 v0 rfl rfl) h0
  obtain ⟨L, e0, _, _⟩ := DataW.trod_int Try.underlying3 hy0
  obtain ⟨A, e1, _, _⟩ := DataW.trod_int Try.underlying3 hy1
  obtain ⟨M, e2, _, _⟩ := DataW.trod_int Try.underlying3 hy2
  obtain ⟨E, e3, _, _⟩ := DataW.trod_int Try.underlying3 hy3
  simp only [List.cons.injEq, and_true] at e0 e1 e2 e3
  subst e0 e1 e2 e3
  obtain ⟨x1, rfl, rfl, rfl, w1⟩ := open_int Try.underlying3 (hval 1 3 v1 rfl rfl) h1
  obtain ⟨x2, rfl, rfl, rfl, w2⟩ := open_int Try.underlying3 (hval 2 3 v2 rfl rfl) h2
  obtain ⟨x3, rfl, rfl, rfl, w3⟩ := open_int Try.underlying3 (hval 3 3 v3 rfl rfl) h3
  clear hA0 hval0
  refine (walk L A M E x1 x2 x3 (bounds_i64 w1) (bounds_i64 w2) (bounds_i64 w3) W).mono fun e W' ⟨he, bel⟩ => ?_
  subst he
  exact ⟨_, rfl, _, _, _, [], _, [], hW', trodAll_mk1 (shut_bool Try.underlying4 _), (trodAll_cons_mk (Below.trod laidOut (by kernel_rfl) (of_decide_eq_true (by kernel_rfl)) k0 bel lt0) (trodAll_cons_mk (shut_int Try.underlying3 w1) (trodAll_cons_mk (shut_int Try.underlying3 w2) (trodAll_cons_mk (shut_int Try.underlying3 w3) trodAll_mk0)))), rfl, bel.frame _, fun h => by cases h⟩

theorem over : Rows.ratesSoonestRow.holds Try.pinned (OpenSpec.ofChange Rows.ratesSoonestSpec) :=
  OpenClaim.holds_of_wide 6 Try.f6 rfl rfl rfl rfl rfl rfl rfl ⟨rfl, rfl, rfl, rfl, rfl⟩ rfl rfl rfl rfl rfl (by kernel_rfl) Try.func6 (by kernel_rfl)
    (of_decide_eq_true (by kernel_rfl)) (by unfold Func.isWrapper; first | (rw [if_pos (by decide +kernel)]; kernel_rfl) | (rw [if_neg (by decide +kernel)]; exact ⟨rfl, rfl⟩))
    (fun os started H enc _ => lifted os started H enc)

theorem proved : Rows.RatesSoonestSaid := over
#print axioms proved
end Go.Proofs.Ytcnbeflfndfndaa.ratesSoonest
