/- RatesNews: for every bucket and every numbers the statement returns true and changes nothing. Conditions: none beyond the statement's own. -/
import Derived.Test.YtcnbeflfndfndaaRows
import Derived.Test.YtcnbeflfndfndaaLive
import Derived.Test.YtcnbeflfndfndaaR3
import Derived.ProofKit
import Derived.OpenShut
import Derived.ShutString
import Derived.ChangeOld
import Derived.Below
import Derived.Lib.SmallJoins
namespace Go.Proofs.Ytcnbeflfndfndaa.ratesNews
open Go.ChangeShapes Go.WideShapes Go.ChangeAt Go.RowKit Go.Joins
set_option linter.unusedVariables false

theorem own : ownKnob Try.prog.godebug = none := by kernel_rfl
theorem laidOut : laidOutB Try.prog = true := by kernel_rfl
theorem cells23 : Try.prog.cellsOf 23 = 4 := by kernel_rfl

theorem nw_form (m e : Int) : ∃ a b c d r : Int, nw m e = .tuple #[bk a b c d, .int .i64 r] := by
  by_cases h : Ok m 0 m e
  · exact ⟨_, _, _, _, _, (Ending.returned.inj (nw_yes h)).symm⟩
  · exact ⟨_, _, _, _, _, (Ending.returned.inj (nw_no h)).symm⟩

set_option maxHeartbeats 3200000 in
theorem walk (x0 : Int) (bx0 : -9223372036854775808 ≤ x0 ∧ x0 ≤ 9223372036854775807) (x1 : Int) (bx1 : -9223372036854775808 ≤ x1 ∧ x1 ≤ 9223372036854775807) (L A M E : Int) (w : World) :
    Calls Try.prog 3 #[.int .i64 x0, .int .i64 x1, bk L A M E] w fun e w' => e = .returned (.bool true) ∧ Below w.heap.size w w' := by
  have HBB := Lib.hid (box_start w L A M E)
  obtain ⟨a, b, c, d, r, hr⟩ := nw_form x0 x1
  have c1 : ∀ w, Calls Try.prog 10 #[.int .i64 x0, .int .i64 x1] w fun e w' => e = .returned (.tuple #[bk a b c d, .int .i64 r]) ∧ Below w.heap.size w w' := fun w => (new_any x0 x1 w).mono fun e w' ⟨he, hb⟩ => ⟨by rw [he, hr], hb⟩
  have c2 : ∀ w, Calls Try.prog 11 #[.int .i64 x0, .int .i64 x1] w fun e w' => e = .returned (.tuple #[bk a b c d, .int .i64 r]) ∧ Below w.heap.size w w' := fun w => (rnew_any x0 x1 w).mono fun e w' ⟨he, hb⟩ => ⟨by rw [he, hr], hb⟩
  have C1 := Lib.hid c1
  have C2 := Lib.hid c2
  clear hr c1 c2
  go_enter Try.func3, Try.ntmps3
  go_wp2_with (first
    | (go_at_call 10; refine (C1.out _).mono ?_; rintro e w1 ⟨rfl, hb1⟩; have HB1 := Lib.hid ((HBB.out.below hb1).alloc (.cells #[.int .i64 a, .int .i64 b, .int .i64 c, .int .i64 d] 23)); have HX1 := Lib.hid (held_new w1 a b c d); obtain ⟨k0, k1, k2, k3, kf, kl⟩ := HB1.out)
    | (go_at_call 11; refine (C2.out _).mono ?_; rintro e w2 ⟨rfl, hb2⟩; have HB2 := Lib.hid ((HB1.out.below hb2).alloc (.cells #[.int .i64 a, .int .i64 b, .int .i64 c, .int .i64 d] 23)); have HX2 := Lib.hid ((HX1.out.below hb2).alloc (.cells #[.int .i64 a, .int .i64 b, .int .i64 c, .int .i64 d] 23)); have HY2 := Lib.hid (held_new w2 a b c d); clear k0 k1 k2 k3 kf kl; obtain ⟨k0, k1, k2, k3, kf, kl⟩ := HB2.out; obtain ⟨p0, p1, p2, p3, pf, pl⟩ := HX2.out))
  obtain ⟨q0, q1, q2, q3, qf, ql⟩ := HY2.out
  have A2 := Lib.hid (bstep (w := w) (((Below.refl _ _).alloc (Nat.le_refl _) _).trans (hb1.mono (by simp))) hb2)
  clear hb1 hb2
  go_region_held3 (fun w' => w'.cell? ⟨w.heap.size, 0, none⟩ = some (.int .i64 L) ∧ w'.cell? ⟨w.heap.size, 1, none⟩ = some (.int .i64 A) ∧ w'.cell? ⟨w.heap.size, 2, none⟩ = some (.int .i64 M) ∧ w'.cell? ⟨w.heap.size, 3, none⟩ = some (.int .i64 E) ∧ w'.cell? ⟨w1.heap.size, 0, none⟩ = some (.int .i64 a) ∧ w'.cell? ⟨w1.heap.size, 1, none⟩ = some (.int .i64 b) ∧ w'.cell? ⟨w1.heap.size, 2, none⟩ = some (.int .i64 c) ∧ w'.cell? ⟨w1.heap.size, 3, none⟩ = some (.int .i64 d) ∧ w'.cell? ⟨w2.heap.size, 0, none⟩ = some (.int .i64 a) ∧ w'.cell? ⟨w2.heap.size, 1, none⟩ = some (.int .i64 b) ∧ w'.cell? ⟨w2.heap.size, 2, none⟩ = some (.int .i64 c) ∧ w'.cell? ⟨w2.heap.size, 3, none⟩ = some (.int .i64 d)) (go_keep)
    (first
      | (go_at_call 12; refine (check_any _ _ _ _ _).mono ?_; rintro e w3 ⟨rfl, hb3⟩; have hb4 : Below (w2.alloc (.cells #[.int .i64 a, .int .i64 b, .int .i64 c, .int .i64 d] 23)).heap.size (w2.alloc (.cells #[.int .i64 a, .int .i64 b, .int .i64 c, .int .i64 d] 23)) w3 := ⟨hb3.os, hb3.tape, hb3.output, hb3.size, hb3.block⟩; have HB3 := Lib.hid (HB2.out.below hb4); have HX3 := Lib.hid (HX2.out.below hb4); have HY3 := Lib.hid (HY2.out.below hb4); have A3 := Lib.hid (bstep A2.out hb4); clear k0 k1 k2 k3 kf kl p0 p1 p2 p3 pf pl q0 q1 q2 q3 qf ql; obtain ⟨k0, k1, k2, k3, kf, kl⟩ := HB3.out; obtain ⟨p0, p1, p2, p3, pf, pl⟩ := HX3.out; obtain ⟨q0, q1, q2, q3, qf, ql⟩ := HY3.out)
      | (go_at_call 13; refine (rcheck_any _ _ _ _ _).mono ?_; rintro e w5 ⟨rfl, hb5⟩; have HB5 := Lib.hid (HB3.out.below hb5); have HX5 := Lib.hid (HX3.out.below hb5); have HY5 := Lib.hid (HY3.out.below hb5); have A5 := Lib.hid (bgo A3.out hb5); clear k0 k1 k2 k3 kf kl p0 p1 p2 p3 pf pl q0 q1 q2 q3 qf ql; obtain ⟨k0, k1, k2, k3, kf, kl⟩ := HB5.out; obtain ⟨p0, p1, p2, p3, pf, pl⟩ := HX5.out; obtain ⟨q0, q1, q2, q3, qf, ql⟩ := HY5.out)
      | (go_at_call 14; refine (live_any _).mono ?_; rintro e w6 ⟨rfl, hb6⟩; have HB6 := Lib.hid (HB5.out.below hb6); have HX6 := Lib.hid (HX5.out.below hb6); have HY6 := Lib.hid (HY5.out.below hb6); have A6 := Lib.hid (bgo A5.out hb6); clear k0 k1 k2 k3 kf kl p0 p1 p2 p3 pf pl q0 q1 q2 q3 qf ql; obtain ⟨k0, k1, k2, k3, kf, kl⟩ := HB6.out; obtain ⟨p0, p1, p2, p3, pf, pl⟩ := HX6.out; obtain ⟨q0, q1, q2, q3, qf, ql⟩ := HY6.out))
  all_goals go_wp2
  all_goals go_ret
  all_goals exact ⟨rfl, A6.out⟩


set_option maxRecDepth 100000 in
theorem lifted (os : Os) (started : os.Started) (H : Type) (enc : TypeId × Value → H) :
    ReturnsInHanded {} Try.checked os 3 .any (Rows.ratesNewsSpec.pre6 enc Try.prog Try.f3 Rows.ratesNewsRow.domain false) (Rows.ratesNewsSpec.post enc Try.prog Try.f3 false true false false) := by
  refine returnsInHanded_of_change (C := Try.checked) own started (by kernel_rfl) Try.func3
    (ChangeSpec.witness6 (enc := enc) (C := Try.checked) false ⟨#[], #[.int .i64 0, .int .i64 0, .agg #[.int .i64 0, .int .i64 0, .int .i64 0, .int .i64 0]], []⟩ 8 (by kernel_rfl) (by kernel_rfl) (by kernel_rfl) (by kernel_rfl)) ?_
  intro W base args ds gs before hval0 hW hcnd _
  have hval : ∀ (j : Nat) t v, Try.f3.params[j]? = some t → args[j]? = some v → Value.okWide Try.prog W .any base t v := hval0
  have hW' := hW
  obtain ⟨p, q, hA0, hV, rfl, hfz, hnd⟩ := hW
  have hA : DataW.TrodAll enc Try.prog W 0 (fun _ => true) true Try.f3.params.toList args.toList ds p := hA0
  rw [Try.params3] at hA hval
  obtain ⟨v0, vs0, d0, ds0, p0, q0, hargs, rfl, rfl, h0, r0⟩ := trodAll_cons hA
  obtain ⟨v1, vs1, d1, ds1, p1, q1, rfl, rfl, rfl, h1, r1⟩ := trodAll_cons r0
  obtain ⟨v2, vs2, d2, ds2, p2, q2, rfl, rfl, rfl, h2, r2⟩ := trodAll_cons r1
  obtain ⟨rfl, rfl, rfl⟩ := trodAll_nil r2
  obtain rfl : args = #[v0, v1, v2] := by cases args; simp_all
  obtain ⟨rfl, rfl⟩ := trodVars_none hV
  obtain ⟨x0, rfl, rfl, rfl, w0⟩ := open_int Try.underlying3 (hval 0 3 v0 rfl rfl) h0
  obtain ⟨x1, rfl, rfl, rfl, w1⟩ := open_int Try.underlying3 (hval 1 3 v1 rfl rfl) h1
  have k2 := h2
  have lt2 : ∀ x ∈ p2, x.block < W.heap.size := by obtain ⟨m, hm⟩ := k2; exact DataW.trod_lt m _ _ _ hm
  obtain ⟨c0, c1, c2, c3, y0, y1, y2, y3, m, rfl, hd0, hp0, hy0, hy1, hy2, hy3⟩ := open_agg4 Try.underlying23 (by kernel_rfl) cells23 (hval 2 23 v2 rfl rfl) h2
  obtain ⟨L, e0, _, _⟩ := DataW.trod_int Try.underlying3 hy0
  obtain ⟨A, e1, _, _⟩ := DataW.trod_int Try.underlying3 hy1
  obtain ⟨M, e2, _, _⟩ := DataW.trod_int Try.underlying3 hy2
  obtain ⟨E, e3, _, _⟩ := DataW.trod_int Try.underlying3 hy3
  simp only [List.cons.injEq, and_true] at e0 e1 e2 e3
  subst e0 e1 e2 e3
  clear hA0 hval0
  refine (walk x0 (bounds_i64 w0) x1 (bounds_i64 w1) L A M E W).mono fun e W' ⟨he, bel⟩ => ?_
  subst he
  exact ⟨_, rfl, _, _, _, [], _, [], hW', trodAll_mk1 (shut_bool Try.underlying4 _), (trodAll_cons_mk (shut_int Try.underlying3 w0) (trodAll_cons_mk (shut_int Try.underlying3 w1) (trodAll_cons_mk (Below.trod laidOut (by kernel_rfl) (of_decide_eq_true (by kernel_rfl)) k2 bel lt2) trodAll_mk0))), rfl, bel.frame _, fun h => by cases h⟩

theorem over : Rows.ratesNewsRow.holds Try.pinned (OpenSpec.ofChange Rows.ratesNewsSpec) :=
  OpenClaim.holds_of_wide 3 Try.f3 rfl rfl rfl rfl rfl rfl rfl ⟨rfl, rfl, rfl, rfl, rfl⟩ rfl rfl rfl rfl rfl (by kernel_rfl) Try.func3 (by kernel_rfl)
    (of_decide_eq_true (by kernel_rfl)) (by unfold Func.isWrapper; first | (rw [if_pos (by decide +kernel)]; kernel_rfl) | (rw [if_neg (by decide +kernel)]; exact ⟨rfl, rfl⟩))
    (fun os started H enc _ => lifted os started H enc)

theorem proved : Rows.RatesNewsSaid := over
#print axioms proved
end Go.Proofs.Ytcnbeflfndfndaa.ratesNews
