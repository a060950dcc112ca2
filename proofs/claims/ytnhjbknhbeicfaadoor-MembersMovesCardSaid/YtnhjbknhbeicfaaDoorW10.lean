/- The reference's Move agrees. No condition. -/
import Derived.Test.YtnhjbknhbeicfaaDoorW9
namespace Go.Proofs.YtnhjbknhbeicfaaDoor
open Go.RowKit
set_option linter.unusedVariables false
set_option linter.unusedSimpArgs false

set_option maxRecDepth 100000 in
set_option maxHeartbeats 16000000 in
theorem rmove19 (f t : Int) (s : Bool) (w : World) : Calls Tryd.prog 19 #[.int .i64 f, .int .i64 t, .bool s] w fun e w' => e = .returned (.bool (mv f t s)) ∧ w = w' := by
  by_cases f1 : f < 0
  · have HE := Lib.hid (mv_out (f := f) (t := t) s (.inl f1))
    go_enter Tryd.func19, Tryd.ntmps19
    go_wp2
    go_ret
    exact ⟨ret_bool HE.out.symm, rfl⟩
  by_cases f2 : 4 < f
  · have HE := Lib.hid (mv_out (f := f) (t := t) s (.inr (.inl f2)))
    go_enter Tryd.func19, Tryd.ntmps19
    go_wp2
    go_ret
    exact ⟨ret_bool HE.out.symm, rfl⟩
  by_cases ht : t < 0 ∨ 4 < t
  · have HE := Lib.hid (mv_out (f := f) (t := t) s (.inr (.inr ht)))
    have q0 : (t == 0) = false := beq_eq_false_iff_ne.2 (by omega)
    have q1 : (t == 1) = false := beq_eq_false_iff_ne.2 (by omega)
    have q2 : (t == 2) = false := beq_eq_false_iff_ne.2 (by omega)
    have q3 : (t == 3) = false := beq_eq_false_iff_ne.2 (by omega)
    have q4 : (t == 4) = false := beq_eq_false_iff_ne.2 (by omega)
    clear ht
    go_enter Tryd.func19, Tryd.ntmps19
    go_wp2
    go_ret
    exact ⟨ret_bool HE.out.symm, rfl⟩
  have hf : f = 0 ∨ f = 1 ∨ f = 2 ∨ f = 3 ∨ f = 4 := by omega
  have htt : t = 0 ∨ t = 1 ∨ t = 2 ∨ t = 3 ∨ t = 4 := by omega
  clear f1 f2 ht
  rcases htt with rfl | rfl | rfl | rfl | rfl <;> rcases hf with rfl | rfl | rfl | rfl | rfl <;> cases s
  all_goals
    go_enter Tryd.func19, Tryd.ntmps19
    go_wp2
    go_ret
    exact ⟨rfl, rfl⟩
end Go.Proofs.YtnhjbknhbeicfaaDoor
