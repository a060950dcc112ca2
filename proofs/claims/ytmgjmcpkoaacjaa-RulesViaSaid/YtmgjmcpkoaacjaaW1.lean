/- Join, Knock: their contracts, for all numbers. -/
import Derived.Test.YtmgjmcpkoaacjaaRows
import Derived.WalkKit
import Derived.WalkSpells
import Derived.WalkLawsBesides
import Derived.Lib.Hide
namespace Go.Proofs.Ytmgjmcpkoaacjaa
open Go.RowKit
set_option linter.unusedVariables false

/-- May one of membership `now` join under the rule? -/
def mayJoin (r n : Int) : Int := if n = 3 then 0 else if r = 1 then 0 else if (r = 0 ∨ r = 2 ∨ r = 3) ∧ n = 1 then 0 else 21
def mayKnock (r n : Int) : Int := if r = 2 ∧ (n = 0 ∨ n = 2) then 0 else 21

theorem join_any (r n : Int) (w : World) : Calls Try.prog 12 #[.int .i64 r, .int .i64 n] w fun e w' => e = .returned (.int .i64 (mayJoin r n)) ∧ w = w' := by
  have run : ∀ v, v = mayJoin r n → Calls Try.prog 12 #[.int .i64 r, .int .i64 n] w (fun e w' => e = .returned (.int .i64 v) ∧ w = w') → Calls Try.prog 12 #[.int .i64 r, .int .i64 n] w fun e w' => e = .returned (.int .i64 (mayJoin r n)) ∧ w = w' := by
    intro v hv h; rw [← hv]; exact h
  by_cases h3 : n = 3
  · subst h3
    refine run 0 (by simp [mayJoin]) ?_
    go_enter Try.func12, Try.ntmps12
    go_wp2
    go_ret
    exact ⟨rfl, rfl⟩
  have e3 : (n == 3) = false := by simpa using h3
  by_cases r1 : r = 1
  · subst r1
    refine run 0 (by simp [mayJoin, h3]) ?_
    go_enter Try.func12, Try.ntmps12
    go_wp2
    go_ret
    exact ⟨rfl, rfl⟩
  by_cases r2 : r = 2
  · subst r2
    by_cases n1 : n = 1
    · subst n1
      refine run 0 (by simp [mayJoin]) ?_
      go_enter Try.func12, Try.ntmps12
      go_wp2
      go_ret
      exact ⟨rfl, rfl⟩
    · refine run 21 (by simp [mayJoin, h3, n1]) ?_
      go_enter Try.func12, Try.ntmps12
      go_wp2
      go_ret
      exact ⟨rfl, rfl⟩
  by_cases r3 : r = 3
  · subst r3
    by_cases n1 : n = 1
    · subst n1
      refine run 0 (by simp [mayJoin]) ?_
      go_enter Try.func12, Try.ntmps12
      go_wp2
      go_ret
      exact ⟨rfl, rfl⟩
    · refine run 21 (by simp [mayJoin, h3, n1]) ?_
      go_enter Try.func12, Try.ntmps12
      go_wp2
      go_ret
      exact ⟨rfl, rfl⟩
  by_cases r0 : r = 0
  · subst r0
    by_cases n1 : n = 1
    · subst n1
      refine run 0 (by simp [mayJoin]) ?_
      go_enter Try.func12, Try.ntmps12
      go_wp2
      go_ret
      exact ⟨rfl, rfl⟩
    · refine run 21 (by simp [mayJoin, h3, n1]) ?_
      go_enter Try.func12, Try.ntmps12
      go_wp2
      go_ret
      exact ⟨rfl, rfl⟩
  refine run 21 (by simp [mayJoin, h3, r0, r1, r2, r3]) ?_
  have q0 : (r == 0) = false := by simpa using r0
  have q1 : (r == 1) = false := by simpa using r1
  have q2 : (r == 2) = false := by simpa using r2
  have q3 : (r == 3) = false := by simpa using r3
  go_enter Try.func12, Try.ntmps12
  go_wp2
  all_goals (go_ret; exact ⟨rfl, rfl⟩)

theorem joinR_any (r n : Int) (w : World) : Calls Try.prog 13 #[.int .i64 r, .int .i64 n] w fun e w' => e = .returned (.int .i64 (mayJoin r n)) ∧ w = w' := by
  have run : ∀ v, v = mayJoin r n → Calls Try.prog 13 #[.int .i64 r, .int .i64 n] w (fun e w' => e = .returned (.int .i64 v) ∧ w = w') → Calls Try.prog 13 #[.int .i64 r, .int .i64 n] w fun e w' => e = .returned (.int .i64 (mayJoin r n)) ∧ w = w' := by
    intro v hv h; rw [← hv]; exact h
  by_cases h3 : n = 3
  · subst h3
    refine run 0 (by simp [mayJoin]) ?_
    go_enter Try.func13, Try.ntmps13
    go_wp2
    go_ret
    exact ⟨rfl, rfl⟩
  have e3 : (n == 3) = false := by simpa using h3
  by_cases r1 : r = 1
  · subst r1
    refine run 0 (by simp [mayJoin, h3]) ?_
    go_enter Try.func13, Try.ntmps13
    go_wp2
    go_ret
    exact ⟨rfl, rfl⟩
  by_cases r2 : r = 2
  · subst r2
    by_cases n1 : n = 1
    · subst n1
      refine run 0 (by simp [mayJoin]) ?_
      go_enter Try.func13, Try.ntmps13
      go_wp2
      go_ret
      exact ⟨rfl, rfl⟩
    · refine run 21 (by simp [mayJoin, h3, n1]) ?_
      go_enter Try.func13, Try.ntmps13
      go_wp2
      go_ret
      exact ⟨rfl, rfl⟩
  by_cases r3 : r = 3
  · subst r3
    by_cases n1 : n = 1
    · subst n1
      refine run 0 (by simp [mayJoin]) ?_
      go_enter Try.func13, Try.ntmps13
      go_wp2
      go_ret
      exact ⟨rfl, rfl⟩
    · refine run 21 (by simp [mayJoin, h3, n1]) ?_
      go_enter Try.func13, Try.ntmps13
      go_wp2
      go_ret
      exact ⟨rfl, rfl⟩
  by_cases r0 : r = 0
  · subst r0
    by_cases n1 : n = 1
    · subst n1
      refine run 0 (by simp [mayJoin]) ?_
      go_enter Try.func13, Try.ntmps13
      go_wp2
      go_ret
      exact ⟨rfl, rfl⟩
    · refine run 21 (by simp [mayJoin, h3, n1]) ?_
      go_enter Try.func13, Try.ntmps13
      go_wp2
      go_ret
      exact ⟨rfl, rfl⟩
  refine run 21 (by simp [mayJoin, h3, r0, r1, r2, r3]) ?_
  have q0 : (r == 0) = false := by simpa using r0
  have q1 : (r == 1) = false := by simpa using r1
  have q2 : (r == 2) = false := by simpa using r2
  have q3 : (r == 3) = false := by simpa using r3
  go_enter Try.func13, Try.ntmps13
  go_wp2
  all_goals (go_ret; exact ⟨rfl, rfl⟩)

theorem knock_any (r n : Int) (w : World) : Calls Try.prog 14 #[.int .i64 r, .int .i64 n] w fun e w' => e = .returned (.int .i64 (mayKnock r n)) ∧ w = w' := by
  have run : ∀ v, v = mayKnock r n → Calls Try.prog 14 #[.int .i64 r, .int .i64 n] w (fun e w' => e = .returned (.int .i64 v) ∧ w = w') → Calls Try.prog 14 #[.int .i64 r, .int .i64 n] w fun e w' => e = .returned (.int .i64 (mayKnock r n)) ∧ w = w' := by
    intro v hv h; rw [← hv]; exact h
  by_cases r2 : r = 2
  · subst r2
    by_cases n0 : n = 0
    · subst n0
      refine run 0 (by simp [mayKnock]) ?_
      go_enter Try.func14, Try.ntmps14
      go_wp2
      go_ret
      exact ⟨rfl, rfl⟩
    by_cases n2 : n = 2
    · subst n2
      refine run 0 (by simp [mayKnock]) ?_
      go_enter Try.func14, Try.ntmps14
      go_wp2
      go_ret
      exact ⟨rfl, rfl⟩
    refine run 21 (by simp [mayKnock, n0, n2]) ?_
    have q0 : (n == 0) = false := by simpa using n0
    have q2 : (n == 2) = false := by simpa using n2
    go_enter Try.func14, Try.ntmps14
    go_wp2
    go_ret
    exact ⟨rfl, rfl⟩
  refine run 21 (by simp [mayKnock, r2]) ?_
  go_enter Try.func14, Try.ntmps14
  go_wp2
  all_goals (go_ret; exact ⟨rfl, rfl⟩)

theorem knockR_any (r n : Int) (w : World) : Calls Try.prog 15 #[.int .i64 r, .int .i64 n] w fun e w' => e = .returned (.int .i64 (mayKnock r n)) ∧ w = w' := by
  have run : ∀ v, v = mayKnock r n → Calls Try.prog 15 #[.int .i64 r, .int .i64 n] w (fun e w' => e = .returned (.int .i64 v) ∧ w = w') → Calls Try.prog 15 #[.int .i64 r, .int .i64 n] w fun e w' => e = .returned (.int .i64 (mayKnock r n)) ∧ w = w' := by
    intro v hv h; rw [← hv]; exact h
  by_cases r2 : r = 2
  · subst r2
    by_cases n0 : n = 0
    · subst n0
      refine run 0 (by simp [mayKnock]) ?_
      go_enter Try.func15, Try.ntmps15
      go_wp2
      go_ret
      exact ⟨rfl, rfl⟩
    by_cases n2 : n = 2
    · subst n2
      refine run 0 (by simp [mayKnock]) ?_
      go_enter Try.func15, Try.ntmps15
      go_wp2
      go_ret
      exact ⟨rfl, rfl⟩
    refine run 21 (by simp [mayKnock, n0, n2]) ?_
    have q0 : (n == 0) = false := by simpa using n0
    have q2 : (n == 2) = false := by simpa using n2
    go_enter Try.func15, Try.ntmps15
    go_wp2
    go_ret
    exact ⟨rfl, rfl⟩
  refine run 21 (by simp [mayKnock, r2]) ?_
  go_enter Try.func15, Try.ntmps15
  go_wp2
  all_goals (go_ret; exact ⟨rfl, rfl⟩)

end Go.Proofs.Ytmgjmcpkoaacjaa
