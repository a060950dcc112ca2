/- Small parts of the changes of levels: the numbers, what may change, whether there are too many. -/
import Derived.Test.YthhmbcelicfopaaN1
import Derived.Deep.RegionHeld3
import Derived.Deep.QuietTactic
import Derived.Deep.Cut
import Derived.Deep.CutRange
import Derived.WalkSmall
import Derived.BigQuiet
namespace Go.Proofs.Ythhmbcelicfopaa
open Go.RowKit
set_option linter.unusedVariables false

def isGreat (n m : Nat) : Bool := decide (60 < n) || decide (60 < m)
theorem great9 (uA : Option Addr) (n uC : Nat) (kA : Option Addr) (nK kC : Nat) (d x3 x4 x5 x6 x7 x8 : Int) (w : World) :
    Calls Try.prog 9 #[.agg (lvc uA n uC kA nK kC d x3 x4 x5 x6 x7 x8).toArray] w fun e w' => e = .returned (.bool (isGreat n nK)) ∧ Below w.heap.size w w' := by
  have HA := Lib.hid (Below.alloc (Below.refl w.heap.size w) (Nat.le_refl _) (.cells (lvc uA n uC kA nK kC d x3 x4 x5 x6 x7 x8).toArray 25))
  show Calls Try.prog 9 #[.agg #[.slice uA n uC, .slice kA nK kC, .int .i64 d, .int .i64 x3, .int .i64 x4, .int .i64 x5, .int .i64 x6, .int .i64 x7, .int .i64 x8]] w _
  by_cases h1 : 60 < n
  · rw [show isGreat n nK = true by unfold isGreat; simp [h1]]
    have d1 : decide ((60 : Int) < (n : Int)) = true := by simp; omega
    clear h1
    go_enter Try.func9, Try.ntmps9
    go_wp2
    go_ret
    exact ⟨rfl, HA.out⟩
  · have d1 : decide ((60 : Int) < (n : Int)) = false := by simp; omega
    by_cases h2 : 60 < nK
    · rw [show isGreat n nK = true by unfold isGreat; simp [h2]]
      have d2 : decide ((60 : Int) < (nK : Int)) = true := by simp; omega
      clear h1 h2
      go_enter Try.func9, Try.ntmps9
      go_wp2
      go_ret
      exact ⟨rfl, HA.out⟩
    · rw [show isGreat n nK = false by unfold isGreat; simp [h1, h2]]
      have d2 : decide ((60 : Int) < (nK : Int)) = false := by simp; omega
      clear h1 h2
      go_enter Try.func9, Try.ntmps9
      go_wp2
      go_ret
      exact ⟨rfl, HA.out⟩

abbrev nums (d x3 x4 x5 x6 x7 x8 : Int) : List Value := [.int .i64 d, .int .i64 x3, .int .i64 x4, .int .i64 x5, .int .i64 x6, .int .i64 x7, .int .i64 x8]
theorem size60 : (Try.prog.info? 60).map (·.size) = some 7 := by kernel_rfl
theorem alloc2_blk (w : World) (A : Obj) (cs : List Value) (T : TypeId) : Blk ((w.alloc A).alloc (.cells cs.toArray T)) (w.heap.size + 1) cs T := by
  have := blk_new (w.alloc A) cs T
  have e : (w.alloc A).heap.size = w.heap.size + 1 := by simp
  rw [e] at this
  exact this
theorem numbers29 (uA : Option Addr) (n uC : Nat) (kA : Option Addr) (nK kC : Nat) (d x3 x4 x5 x6 x7 x8 : Int) (w : World) :
    Calls Try.prog 29 #[.agg (lvc uA n uC kA nK kC d x3 x4 x5 x6 x7 x8).toArray] w fun e w' => e = .returned (.agg (nums d x3 x4 x5 x6 x7 x8).toArray) ∧ Below w.heap.size w w' := by
  have HA := Lib.hid ((Below.alloc (Below.refl w.heap.size w) (Nat.le_refl _) (.cells (lvc uA n uC kA nK kC d x3 x4 x5 x6 x7 x8).toArray 25)).alloc (by simp) (.cells (nums d x3 x4 x5 x6 x7 x8).toArray 60))
  have HB := Lib.hid (alloc2_blk w (.cells (lvc uA n uC kA nK kC d x3 x4 x5 x6 x7 x8).toArray 25) (nums d x3 x4 x5 x6 x7 x8) 60)
  show Calls Try.prog 29 #[.agg #[.slice uA n uC, .slice kA nK kC, .int .i64 d, .int .i64 x3, .int .i64 x4, .int .i64 x5, .int .i64 x6, .int .i64 x7, .int .i64 x8]] w _
  go_enter Try.func29, Try.ntmps29
  go_wp2
  (try simp only [Exit.inBlock, Exit.then])
  refine bodyPost_ret (results_cell_mid rfl _ _ (w.heap.size + 1) (nums d x3 x4 x5 x6 x7 x8) 60 _ rfl HB.out Try.underlying60 rfl size60) rfl ?_
  exact ⟨rfl, HA.out⟩
theorem numbers25 (uA : Option Addr) (n uC : Nat) (kA : Option Addr) (nK kC : Nat) (d x3 x4 x5 x6 x7 x8 : Int) (w : World) :
    Calls Try.prog 25 #[.agg (lvc uA n uC kA nK kC d x3 x4 x5 x6 x7 x8).toArray] w fun e w' => ∃ t, e = .returned (.slice (some ⟨t, 0, none⟩) 7 7) ∧ Blk w' t (nums d x3 x4 x5 x6 x7 x8) 3 ∧ w.heap.size ≤ t ∧ Below w.heap.size w w' := by
  have HA := Lib.hid ((Below.alloc (Below.refl w.heap.size w) (Nat.le_refl _) (.cells (lvc uA n uC kA nK kC d x3 x4 x5 x6 x7 x8).toArray 25)).alloc (by simp) (.cells (nums d x3 x4 x5 x6 x7 x8).toArray 3))
  have HB := Lib.hid (alloc2_blk w (.cells (lvc uA n uC kA nK kC d x3 x4 x5 x6 x7 x8).toArray 25) (nums d x3 x4 x5 x6 x7 x8) 3)
  show Calls Try.prog 25 #[.agg #[.slice uA n uC, .slice kA nK kC, .int .i64 d, .int .i64 x3, .int .i64 x4, .int .i64 x5, .int .i64 x6, .int .i64 x7, .int .i64 x8]] w _
  go_enter Try.func25, Try.ntmps25
  go_wp2
  go_ret
  exact ⟨_, rfl, HB.out, by omega, HA.out⟩

/-- May a number change so? -/
def mayN (was is own : Int) : Bool := (was == is) || (decide (was ≤ own) && decide (is ≤ own))
theorem may32 (was is own : Int) (w : World) : Calls Try.prog 32 #[.int .i64 was, .int .i64 is, .int .i64 own] w fun e w' => e = .returned (.bool (mayN was is own)) ∧ w = w' := by
  by_cases h1 : was = is
  · rw [show mayN was is own = true by unfold mayN; simp [h1]]
    have q1 : (was == is) = true := by simpa using h1
    clear h1
    go_enter Try.func32, Try.ntmps32
    go_wp2
    go_ret
    exact ⟨rfl, rfl⟩
  · have q1 : (was == is) = false := by simpa using h1
    by_cases h2 : was ≤ own
    · have d2 : decide (was ≤ own) = true := by simpa using h2
      by_cases h3 : is ≤ own
      · rw [show mayN was is own = true by unfold mayN; simp [h2, h3]]
        have d3 : decide (is ≤ own) = true := by simpa using h3
        clear h1 h2 h3
        go_enter Try.func32, Try.ntmps32
        go_wp2
        go_ret
        exact ⟨rfl, rfl⟩
      · rw [show mayN was is own = false by unfold mayN; simp [h1, h3]]
        have d3 : decide (is ≤ own) = false := by simpa using h3
        clear h1 h2 h3
        go_enter Try.func32, Try.ntmps32
        go_wp2
        go_ret
        exact ⟨rfl, rfl⟩
    · rw [show mayN was is own = false by unfold mayN; simp [h1, h2]]
      have d2 : decide (was ≤ own) = false := by simpa using h2
      clear h1 h2
      go_enter Try.func32, Try.ntmps32
      go_wp2
      go_ret
      exact ⟨rfl, rfl⟩
/-- The closure of Change: is a change above the own level, which lies in block `B`? -/
theorem above28 (was is own : Int) (B : Nat) (w : World) (hc : w.cell? ⟨B, 0, none⟩ = some (.int .i64 own)) :
    Calls Try.prog 28 (#[.int .i64 was, .int .i64 is] ++ #[.pointer (some ⟨B, 0, none⟩)]) w fun e w' => e = .returned (.bool (!mayN was is own)) ∧ w = w' := by
  show Calls Try.prog 28 #[.int .i64 was, .int .i64 is, .pointer (some ⟨B, 0, none⟩)] w _
  by_cases h1 : was = is
  · rw [show mayN was is own = true by unfold mayN; simp [h1]]
    have q1 : (was != is) = false := by simpa using h1
    clear h1
    go_enter Try.func28, Try.ntmps28
    go_wp2
    go_ret
    exact ⟨rfl, rfl⟩
  · have q1 : (was != is) = true := by simpa using h1
    by_cases h2 : was ≤ own
    · have d2 : decide (own < was) = false := by simp; omega
      by_cases h3 : is ≤ own
      · rw [show mayN was is own = true by unfold mayN; simp [h2, h3]]
        have d3 : decide (own < is) = false := by simp; omega
        clear h1 h2 h3
        go_enter Try.func28, Try.ntmps28
        go_wp2
        go_ret
        exact ⟨rfl, rfl⟩
      · rw [show mayN was is own = false by unfold mayN; simp [h1, h3]]
        have d3 : decide (own < is) = true := by simp; omega
        clear h1 h2 h3
        go_enter Try.func28, Try.ntmps28
        go_wp2
        go_ret
        exact ⟨rfl, rfl⟩
    · rw [show mayN was is own = false by unfold mayN; simp [h1, h2]]
      have d2 : decide (own < was) = true := by simp; omega
      clear h1 h2
      go_enter Try.func28, Try.ntmps28
      go_wp2
      go_ret
      exact ⟨rfl, rfl⟩

end Go.Proofs.Ythhmbcelicfopaa
