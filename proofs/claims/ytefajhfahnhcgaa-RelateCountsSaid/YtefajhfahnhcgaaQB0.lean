/- Endings that differ by a known equation; the cell of a new block. No condition. -/
import Derived.RowKit
import Derived.Lib.Hide
namespace Go.Proofs.Ytefajhfahnhcgaa
open Go.RowKit
theorem ret_bool {a b : Bool} (h : a = b) : Ending.returned (.bool a) = .returned (.bool b) := by rw [h]
theorem ret_i64 {a b : Int} (h : a = b) : Ending.returned (.int .i64 a) = .returned (.int .i64 b) := by rw [h]
theorem newc (w : World) (v : Value) (t : TypeId) (f : Nat × Nat) (b : Nat) (h : b = w.heap.size) : (w.alloc (.cells #[v] t f)).cell? ⟨b, 0, none⟩ = some v := by
  subst h
  rw [cell_of_row _ _ _ _ _ _ (heap_alloc_new w _)]
  rfl
end Go.Proofs.Ytefajhfahnhcgaa
