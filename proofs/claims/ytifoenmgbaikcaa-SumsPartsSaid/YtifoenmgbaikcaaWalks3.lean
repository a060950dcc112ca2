/- The walks of the sums' digits: what `Hex` returns. No condition. -/
import Derived.Test.YtifoenmgbaikcaaWalks2
import Derived.Laws.BytesArg
namespace Go.Proofs.Ytifoenmgbaikcaa
open Go.RowKit
set_option linter.unusedVariables false

def M.dgl (m : Nat) : List Int := [M.dg m 0, M.dg m 1, M.dg m 2, M.dg m 3, M.dg m 4, M.dg m 5, M.dg m 6, M.dg m 7, M.dg m 8, M.dg m 9, M.dg m 10, M.dg m 11, M.dg m 12, M.dg m 13, M.dg m 14, M.dg m 15]
/-- The text that Hex prints for the number m. -/
def M.hex (m : Nat) : ByteArray := strOfNums (M.dgl m)

theorem conv_digs (m : Nat) (w1 : World) : (convert 22 9 (.slice (some ⟨w1.heap.size, 0, none⟩) 16 16)).run Try.prog (w1.alloc (.cells (M.digs m) 38)) = .ok (.string (M.hex m)) (w1.alloc (.cells (M.digs m) 38)) := by
  refine run_convert_bytes_arg _ 22 5 Try.underlying22 Try.underlying5 w1.heap.size 0 16 16 (M.dgl m) rfl (fun i hi => ?_) 9 Try.underlying9
  rw [Nat.zero_add]
  have : ∀ i, i < 16 → (M.digs m)[i]? = some (.int .u8 ((M.dgl m).getD i 0)) := by
    intro i hi
    match i, hi with
    | 0, _ => rfl
    | 1, _ => rfl
    | 2, _ => rfl
    | 3, _ => rfl
    | 4, _ => rfl
    | 5, _ => rfl
    | 6, _ => rfl
    | 7, _ => rfl
    | 8, _ => rfl
    | 9, _ => rfl
    | 10, _ => rfl
    | 11, _ => rfl
    | 12, _ => rfl
    | 13, _ => rfl
    | 14, _ => rfl
    | 15, _ => rfl
    | n + 16, h => exact absurd h (by omega)
  rw [← this i hi]
  go_simp

set_option maxHeartbeats 400000 in
theorem hex_any (n : Int) (w : World) :
    Calls Try.prog 15 #[.int .i64 n] w fun e w' => e = .returned (.string (M.hex (M.lo n))) ∧ Below w.heap.size w w' := by
  have hconv := conv_digs (M.lo n)
  unfold M.digs at hconv
  go_enter Try.func15, Try.ntmps15
  go_wp2_with (go_at_call 21; refine (digitsOf_any _ _).mono ?_; unfold M.digs; rintro e w1 ⟨rfl, hb⟩)
  go_ret
  exact ⟨rfl, hb.alloc hb.size _⟩
end Go.Proofs.Ytifoenmgbaikcaa
