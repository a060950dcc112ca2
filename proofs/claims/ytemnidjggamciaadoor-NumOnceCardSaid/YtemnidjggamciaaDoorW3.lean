/- The walks of num's texts: Text of the reference. -/
import Derived.Test.YtemnidjggamciaaDoorW2
namespace Go.Proofs.YtemnidjggamciaaDoor
open Go.RowKit
set_option linter.unusedVariables false

theorem newc (w : World) (v : Value) (t : TypeId) (f : Nat × Nat) (b : Nat) (h : b = w.heap.size) : (w.alloc (.cells #[v] t f)).cell? ⟨b, 0, none⟩ = some v := by
  subst h
  rw [cell_of_row _ _ _ _ _ _ (heap_alloc_new w _)]
  rfl
theorem conv_one (c : Int) (w1 : World) : (convert 42 9 (.slice (some ⟨w1.heap.size, 0, none⟩) 1 1)).run Tryd.prog (w1.alloc (.cells #[.int .u8 c] 5)) = .ok (.string (strOfNums [c])) (w1.alloc (.cells #[.int .u8 c] 5)) := by
  refine run_convert_bytes_arg _ 42 5 Tryd.underlying42 Tryd.underlying5 w1.heap.size 0 1 1 [c] rfl (fun i hi => ?_) 9 Tryd.underlying9
  obtain rfl : i = 0 := by omega
  exact newc _ _ _ _ _ rfl
/-- What has been read of the digits of m, and what is left of it. -/
structure Left (m r : Nat) (l : List Int) : Prop where
  all : r = 0 → l = M.dgs m
  more : r ≠ 0 → M.dgs r ++ l = M.dgs m
  len : l.length ≤ 20
theorem Left.start {m : Nat} (hm : m ≤ 18446744073709551615) : Left m (m / 10) [48 + (m : Int) % 10] := by
  refine ⟨fun h => ?_, fun h => ?_, by simp⟩
  · rw [M.dgs_small (by omega)]; congr 2; omega
  · rw [M.dgs_big (n := m) (by omega)]; simp
theorem Left.step {m r : Nat} {l : List Int} (hm : m ≤ 18446744073709551615) (hr : r ≠ 0) (h : Left m r l) : Left m (r / 10) ((48 + (r : Int) % 10) :: l) := by
  have hl := h.more hr
  have hlen := M.dgs_len_le 19 m (by omega)
  rw [← hl, List.length_append] at hlen
  have hp := M.dgs_pos r
  refine ⟨fun h0 => ?_, fun h0 => ?_, by rw [List.length_cons]; omega⟩
  · rw [M.dgs_small (n := r) (by omega)] at hl; rw [← hl, List.singleton_append]; congr 2; omega
  · rw [M.dgs_big (n := r) (by omega)] at hl; rw [← hl, List.append_assoc]; simp
set_option maxHeartbeats 1600000 in
theorem rtext_p (m : Nat) (hm0 : 0 < m) (hm : m ≤ 9223372036854775807) (w : World) : Calls Tryd.prog 18 #[.int .i64 ((m : Int))] w fun e w' => e = .returned (.string (strOfNums (M.txt ((m : Int))))) ∧ Below w.heap.size w w' := by
  have hconv := conv_one
  have HT := Lib.hid (show M.txt ((m : Int)) = M.dgs m by unfold M.txt; rw [if_neg (by omega)]; rfl)
  have HS := Lib.hid (Left.start (m := m) (by omega))
  go_enter Tryd.func18, Tryd.ntmps18
  go_wp2
  go_loopw [3, 4] (fun s3 s4 wr => ∃ (r : Nat) (l : List Int), r ≤ m ∧ s3 = .int .i64 (-(r : Int)) ∧ s4 = .string (strOfNums l) ∧ Hid (Left m r l) ∧ Hid (Below w.heap.size w wr)) (fun s3 _ _ => (intOf s3).natAbs)
  case atStart => exact ⟨m / 10, _, by omega, by simp, rfl, HS, Lib.hid ((Below.refl _ w).alloc (Nat.le_refl _) _)⟩
  case round =>
    obtain ⟨r, l, hrm, rfl, rfl, HL, HB⟩ := hrel
    have hsz : (strOfNums l).size ≤ 20 := by rw [strOfNums_size]; exact HL.out.len
    by_cases hr : r = 0
    · have HD := Lib.hid (HL.out.all hr)
      subst hr
      go_wp2
      go_ret
      exact ⟨ret_str (by rw [HT.out, HD.out]), HB.out⟩
    · have HD := Lib.hid (HL.out.step (by omega) hr)
      have hr0 : 0 < r := by omega
      have hone : ∀ c : Int, (strOfNums [c]).size = 1 := fun c => by rw [strOfNums_size]; rfl
      go_wp2
      go_roundw
      case rel => exact ⟨r / 10, _, by omega, by simp, by rw [str_cons], HD, Lib.hid (HB.out.alloc HB.out.size _)⟩
      case measure => simp [intOf]; omega
set_option maxHeartbeats 1600000 in
theorem rtext_n (m : Nat) (hm0 : 0 < m) (hm : m ≤ 9223372036854775808) (w : World) : Calls Tryd.prog 18 #[.int .i64 (-(m : Int))] w fun e w' => e = .returned (.string (strOfNums (M.txt (-(m : Int))))) ∧ Below w.heap.size w w' := by
  have hconv := conv_one
  have HT := Lib.hid (show M.txt (-(m : Int)) = 45 :: M.dgs m by unfold M.txt; rw [if_pos (by omega)]; rw [show (-(m : Int)).natAbs = m by omega])
  have HS := Lib.hid (Left.start (m := m) (by omega))
  go_enter Tryd.func18, Tryd.ntmps18
  go_wp2
  go_loopw [3, 4] (fun s3 s4 wr => ∃ (r : Nat) (l : List Int), r ≤ m ∧ s3 = .int .i64 (-(r : Int)) ∧ s4 = .string (strOfNums l) ∧ Hid (Left m r l) ∧ Hid (Below w.heap.size w wr)) (fun s3 _ _ => (intOf s3).natAbs)
  case atStart => exact ⟨m / 10, _, by omega, by simp, rfl, HS, Lib.hid ((Below.refl _ w).alloc (Nat.le_refl _) _)⟩
  case round =>
    obtain ⟨r, l, hrm, rfl, rfl, HL, HB⟩ := hrel
    have hsz : (strOfNums l).size ≤ 20 := by rw [strOfNums_size]; exact HL.out.len
    by_cases hr : r = 0
    · have HD := Lib.hid (HL.out.all hr)
      subst hr
      go_wp2
      go_ret
      exact ⟨ret_str (by rw [HT.out, HD.out]; exact str_sign _), HB.out⟩
    · have HD := Lib.hid (HL.out.step (by omega) hr)
      have hr0 : 0 < r := by omega
      have hone : ∀ c : Int, (strOfNums [c]).size = 1 := fun c => by rw [strOfNums_size]; rfl
      go_wp2
      go_roundw
      case rel => exact ⟨r / 10, _, by omega, by simp, by rw [str_cons], HD, Lib.hid (HB.out.alloc HB.out.size _)⟩
      case measure => simp [intOf]; omega
theorem rtext_0 (w : World) : Calls Tryd.prog 18 #[.int .i64 0] w fun e w' => e = .returned (.string (strOfNums (M.txt 0))) ∧ Below w.heap.size w w' := by
  have hconv := conv_one
  have HT := Lib.hid (show M.txt 0 = [48] by unfold M.txt; rw [if_neg (by decide)]; exact M.dgs_small (by decide))
  go_enter Tryd.func18, Tryd.ntmps18
  go_wp2
  go_loopw [3, 4] (fun s3 s4 wr => s3 = .int .i64 0 ∧ s4 = .string (strOfNums [48]) ∧ Hid (Below w.heap.size w wr)) (fun s3 _ _ => (intOf s3).natAbs)
  case atStart => exact ⟨rfl, rfl, Lib.hid ((Below.refl _ w).alloc (Nat.le_refl _) _)⟩
  case round =>
    obtain ⟨rfl, rfl, HB⟩ := hrel
    go_wp2
    go_ret
    exact ⟨ret_str (by rw [HT.out]), HB.out⟩
theorem rtext_any (n : Int) (h0 : -9223372036854775808 ≤ n) (h1 : n ≤ 9223372036854775807) (w : World) : Calls Tryd.prog 18 #[.int .i64 n] w fun e w' => e = .returned (.string (strOfNums (M.txt n))) ∧ Below w.heap.size w w' := by
  rcases Int.lt_trichotomy n 0 with h | h | h
  · obtain ⟨m, rfl⟩ : ∃ m : Nat, n = -(m : Int) := ⟨n.natAbs, by omega⟩
    exact rtext_n m (by omega) (by omega) w
  · subst h; exact rtext_0 w
  · obtain ⟨m, rfl⟩ : ∃ m : Nat, n = (m : Int) := ⟨n.natAbs, by omega⟩
    exact rtext_p m (by omega) (by omega) w
end Go.Proofs.YtemnidjggamciaaDoor
