/- The walk of Make of the program, for every mark and all parts. -/
import Derived.Test.YtkcceobncjoodaaIU
import Derived.Laws.BytesArg
namespace Go.Proofs.Ytkcceobncjoodaa
open Go.RowKit
set_option linter.unusedVariables false

theorem conv_one (c : Int) (w1 : World) : (convert 73 9 (.slice (some ⟨w1.heap.size, 0, none⟩) 1 1)).run Try.prog (w1.alloc (.cells #[.int .u8 c] 5)) = .ok (.string (strOfNums [c])) (w1.alloc (.cells #[.int .u8 c] 5)) := by
  refine run_convert_bytes_arg _ 73 5 (by kernel_rfl) Try.underlying5 w1.heap.size 0 1 1 [c] rfl (fun i hi => ?_) 9 Try.underlying9
  obtain rfl : i = 0 := by omega
  have := cell_of_row (w1.alloc (.cells #[.int .u8 c] 5)) w1.heap.size 0 #[.int .u8 c] 5 (0, 0) (by simpa using heap_alloc_new w1 (.cells #[.int .u8 c] 5))
  simp
/-- A mark, two parts and a colon, as one text. -/
def mkS (m : Int) (a b : ByteArray) : ByteArray := strOfNums [m] ++ a ++ ⟨#[58]⟩ ++ b
def mkR (m : Int) (a b : ByteArray) : ByteArray := if anyB (mkS m a b) then mkS m a b else ⟨#[]⟩
theorem mkS_eq (m : Int) (a b : ByteArray) : strOfNums [m] ++ a ++ ⟨#[58]⟩ ++ b = mkS m a b := rfl
theorem bys_append (a b : ByteArray) : bys (a ++ b) = bys a ++ bys b := by
  unfold bys
  rw [ByteArray.data_append, Array.toList_append, List.map_append]
theorem mkS_bys {m : Int} (h0 : 0 ≤ m) (h1 : m ≤ 255) (a b : ByteArray) : bys (mkS m a b) = m :: (bys a ++ 58 :: bys b) := by
  unfold mkS
  rw [bys_append, bys_append, bys_append]
  have e : bys (strOfNums [m]) = [m] := by
    unfold bys strOfNums
    simp
    omega
  rw [e]
  simp [bys]
theorem mkS_size (m : Int) (a b : ByteArray) : (mkS m a b).size = a.size + b.size + 2 := by
  unfold mkS
  rw [ByteArray.size_append, ByteArray.size_append, ByteArray.size_append, strOfNums_size]
  show 1 + a.size + 1 + b.size = _
  omega
theorem mk_cases (m : Int) (a b : ByteArray) : (I.mkd 64 (bys (mkS m a b)) = true ∧ anyB (mkS m a b) = true ∧ mkR m a b = mkS m a b) ∨ (I.mkd 64 (bys (mkS m a b)) = false ∧ I.mkd 33 (bys (mkS m a b)) = true ∧ anyB (mkS m a b) = true ∧ mkR m a b = mkS m a b) ∨ (I.mkd 64 (bys (mkS m a b)) = false ∧ I.mkd 33 (bys (mkS m a b)) = false ∧ anyB (mkS m a b) = false ∧ mkR m a b = ⟨#[]⟩) := by
  unfold mkR anyB
  cases h1 : I.mkd 64 (bys (mkS m a b)) <;> cases h2 : I.mkd 33 (bys (mkS m a b)) <;> simp
set_option maxHeartbeats 800000 in
theorem make_any (m : Int) (a b : ByteArray) (ha : a.size ≤ 4611686018427387000) (hb : b.size ≤ 4611686018427387000) (w : World) :
    Calls Try.prog 27 #[.int .u8 m, .string a, .string b] w fun e w' => e = .returned (.tuple #[.string (mkR m a b), .int .i64 (err (anyB (mkS m a b)))]) ∧ Below w.heap.size w w' := by
  have hs : (mkS m a b).size ≤ 9223372036854775807 := by rw [mkS_size]; omega
  have hconv := conv_one m w
  have q0 : (strOfNums [m]).size = 1 := strOfNums_size _
  have q1 : ¬ 9223372036854775807 < 1 + a.size := by omega
  have q2 : ¬ 9223372036854775807 < 1 + a.size + 1 := by omega
  have q3 : ¬ 9223372036854775807 < 1 + a.size + 1 + b.size := by omega
  have hx := mkS_eq m a b
  have U := Lib.hid (user_any (mkS m a b) hs)
  have R := Lib.hid (room_any (mkS m a b) hs)
  rcases mk_cases m a b with ⟨h1, h2, h3⟩ | ⟨h1, h4, h2, h3⟩ | ⟨h1, h4, h2, h3⟩
  · rw [h2, h3, err_t]
    rw [h1, err_t] at U
    clear h1 h2 h3 R
    generalize mkS m a b = s at *
    go_enter Try.func27, Try.ntmps27
    go_wp2_with (go_at_call 32; refine (U.out _).mono ?_; rintro e w1 ⟨rfl, hb1⟩; have HB := Lib.hid hb1; clear hb1)
    go_ret2
    exact ⟨rfl, ((Below.refl _ _).alloc (Nat.le_refl _) _).trans (HB.out.mono (by simp))⟩
  · rw [h2, h3, err_t]
    rw [h1, err_f] at U
    rw [h4, err_t] at R
    clear h1 h2 h3 h4
    generalize mkS m a b = s at *
    go_enter Try.func27, Try.ntmps27
    go_wp2_with (first
      | (go_at_call 32; refine (U.out _).mono ?_; rintro e w1 ⟨rfl, hb1⟩; have HB := Lib.hid hb1; clear hb1)
      | (go_at_call 50; refine (R.out _).mono ?_; rintro e w2 ⟨rfl, hb2⟩; have HB2 := Lib.hid (HB.out.trans (hb2.mono HB.out.size)); clear hb2))
    go_ret2
    exact ⟨rfl, ((Below.refl _ _).alloc (Nat.le_refl _) _).trans (HB2.out.mono (by simp))⟩
  · rw [h2, h3, err_f]
    rw [h1, err_f] at U
    rw [h4, err_f] at R
    clear h1 h2 h3 h4
    generalize mkS m a b = s at *
    go_enter Try.func27, Try.ntmps27
    go_wp2_with (first
      | (go_at_call 32; refine (U.out _).mono ?_; rintro e w1 ⟨rfl, hb1⟩; have HB := Lib.hid hb1; clear hb1)
      | (go_at_call 50; refine (R.out _).mono ?_; rintro e w2 ⟨rfl, hb2⟩; have HB2 := Lib.hid (HB.out.trans (hb2.mono HB.out.size)); clear hb2))
    go_ret2
    exact ⟨rfl, ((Below.refl _ _).alloc (Nat.le_refl _) _).trans (HB2.out.mono (by simp))⟩
end Go.Proofs.Ytkcceobncjoodaa
