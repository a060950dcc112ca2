/- The helper `lives` of the sums' statements returns true in every world. No condition. -/
import Derived.Test.YtifoenmgbaikcaaWalks5
import Derived.Lib.SlBytesConst
namespace Go.Proofs.Ytifoenmgbaikcaa
open Go.RowKit
set_option linter.unusedVariables false

def lit258 : ByteArray := ⟨#[48, 48, 48, 48, 48, 48, 48, 48, 48, 48, 48, 48, 48, 49, 48, 50]⟩
theorem bys258 : bys ⟨#[48, 48, 48, 48, 48, 48, 48, 48, 48, 48, 48, 48, 48, 49, 48, 50]⟩ = [48, 48, 48, 48, 48, 48, 48, 48, 48, 48, 48, 48, 48, 49, 48, 50] := by decide +kernel
theorem lo258 : M.lo (M.poly [48, 48, 48, 48, 48, 48, 48, 48, 48, 48, 48, 48, 48, 49, 48, 50]) = 258 := by decide +kernel
theorem dgl258 : M.dgl 258 = [48, 48, 48, 48, 48, 48, 48, 48, 48, 48, 48, 48, 48, 49, 48, 50] := by decide +kernel
theorem lo258' : M.lo 258 = 258 := by decide +kernel
theorem unh258 : unh ⟨#[48, 48, 48, 48, 48, 48, 48, 48, 48, 48, 48, 48, 48, 49, 48, 50]⟩ = .tuple #[.int .i64 258, .bool true] := by
  unfold unh
  rw [bys258, lo258, dgl258, if_pos rfl]
  rfl
theorem hex258 : M.hex (M.lo 258) = ⟨#[48, 48, 48, 48, 48, 48, 48, 48, 48, 48, 48, 48, 48, 49, 48, 50]⟩ := by
  rw [lo258']; unfold M.hex; rw [dgl258]; rfl
theorem fold97 : M.fold (M.lo 860922984064492325) [97] = 3414815163700866188 := by decide +kernel

theorem one_byte (w : World) (b : Nat) (z : Int) (h0 : 0 ≤ z) (h1 : z ≤ 255) (hlt : b < w.heap.size) (hc : w.cell? ⟨b, 0, none⟩ = some (.int .u8 z)) : Byt w (some ⟨b, 0, none⟩) 1 [z] := by
  refine ⟨rfl, fun y hy => ?_, by omega, fun _ => ⟨b, 0, rfl, hlt, fun i hi => ?_⟩⟩
  · simp at hy; omega
  · obtain rfl : i = 0 := by omega
    exact hc

theorem unhex258 (w : World) : Calls Try.prog 16 #[.string ⟨#[48, 48, 48, 48, 48, 48, 48, 48, 48, 48, 48, 48, 48, 49, 48, 50]⟩] w fun e w' => e = .returned (.tuple #[.int .i64 258, .bool true]) ∧ Below w.heap.size w w' := by
  refine (unhex_yes _ rfl w).mono fun e w' ⟨he, hb⟩ => ⟨?_, hb⟩
  rw [he, unh258]
theorem hexof258 (w : World) : Calls Try.prog 15 #[.int .i64 258] w fun e w' => e = .returned (.string ⟨#[48, 48, 48, 48, 48, 48, 48, 48, 48, 48, 48, 48, 48, 49, 48, 50]⟩) ∧ Below w.heap.size w w' := by
  refine (hex_any 258 w).mono fun e w' ⟨he, hb⟩ => ⟨?_, hb⟩
  rw [he, hex258]
theorem sum97 (w : World) (b : Nat) (hlt : b < w.heap.size) (hc : w.cell? ⟨b, 0, none⟩ = some (.int .u8 97)) (c : Nat) : Calls Try.prog 12 #[.slice (some ⟨b, 0, none⟩) 1 c] w fun e w' => e = .returned (.int .i64 3414815163700866188) ∧ w = w' := by
  refine (sum_any _ 1 c [97] w (one_byte w b 97 (by omega) (by omega) hlt hc)).mono fun e w' ⟨he, hb⟩ => ⟨?_, hb⟩
  rw [he, fold97]; rfl
theorem foldstart97 (w : World) (b : Nat) (hlt : b < w.heap.size) (hc : w.cell? ⟨b, 0, none⟩ = some (.int .u8 97)) (c : Nat) : Calls Try.prog 10 #[.int .i64 860922984064492325, .slice (some ⟨b, 0, none⟩) 1 c] w fun e w' => e = .returned (.int .i64 3414815163700866188) ∧ w = w' := by
  refine (fold_any _ _ 1 c [97] w (one_byte w b 97 (by omega) (by omega) hlt hc)).mono fun e w' ⟨he, hb⟩ => ⟨?_, hb⟩
  rw [he, fold97]; rfl

theorem newc (w : World) (v : Value) (t : TypeId) (f : Nat × Nat) (b : Nat) (h : b = w.heap.size) : (w.alloc (.cells #[v] t f)).cell? ⟨b, 0, none⟩ = some v := by
  subst h
  have := cell_of_row (w.alloc (.cells #[v] t f)) w.heap.size 0 #[v] t f (heap_alloc_new w _)
  simpa using this
theorem start_any (w : World) : Calls Try.prog 19 #[] w fun e w' => e = .returned (.int .i64 860922984064492325) ∧ w = w' := by
  go_enter Try.func19, Try.ntmps19
  go_wp2
  go_ret
  exact ⟨rfl, rfl⟩

set_option maxHeartbeats 400000 in
theorem lives_any (w : World) : Calls Try.prog 9 #[] w fun e w' => e = .returned (.bool true) ∧ Below w.heap.size w w' := by
  have kc := fun (w : World) (C : Array Value) (n c : Nat) => Lib.run_convert_bytes_const (P := Try.prog) w 22 5 C n c Try.underlying22 Try.underlying5
  have kc2 : ∀ (w : World) (O : Obj) (C : Array Value) (n c : Nat), (convert 22 22 (.slice (some ⟨w.heap.size + 1, 0, none⟩) n c)).run Try.prog ((w.alloc O).alloc (.cells C 5)) = .ok (.slice (some ⟨w.heap.size + 1, 0, none⟩) n c) ((w.alloc O).alloc (.cells C 5 (C.size, C.size + 1))) := by
    intro w O C n c
    have h := kc (w.alloc O) C n c
    have e : (w.alloc O).heap.size = w.heap.size + 1 := by simp
    rw [e] at h
    exact h
  go_enter Try.func9, Try.ntmps9
  go_wp2_with (first
    | (go_at_call 16; refine (unhex258 _).mono ?_; rintro e w1 ⟨rfl, hb1⟩)
    | (go_at_call 12; refine (sum97 _ _ (by simp) (newc _ _ _ _ _ (by simp)) _).mono ?_; rintro e w' ⟨rfl, rfl⟩)
    | (go_at_call 10; refine (foldstart97 _ _ (by simp) (newc _ _ _ _ _ (by simp)) _).mono ?_; rintro e w' ⟨rfl, rfl⟩)
    | (go_at_call 15; refine (hexof258 _).mono ?_; rintro e w2 ⟨rfl, hb2⟩)
    | (go_at_call 19; refine (start_any _).mono ?_; rintro e w' ⟨rfl, rfl⟩))
  go_ret
  exact ⟨rfl, (((hb1.alloc hb1.size _).alloc (by have := hb1.size; simp; omega) _).trans (hb2.mono (by have := hb1.size; simp; omega)))⟩
end Go.Proofs.Ytifoenmgbaikcaa
