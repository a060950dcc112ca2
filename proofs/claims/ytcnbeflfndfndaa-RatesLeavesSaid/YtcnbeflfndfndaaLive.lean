/- The helper `live` of the rate limits' statements returns true in every world. No condition. -/
import Derived.Test.YtcnbeflfndfndaaW7
namespace Go.Proofs.Ytcnbeflfndfndaa
open Go.RowKit
set_option linter.unusedVariables false

theorem v_new : nw 3 10 = .tuple #[bk 3 0 3 10, .int .i64 0] := by kernel_rfl
theorem v_take1 : tk 3 0 3 10 0 3 = .tuple #[bk 0 0 3 10, .int .i64 0] := by kernel_rfl
theorem v_take2 : tk 0 0 3 10 15 1 = .tuple #[bk 0 10 3 10, .int .i64 0] := by kernel_rfl
theorem v_take3 : tk 0 0 3 10 12 2 = .tuple #[bk 0 0 0 0, .int .i64 25] := by kernel_rfl
theorem v_take4 : tk 0 0 3 10 12 0 = .tuple #[bk 0 0 0 0, .int .i64 2] := by kernel_rfl
theorem v_left1 : lef 0 0 3 10 9 = 0 := by kernel_rfl
theorem v_left2 : lef 0 0 3 10 10 = 1 := by kernel_rfl
theorem v_left3 : lef 0 0 3 10 35 = 3 := by kernel_rfl
theorem v_left4 : lef 0 0 3 10 1000 = 3 := by kernel_rfl
theorem v_left5 : lef 0 10 3 10 20 = 1 := by kernel_rfl
theorem v_wait1 : wt 0 0 3 10 0 2 = 20 := by kernel_rfl
theorem v_wait2 : wt 0 0 3 10 0 4 = -1 := by kernel_rfl
theorem v_check : chk 0 0 0 0 = 2 := by kernel_rfl

theorem l_new (w : World) : Calls Try.prog 10 #[.int .i64 3, .int .i64 10] w fun e w' => e = .returned (.tuple #[bk 3 0 3 10, .int .i64 0]) ∧ Below w.heap.size w w' :=
  (new_any 3 10 w).mono fun e w' ⟨he, hb⟩ => ⟨by rw [he, v_new], hb⟩
theorem l_take1 (w : World) : Calls Try.prog 15 #[bk 3 0 3 10, .int .i64 0, .int .i64 3] w fun e w' => e = .returned (.tuple #[bk 0 0 3 10, .int .i64 0]) ∧ Below w.heap.size w w' :=
  (take_any 3 0 3 10 0 3 w).mono fun e w' ⟨he, hb⟩ => ⟨by rw [he, v_take1], hb⟩
theorem l_take2 (w : World) : Calls Try.prog 15 #[bk 0 0 3 10, .int .i64 15, .int .i64 1] w fun e w' => e = .returned (.tuple #[bk 0 10 3 10, .int .i64 0]) ∧ Below w.heap.size w w' :=
  (take_any 0 0 3 10 15 1 w).mono fun e w' ⟨he, hb⟩ => ⟨by rw [he, v_take2], hb⟩
theorem l_take3 (w : World) : Calls Try.prog 15 #[bk 0 0 3 10, .int .i64 12, .int .i64 2] w fun e w' => e = .returned (.tuple #[bk 0 0 0 0, .int .i64 25]) ∧ Below w.heap.size w w' :=
  (take_any 0 0 3 10 12 2 w).mono fun e w' ⟨he, hb⟩ => ⟨by rw [he, v_take3], hb⟩
theorem l_take4 (w : World) : Calls Try.prog 15 #[bk 0 0 3 10, .int .i64 12, .int .i64 0] w fun e w' => e = .returned (.tuple #[bk 0 0 0 0, .int .i64 2]) ∧ Below w.heap.size w w' :=
  (take_any 0 0 3 10 12 0 w).mono fun e w' ⟨he, hb⟩ => ⟨by rw [he, v_take4], hb⟩
theorem l_left1 (w : World) : Calls Try.prog 17 #[bk 0 0 3 10, .int .i64 9] w fun e w' => e = .returned (.int .i64 0) ∧ Below w.heap.size w w' :=
  (left_any 0 0 3 10 9 (by omega) (by omega) w).mono fun e w' ⟨he, hb⟩ => ⟨by rw [he, v_left1], hb⟩
theorem l_left2 (w : World) : Calls Try.prog 17 #[bk 0 0 3 10, .int .i64 10] w fun e w' => e = .returned (.int .i64 1) ∧ Below w.heap.size w w' :=
  (left_any 0 0 3 10 10 (by omega) (by omega) w).mono fun e w' ⟨he, hb⟩ => ⟨by rw [he, v_left2], hb⟩
theorem l_left3 (w : World) : Calls Try.prog 17 #[bk 0 0 3 10, .int .i64 35] w fun e w' => e = .returned (.int .i64 3) ∧ Below w.heap.size w w' :=
  (left_any 0 0 3 10 35 (by omega) (by omega) w).mono fun e w' ⟨he, hb⟩ => ⟨by rw [he, v_left3], hb⟩
theorem l_left4 (w : World) : Calls Try.prog 17 #[bk 0 0 3 10, .int .i64 1000] w fun e w' => e = .returned (.int .i64 3) ∧ Below w.heap.size w w' :=
  (left_any 0 0 3 10 1000 (by omega) (by omega) w).mono fun e w' ⟨he, hb⟩ => ⟨by rw [he, v_left4], hb⟩
theorem l_left5 (w : World) : Calls Try.prog 17 #[bk 0 10 3 10, .int .i64 20] w fun e w' => e = .returned (.int .i64 1) ∧ Below w.heap.size w w' :=
  (left_any 0 10 3 10 20 (by omega) (by omega) w).mono fun e w' ⟨he, hb⟩ => ⟨by rw [he, v_left5], hb⟩
theorem l_wait1 (w : World) : Calls Try.prog 19 #[bk 0 0 3 10, .int .i64 0, .int .i64 2] w fun e w' => e = .returned (.int .i64 20) ∧ Below w.heap.size w w' :=
  (wait_any 0 0 3 10 0 2 w).mono fun e w' ⟨he, hb⟩ => ⟨by rw [he, v_wait1], hb⟩
theorem l_wait2 (w : World) : Calls Try.prog 19 #[bk 0 0 3 10, .int .i64 0, .int .i64 4] w fun e w' => e = .returned (.int .i64 (-1)) ∧ Below w.heap.size w w' :=
  (wait_any 0 0 3 10 0 4 w).mono fun e w' ⟨he, hb⟩ => ⟨by rw [he, v_wait2], hb⟩
theorem l_check (w : World) : Calls Try.prog 12 #[bk 0 0 0 0] w fun e w' => e = .returned (.int .i64 2) ∧ Below w.heap.size w w' :=
  (check_any 0 0 0 0 w).mono fun e w' ⟨he, hb⟩ => ⟨by rw [he, v_check], hb⟩

theorem bstep {w w1 w2 : World} {o : Obj} (h : Below w.heap.size w w1) (hb : Below (w1.alloc o).heap.size (w1.alloc o) w2) : Below w.heap.size w w2 :=
  have s1 := h.size
  have s4 : (w1.alloc o).heap.size = w1.heap.size + 1 := by simp
  (h.alloc s1 o).trans (hb.mono (by omega))
theorem bgo {w w1 w2 : World} (h : Below w.heap.size w w1) (hb : Below w1.heap.size w1 w2) : Below w.heap.size w w2 := h.trans (hb.mono h.size)

set_option maxRecDepth 100000 in
set_option maxHeartbeats 3200000 in
theorem live_any (w : World) : Calls Try.prog 14 #[] w fun e w' => e = .returned (.bool true) ∧ Below w.heap.size w w' := by
  go_enter Try.func14, Try.ntmps14
  go_wp2_with (first
    | (go_at_call 10; refine (l_new _).mono ?_; rintro e w1 ⟨rfl, hb1⟩)
    | (go_at_call 15; ((with_reducible refine (l_take1 _).mono ?_); rintro e w2 ⟨rfl, hb2⟩; have A2 := Lib.hid (bstep hb1 hb2); have B2 := Lib.hid ((held_new w1 _ _ _ _).below hb2); clear hb1 hb2))
    | (go_at_call 15; ((with_reducible refine (l_take2 _).mono ?_); rintro e w3 ⟨rfl, hb3⟩; have A3 := Lib.hid (bstep A2.out hb3); have B3 := Lib.hid ((B2.out.alloc _).below hb3); have C3 := Lib.hid ((held_new w2 _ _ _ _).below hb3); clear hb3; obtain ⟨c0, c1, c2, c3, cf, cl⟩ := C3.out))
    | (go_at_call 15; ((with_reducible refine (l_take3 _).mono ?_); rintro e w4 ⟨rfl, hb4⟩; have A4 := Lib.hid (bstep A3.out hb4); have B4 := Lib.hid ((B3.out.alloc _).below hb4); have C4 := Lib.hid ((C3.out.alloc _).below hb4); have E4 := Lib.hid ((held_new w3 _ _ _ _).below hb4); clear hb4 c0 c1 c2 c3 cf cl; obtain ⟨c0, c1, c2, c3, cf, cl⟩ := C4.out))
    | (go_at_call 15; ((with_reducible refine (l_take4 _).mono ?_); rintro e w5 ⟨rfl, hb5⟩; have A5 := Lib.hid (bstep A4.out hb5); have B5 := Lib.hid ((B4.out.alloc _).below hb5); have C5 := Lib.hid ((C4.out.alloc _).below hb5); have E5 := Lib.hid ((E4.out.alloc _).below hb5); clear hb5 c0 c1 c2 c3 cf cl; obtain ⟨c0, c1, c2, c3, cf, cl⟩ := C5.out; obtain ⟨b0, b1, b2, b3, bf, bl⟩ := B5.out))
    | (go_at_call 17; ((with_reducible refine (l_left1 _).mono ?_); rintro e w6 ⟨rfl, hb6⟩; have A6 := Lib.hid (bstep A5.out hb6); have C6 := Lib.hid ((C5.out.alloc _).below hb6); have E6 := Lib.hid ((E5.out.alloc _).below hb6); clear hb6 c0 c1 c2 c3 cf cl b0 b1 b2 b3 bf bl; obtain ⟨c0, c1, c2, c3, cf, cl⟩ := C6.out))
    | (go_at_call 17; ((with_reducible refine (l_left2 _).mono ?_); rintro e w7 ⟨rfl, hb7⟩; have A7 := Lib.hid (bgo A6.out hb7); have C7 := Lib.hid (C6.out.below hb7); have E7 := Lib.hid (E6.out.below hb7); clear hb7 c0 c1 c2 c3 cf cl; obtain ⟨c0, c1, c2, c3, cf, cl⟩ := C7.out))
    | (go_at_call 17; ((with_reducible refine (l_left3 _).mono ?_); rintro e w8 ⟨rfl, hb8⟩; have A8 := Lib.hid (bgo A7.out hb8); have C8 := Lib.hid (C7.out.below hb8); have E8 := Lib.hid (E7.out.below hb8); clear hb8 c0 c1 c2 c3 cf cl; obtain ⟨c0, c1, c2, c3, cf, cl⟩ := C8.out))
    | (go_at_call 17; ((with_reducible refine (l_left4 _).mono ?_); rintro e w9 ⟨rfl, hb9⟩; have A9 := Lib.hid (bgo A8.out hb9); have C9 := Lib.hid (C8.out.below hb9); have E9 := Lib.hid (E8.out.below hb9); clear hb9 c0 c1 c2 c3 cf cl; obtain ⟨c0, c1, c2, c3, cf, cl⟩ := C9.out; obtain ⟨e0, e1, e2, e3, ef, el⟩ := E9.out))
    | (go_at_call 17; ((with_reducible refine (l_left5 _).mono ?_); rintro e w10 ⟨rfl, hb10⟩; have A10 := Lib.hid (bgo A9.out hb10); have C10 := Lib.hid (C9.out.below hb10); clear hb10 c0 c1 c2 c3 cf cl e0 e1 e2 e3 ef el; obtain ⟨c0, c1, c2, c3, cf, cl⟩ := C10.out))
    | (go_at_call 19; ((with_reducible refine (l_wait1 _).mono ?_); rintro e w11 ⟨rfl, hb11⟩; have A11 := Lib.hid (bgo A10.out hb11); have C11 := Lib.hid (C10.out.below hb11); clear hb11 c0 c1 c2 c3 cf cl; obtain ⟨c0, c1, c2, c3, cf, cl⟩ := C11.out))
    | (go_at_call 19; ((with_reducible refine (l_wait2 _).mono ?_); rintro e w12 ⟨rfl, hb12⟩; have A12 := Lib.hid (bgo A11.out hb12); clear hb12 c0 c1 c2 c3 cf cl))
    | (go_at_call 12; ((with_reducible refine (l_check _).mono ?_); rintro e w13 ⟨rfl, hb13⟩; have A13 := Lib.hid (bgo A12.out hb13))))
  go_ret
  exact ⟨rfl, A13.out⟩
end Go.Proofs.Ytcnbeflfndfndaa
