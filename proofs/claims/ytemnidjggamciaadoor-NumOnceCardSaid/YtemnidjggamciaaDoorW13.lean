/- The walk of the examples that every statement on num requires. No condition but the limits' two cells. -/
import Derived.Test.YtemnidjggamciaaDoorW12
namespace Go.Proofs.YtemnidjggamciaaDoor
open Go.RowKit Go.Sort
set_option linter.unusedVariables false

theorem lit_ints (w : World) (zs : List Int) (h : zs.length ≤ 1000000) : Ints (w.alloc (.cells (zs.map (Value.int .i64)).toArray 3)) (some ⟨w.heap.size, 0, none⟩) zs.length zs.length zs :=
  ⟨rfl, Nat.le_refl _, h, (fun e => by cases e), .inr ⟨_, 0, rfl, by simp, fun i hi => by
    rw [cell_of_row _ _ _ _ _ _ (heap_alloc_new w _), List.getElem?_toArray, Nat.zero_add, map_get hi]⟩⟩
theorem lit_m5_m9 (w : World) : Ints (w.alloc (.cells #[.int .i64 (-5), .int .i64 (-9)] 3)) (some ⟨w.heap.size, 0, none⟩) 2 2 [-5, -9] := lit_ints w [-5, -9] (by decide)
theorem lit_3_m1_3 (w : World) : Ints (w.alloc (.cells #[.int .i64 3, .int .i64 (-1), .int .i64 3] 3)) (some ⟨w.heap.size, 0, none⟩) 3 3 [3, -1, 3] := lit_ints w [3, -1, 3] (by decide)
theorem lit_m1_3 (w : World) : Ints (w.alloc (.cells #[.int .i64 (-1), .int .i64 3] 3)) (some ⟨w.heap.size, 0, none⟩) 2 2 [-1, 3] := lit_ints w [-1, 3] (by decide)
theorem lit_4 (w : World) : Ints (w.alloc (.cells #[.int .i64 4] 3)) (some ⟨w.heap.size, 0, none⟩) 1 1 [4] := lit_ints w [4] (by decide)
theorem lit_2_1 (w : World) : Ints (w.alloc (.cells #[.int .i64 2, .int .i64 1] 3)) (some ⟨w.heap.size, 0, none⟩) 2 2 [2, 1] := lit_ints w [2, 1] (by decide)
theorem lit_2_7 (w : World) : Ints (w.alloc (.cells #[.int .i64 2, .int .i64 7] 3)) (some ⟨w.heap.size, 0, none⟩) 2 2 [2, 7] := lit_ints w [2, 7] (by decide)
theorem lit_1_2_7 (w : World) : Ints (w.alloc (.cells #[.int .i64 1, .int .i64 2, .int .i64 7] 3)) (some ⟨w.heap.size, 0, none⟩) 3 3 [1, 2, 7] := lit_ints w [1, 2, 7] (by decide)
theorem lit_4_2_2_9 (w : World) : Ints (w.alloc (.cells #[.int .i64 4, .int .i64 2, .int .i64 2, .int .i64 9] 3)) (some ⟨w.heap.size, 0, none⟩) 4 4 [4, 2, 2, 9] := lit_ints w [4, 2, 2, 9] (by decide)
theorem lit_9 (w : World) : Ints (w.alloc (.cells #[.int .i64 9] 3)) (some ⟨w.heap.size, 0, none⟩) 1 1 [9] := lit_ints w [9] (by decide)
theorem lit_2_4 (w : World) : Ints (w.alloc (.cells #[.int .i64 2, .int .i64 4] 3)) (some ⟨w.heap.size, 0, none⟩) 2 2 [2, 4] := lit_ints w [2, 4] (by decide)
theorem lit_second (w : World) (o : Obj) (zs : List Int) (n : Nat) (cs : Array Value) (h : Ints ((w.alloc o).alloc (.cells cs 3)) (some ⟨(w.alloc o).heap.size, 0, none⟩) n n zs) : Ints ((w.alloc o).alloc (.cells cs 3)) (some ⟨w.heap.size + 1, 0, none⟩) n n zs := by
  rw [show (w.alloc o).heap.size = w.heap.size + 1 by simp] at h; exact h
def IntsK (w : World) (n : Nat) (zs : List Int) (e : Ending) (w' : World) : Prop := ∃ A c, e = .returned (.slice A n c) ∧ Ints w' A n c zs ∧ Below w.heap.size w w'
theorem to_k {w : World} {n : Nat} {ys zs : List Int} {e : Ending} {w' : World} (h : IntsP w ys e w') (he : ys = zs) (hn : zs.length = n) : IntsK w n zs e w' := by
  subst he hn; exact h
theorem st_a : M.st [3, -1, 3] = [-1, 3] := (M.st_eq (by unfold M.Srt; decide) (fun x => by simp; omega)).symm
theorem st_b : M.st ([2, 1] ++ [2, 7]) = [1, 2, 7] := (M.st_eq (by unfold M.Srt; decide) (fun x => by simp; omega)).symm
theorem st_c : M.mns [4, 2, 2, 9] [9] = [2, 4] := by
  unfold M.mns
  rw [show M.st [4, 2, 2, 9] = [2, 4, 9] from (M.st_eq (by unfold M.Srt; decide) (fun x => by simp; omega)).symm]
  decide
theorem dgs_120 : M.dgs 120 = [49, 50, 48] := by simp [M.dgs_big, M.dgs_small]
theorem txt_120 : M.txt (-120) = [45, 49, 50, 48] := by unfold M.txt; rw [if_pos (by decide), show (-120 : Int).natAbs = 120 from rfl, dgs_120]
theorem prs_120 : PrP (bys ⟨#[45, 49, 50, 48]⟩) (-120) true := .inl ⟨rfl, by rw [show bys ⟨#[45, 49, 50, 48]⟩ = M.txt (-120) by rw [txt_120]; rfl]; exact M.prs_txt (by decide) (by decide)⟩
theorem str_120 : strOfNums (M.txt (-120)) = ⟨#[45, 49, 50, 48]⟩ := by rw [txt_120]; rfl
set_option maxHeartbeats 1600000 in
theorem lives_any (w : World) (hL : Lim w) : Calls Tryd.prog 15 #[] w fun e w' => e = .returned (.bool true) ∧ Below w.heap.size w w' := by
  have HL := Lib.hid hL
  have C17 := Lib.hid (parse_is (s := ⟨#[45, 49, 50, 48]⟩) (by decide) prs_120 w hL)
  have HB1 := Lib.hid (Below.alloc (Below.refl w.heap.size w) (Nat.le_refl _) (.cells #[.int .i64 (-5), .int .i64 (-9)] 3))
  have C21 := Lib.hid (show Calls Tryd.prog 21 #[.slice (some ⟨w.heap.size, 0, none⟩) 2 2] (w.alloc (.cells #[.int .i64 (-5), .int .i64 (-9)] 3)) (fun e w' => e = .returned (.tuple #[.int .i64 (-5), .bool true]) ∧ w.alloc (.cells #[.int .i64 (-5), .int .i64 (-9)] 3) = w') from max_any _ 2 2 [-5, -9] _ (lit_m5_m9 w))
  have C11 := Lib.hid (fun w => (show Calls Tryd.prog 11 #[.int .i64 7, .int .i64 1, .int .i64 5] w fun e w' => e = .returned (.int .i64 5) ∧ w = w' from clip_any 7 1 5 w))
  have C13 := Lib.hid (show Calls Tryd.prog 13 #[.int .i64 1000000000000, .int .i64 5] (w.alloc (.cells #[.int .i64 (-5), .int .i64 (-9)] 3)) fun e w' => e = .returned (.int .i64 1000000000000) ∧ w.alloc (.cells #[.int .i64 (-5), .int .i64 (-9)] 3) = w' from add_any 1000000000000 5 _ (hL.below HB1.out))
  have C16 := Lib.hid (fun w => (show Calls Tryd.prog 16 #[.int .i64 (-120)] w fun e w' => e = .returned (.string ⟨#[45, 49, 50, 48]⟩) ∧ Below w.heap.size w w' by have := text_any (-120) (by decide) (by decide) w; rw [str_120] at this; exact this))
  clear hL
  go_enter Tryd.func15, Tryd.ntmps15
  go_wp2_with (first
    | (go_at_call 17; (with_reducible refine C17.out.mono ?_); rintro e w' ⟨rfl, rfl⟩)
    | (go_at_call 21; (with_reducible refine C21.out.mono ?_); rintro e w' ⟨rfl, rfl⟩)
    | (go_at_call 11; (with_reducible refine (C11.out _).mono ?_); rintro e w' ⟨rfl, rfl⟩)
    | (go_at_call 13; (with_reducible refine C13.out.mono ?_); rintro e w' ⟨rfl, rfl⟩)
    | (go_at_call 16; (with_reducible refine (C16.out _).mono ?_); rintro e w2 ⟨rfl, hb⟩; have HB2 := Lib.hid (HB1.out.trans (hb.mono HB1.out.size)); clear hb; have L2 := Lib.hid (lit_3_m1_3 w2); have HB2a := Lib.hid (HB2.out.alloc HB2.out.size (.cells #[.int .i64 3, .int .i64 (-1), .int .i64 3] 3)); have C24 := Lib.hid ((sorted_any _ 3 3 [3, -1, 3] _ L2.out).mono fun e w' h => to_k h st_a rfl))
    | (go_at_call 24; (with_reducible refine C24.out.mono ?_); rintro e w3 ⟨A3, c3, rfl, hi, hb⟩; have HB3 := Lib.hid (HB2a.out.trans (hb.mono HB2a.out.size)); have HB3x := Lib.hid (Below.alloc (Below.refl w3.heap.size w3) (Nat.le_refl _) (.cells #[.int .i64 (-1), .int .i64 3] 3)); have HB3a := Lib.hid (HB3.out.trans (HB3x.out.mono HB3.out.size)); have C23a := Lib.hid (same_any A3 2 c3 [-1, 3] _ 2 2 [-1, 3] _ (hi.below HB3x.out) (lit_m1_3 w3)); clear hi hb)
    | (go_at_call 23; (with_reducible refine C23a.out.mono ?_); rintro e w4 ⟨rfl, hb⟩; have HB4 := Lib.hid (HB3a.out.trans (hb.mono HB3a.out.size)); clear hb; have L4 := Lib.hid (lit_4 w4); have HB4a := Lib.hid (HB4.out.alloc HB4.out.size (.cells #[.int .i64 4] 3)); have C26 := Lib.hid (show Calls Tryd.prog 26 #[.slice (some ⟨w4.heap.size, 0, none⟩) 1 1, .int .i64 4] (w4.alloc (.cells #[.int .i64 4] 3)) fun e w' => e = .returned (.bool true) ∧ w4.alloc (.cells #[.int .i64 4] 3) = w' from has_any _ 1 1 [4] 4 _ L4.out); obtain ⟨w5, hw5⟩ : ∃ w5, w4.alloc (.cells #[.int .i64 4] 3) = w5 := ⟨_, rfl⟩; have HW5 := Lib.hid hw5; clear hw5)
    | (go_at_call 26; (with_reducible refine C26.out.mono ?_); rintro e w' ⟨rfl, rfl⟩; rw [HW5.out] at HB4a ⊢; have HX5 := Lib.hid (Below.alloc (Below.refl w5.heap.size w5) (Nat.le_refl _) (.cells #[.int .i64 2, .int .i64 1] 3)); have HX6 := Lib.hid (Below.alloc (Below.refl (w5.alloc (.cells #[.int .i64 2, .int .i64 1] 3)).heap.size (w5.alloc (.cells #[.int .i64 2, .int .i64 1] 3))) (Nat.le_refl _) (.cells #[.int .i64 2, .int .i64 7] 3)); have HB6 := Lib.hid ((HB4a.out.trans (HX5.out.mono HB4a.out.size)).trans (HX6.out.mono (HB4a.out.trans (HX5.out.mono HB4a.out.size)).size)); have C28 := Lib.hid ((union_any _ 2 2 [2, 1] _ 2 2 [2, 7] _ ((lit_2_1 w5).below HX6.out) (lit_second w5 _ [2, 7] 2 _ (lit_2_7 _)) (by decide) (by decide)).mono fun e w' h => to_k h st_b rfl))
    | (go_at_call 28; (with_reducible refine C28.out.mono ?_); rintro e w7 ⟨A7, c7, rfl, hi, hb⟩; have HB7 := Lib.hid (HB6.out.trans (hb.mono HB6.out.size)); have HB7x := Lib.hid (Below.alloc (Below.refl w7.heap.size w7) (Nat.le_refl _) (.cells #[.int .i64 1, .int .i64 2, .int .i64 7] 3)); have HB7a := Lib.hid (HB7.out.trans (HB7x.out.mono HB7.out.size)); have C23b := Lib.hid (same_any A7 3 c7 [1, 2, 7] _ 3 3 [1, 2, 7] _ (hi.below HB7x.out) (lit_1_2_7 w7)); clear hi hb)
    | (go_at_call 23; (with_reducible refine C23b.out.mono ?_); rintro e w8 ⟨rfl, hb⟩; have HB8 := Lib.hid (HB7a.out.trans (hb.mono HB7a.out.size)); clear hb; have HX8 := Lib.hid (Below.alloc (Below.refl w8.heap.size w8) (Nat.le_refl _) (.cells #[.int .i64 4, .int .i64 2, .int .i64 2, .int .i64 9] 3)); have HX9 := Lib.hid (Below.alloc (Below.refl (w8.alloc (.cells #[.int .i64 4, .int .i64 2, .int .i64 2, .int .i64 9] 3)).heap.size (w8.alloc (.cells #[.int .i64 4, .int .i64 2, .int .i64 2, .int .i64 9] 3))) (Nat.le_refl _) (.cells #[.int .i64 9] 3)); have HB9 := Lib.hid ((HB8.out.trans (HX8.out.mono HB8.out.size)).trans (HX9.out.mono (HB8.out.trans (HX8.out.mono HB8.out.size)).size)); have C30 := Lib.hid ((minus_any _ 4 4 [4, 2, 2, 9] _ 1 1 [9] _ ((lit_4_2_2_9 w8).below HX9.out) (lit_second w8 _ [9] 1 _ (lit_9 _)) (by decide) (by decide)).mono fun e w' h => to_k h st_c rfl))
    | (go_at_call 30; (with_reducible refine C30.out.mono ?_); rintro e w10 ⟨A10, c10, rfl, hi, hb⟩; have HB10 := Lib.hid (HB9.out.trans (hb.mono HB9.out.size)); have HB10x := Lib.hid (Below.alloc (Below.refl w10.heap.size w10) (Nat.le_refl _) (.cells #[.int .i64 2, .int .i64 4] 3)); have HB10a := Lib.hid (HB10.out.trans (HB10x.out.mono HB10.out.size)); have C23c := Lib.hid (same_any A10 2 c10 [2, 4] _ 2 2 [2, 4] _ (hi.below HB10x.out) (lit_2_4 w10)); clear hi hb)
    | (go_at_call 23; (with_reducible refine C23c.out.mono ?_); rintro e w11 ⟨rfl, hb⟩; have HB11 := Lib.hid (HB10a.out.trans (hb.mono HB10a.out.size)); clear hb))
  go_ret
  exact ⟨rfl, HB11.out⟩
end Go.Proofs.YtemnidjggamciaaDoor
