/- The helper `awake` of the codec's statements returns true in every world. No condition. -/
import Derived.Test.YtgfodleoollmmaaW7
namespace Go.Proofs.Ytgfodleoollmmaa
open Go.RowKit
set_option linter.unusedVariables false

theorem sl_lit (w : World) (zs : List Int) (hz : ∀ z ∈ zs, 0 ≤ z ∧ z ≤ 255) (C : Array Value) (hC : C = (zs.map (Value.int .u8)).toArray) (n : Nat) (hn : n = zs.length) (t : TypeId) (f : Nat × Nat) : Sl (w.alloc (.cells C t f)) (some ⟨w.heap.size, 0, none⟩) n n zs := by
  subst hC hn
  refine ⟨rfl, hz, Nat.le_refl _, (fun h => by cases h), fun _ => ⟨w.heap.size, 0, rfl, by simp, fun i hi => ?_⟩⟩
  rw [new_cell, Nat.zero_add, List.getElem?_toArray, List.getElem?_map, List.getElem?_eq_getElem hi, List.getD_eq_getElem?_getD, List.getElem?_eq_getElem hi]
  rfl
theorem is_lit (w : World) (ns : List Int) (hz : ∀ z ∈ ns, C.in64 z) (C : Array Value) (hC : C = (ns.map (Value.int .i64)).toArray) (n : Nat) (hn : n = ns.length) (t : TypeId) (f : Nat × Nat) : Is (w.alloc (.cells C t f)) (some ⟨w.heap.size, 0, none⟩) n n ns := by
  subst hC hn
  refine ⟨rfl, hz, Nat.le_refl _, (fun h => by cases h), fun _ => ⟨w.heap.size, 0, rfl, by simp, fun i hi => ?_⟩⟩
  rw [new_cell, Nat.zero_add, List.getElem?_toArray, List.getElem?_map, List.getElem?_eq_getElem hi, List.getD_eq_getElem?_getD, List.getElem?_eq_getElem hi]
  rfl
theorem past {w w' : World} {o : Obj} (h : Below (w.alloc o).heap.size (w.alloc o) w') : Below w.heap.size w w' :=
  ((Below.refl _ _).alloc (Nat.le_refl _) _).trans (h.mono (by simp))
theorem gi1 : gi [128, 1, 5] = some (.int .i64 64, [5]) := by rfl
theorem gi2 : gi [128, 0] = none := by rfl
theorem gt3 : gt [4, 97, 98] = some (.string ⟨#[97, 98]⟩, []) := by rfl
theorem put4 : [9] ++ C.enc (C.zig (-65)) = [9, 129, 1] := by decide +kernel
theorem put5 : [] ++ C.enc (C.zig ((2 : Nat) : Int)) ++ encs [1, -1] = [4, 2, 1] := by decide +kernel
theorem put6 : ([] ++ [if true then (1 : Int) else 0] : List Int) = [1] := rfl
theorem in_neg : C.in64 (-65) := by rw [C.in64_iff]; omega
theorem in_two : ∀ z ∈ [(1 : Int), -1], C.in64 z := by
  intro z hz
  rw [C.in64_iff]
  simp at hz
  omega
theorem sl_nil (w : World) : Sl w none 0 0 [] := Sl.empty w none 0 (fun _ => rfl)
theorem bytes_lit {zs : List Int} (h : zs.all (fun z => decide (0 ≤ z ∧ z ≤ 255)) = true) : ∀ z ∈ zs, 0 ≤ z ∧ z ≤ 255 := by
  rw [List.all_eq_true] at h
  intro z hz
  simpa using h z hz
theorem own_as {B : Nat} {w : World} {zs ys : List Int} {e : Ending} {w' : World} (h : OwnPost B w zs e w') (he : zs = ys) (hb : ∀ z ∈ ys, 0 ≤ z ∧ z ≤ 255) : ∃ A c, e = .returned (.slice A ys.length c) ∧ Sl w' A ys.length c ys ∧ Below B w w' := by
  subst he
  obtain ⟨A, c, he, ho, hw⟩ := h
  exact ⟨A, c, he, OwnPost.sl (w := w) ho hb, hw⟩

theorem bl1 : ∀ z ∈ ([128, 1, 5] : List Int), 0 ≤ z ∧ z ≤ 255 := bytes_lit (zs := [128, 1, 5]) rfl
theorem sbl1 (w : World) (t : TypeId) (f : Nat × Nat) : Sl (w.alloc (.cells #[.int .u8 128, .int .u8 1, .int .u8 5] t f)) (some ⟨w.heap.size, 0, none⟩) 3 3 [128, 1, 5] := sl_lit w [128, 1, 5] bl1 _ rfl 3 rfl t f
theorem bl2 : ∀ z ∈ ([128, 0] : List Int), 0 ≤ z ∧ z ≤ 255 := bytes_lit (zs := [128, 0]) rfl
theorem sbl2 (w : World) (t : TypeId) (f : Nat × Nat) : Sl (w.alloc (.cells #[.int .u8 128, .int .u8 0] t f)) (some ⟨w.heap.size, 0, none⟩) 2 2 [128, 0] := sl_lit w [128, 0] bl2 _ rfl 2 rfl t f
theorem bl3 : ∀ z ∈ ([4, 97, 98] : List Int), 0 ≤ z ∧ z ≤ 255 := bytes_lit (zs := [4, 97, 98]) rfl
theorem sbl3 (w : World) (t : TypeId) (f : Nat × Nat) : Sl (w.alloc (.cells #[.int .u8 4, .int .u8 97, .int .u8 98] t f)) (some ⟨w.heap.size, 0, none⟩) 3 3 [4, 97, 98] := sl_lit w [4, 97, 98] bl3 _ rfl 3 rfl t f
theorem bl4 : ∀ z ∈ ([9] : List Int), 0 ≤ z ∧ z ≤ 255 := bytes_lit (zs := [9]) rfl
theorem sbl4 (w : World) (t : TypeId) (f : Nat × Nat) : Sl (w.alloc (.cells #[.int .u8 9] t f)) (some ⟨w.heap.size, 0, none⟩) 1 1 [9] := sl_lit w [9] bl4 _ rfl 1 rfl t f
theorem bl5 : ∀ z ∈ ([9, 129, 1] : List Int), 0 ≤ z ∧ z ≤ 255 := bytes_lit (zs := [9, 129, 1]) rfl
theorem sbl5 (w : World) (t : TypeId) (f : Nat × Nat) : Sl (w.alloc (.cells #[.int .u8 9, .int .u8 129, .int .u8 1] t f)) (some ⟨w.heap.size, 0, none⟩) 3 3 [9, 129, 1] := sl_lit w [9, 129, 1] bl5 _ rfl 3 rfl t f
theorem bl6 : ∀ z ∈ ([5] : List Int), 0 ≤ z ∧ z ≤ 255 := bytes_lit (zs := [5]) rfl
theorem sbl6 (w : World) (t : TypeId) (f : Nat × Nat) : Sl (w.alloc (.cells #[.int .u8 5] t f)) (some ⟨w.heap.size, 0, none⟩) 1 1 [5] := sl_lit w [5] bl6 _ rfl 1 rfl t f
theorem bl7 : ∀ z ∈ ([4, 2, 1] : List Int), 0 ≤ z ∧ z ≤ 255 := bytes_lit (zs := [4, 2, 1]) rfl
theorem sbl7 (w : World) (t : TypeId) (f : Nat × Nat) : Sl (w.alloc (.cells #[.int .u8 4, .int .u8 2, .int .u8 1] t f)) (some ⟨w.heap.size, 0, none⟩) 3 3 [4, 2, 1] := sl_lit w [4, 2, 1] bl7 _ rfl 3 rfl t f
theorem bl8 : ∀ z ∈ ([1] : List Int), 0 ≤ z ∧ z ≤ 255 := bytes_lit (zs := [1]) rfl
theorem sbl8 (w : World) (t : TypeId) (f : Nat × Nat) : Sl (w.alloc (.cells #[.int .u8 1] t f)) (some ⟨w.heap.size, 0, none⟩) 1 1 [1] := sl_lit w [1] bl8 _ rfl 1 rfl t f
theorem sbl6' (w : World) (o : Obj) (t : TypeId) (f : Nat × Nat) : Sl ((w.alloc o).alloc (.cells #[.int .u8 5] t f)) (some ⟨w.heap.size + 1, 0, none⟩) 1 1 [5] := by
  have h := sbl6 (w.alloc o) t f
  simpa using h
theorem isl (w : World) (t : TypeId) (f : Nat × Nat) : Is (w.alloc (.cells #[.int .i64 1, .int .i64 (-1)] t f)) (some ⟨w.heap.size, 0, none⟩) 2 2 [1, -1] := is_lit w [1, -1] in_two _ rfl 2 rfl t f
theorem isl2 (w : World) (o o' : Obj) (t : TypeId) (f : Nat × Nat) : Is (((w.alloc o).alloc o').alloc (.cells #[.int .i64 1, .int .i64 (-1)] t f)) (some ⟨w.heap.size + 1 + 1, 0, none⟩) 2 2 [1, -1] := by
  have h := isl ((w.alloc o).alloc o') t f
  simpa using h
theorem bon {w w1 w2 : World} (h : Below w.heap.size w w1) (h2 : Below w1.heap.size w1 w2) : Below w.heap.size w w2 := h.trans (h2.mono h.size)
theorem Sl.over {w : World} {a : Option Addr} {len cap : Nat} {zs : List Int} (h : Sl w a len cap zs) (o : Obj) : Sl (w.alloc o) a len cap zs := h.below ((Below.refl _ _).alloc (Nat.le_refl _) _)

set_option maxHeartbeats 1600000 in
theorem awake_any (w : World) : Calls Try.prog 10 #[] w fun e w' => e = .returned (.bool true) ∧ Below w.heap.size w w' := by
  go_enter Try.func10, Try.ntmps10
  go_wp2_with (first
    | (go_at_call 22; (with_reducible refine (getInt_any _ 3 3 [128, 1, 5] (by omega) _ (sbl1 _ _ _)).mono ?_); intro e w1 hgot; obtain ⟨A1, c1, rfl, hs1, hb1⟩ := got_yes hgot gi1; have B1 := Lib.hid (past hb1); have S1 := Lib.hid (show Sl w1 A1 1 c1 [5] from hs1); clear hgot hs1 hb1)
    | (go_at_call 22; (with_reducible refine (getInt_any _ 2 2 [128, 0] (by omega) _ (sbl2 _ _ _)).mono ?_); intro e w2 hgot; obtain ⟨rfl, hb2⟩ := got_no hgot gi2; have B2 := Lib.hid (bon B1.out (past hb2)); have S2 := Lib.hid (S1.out.below (past hb2)); clear hgot hb2)
    | (go_at_call 29; (with_reducible refine (getText_any _ 3 3 [4, 97, 98] (by omega) _ (sbl3 _ _ _)).mono ?_); intro e w3 hgot; obtain ⟨A3, c3, rfl, hs3, hb3⟩ := got_yes hgot gt3; have B3 := Lib.hid (bon B2.out (past hb3)); have S3 := Lib.hid (S2.out.below (past hb3)); clear hgot hs3 hb3)
    | (go_at_call 12; (with_reducible refine (putInt_any _ 1 1 [9] (-65) in_neg (by omega) _ (sbl4 _ _ _)).mono ?_); intro e w4 hgot; obtain ⟨A4, c4, rfl, hs4, hb4⟩ := own_as hgot put4 bl5; have B4 := Lib.hid (bon B3.out (past hb4)); have S4 := Lib.hid (S3.out.below (past hb4)); have P4 := Lib.hid (show Sl w4 A4 3 c4 [9, 129, 1] from hs4); clear hgot hs4 hb4)
    | (go_at_call 11; (with_reducible refine (same_any A4 3 c4 [9, 129, 1] _ 3 3 [9, 129, 1] _ (P4.out.over _) (sbl5 _ _ _)).mono ?_); rintro e w5 ⟨rfl, rfl⟩)
    | (go_at_call 11; (with_reducible refine (same_any A1 1 c1 [5] _ 1 1 [5] _ ((S4.out.over _).over _) (sbl6' _ _ _ _)).mono ?_); rintro e w5 ⟨rfl, rfl⟩)
    | (go_at_call 16; (with_reducible refine (putInts_any none 0 0 [] _ 2 2 [1, -1] (by omega) (by omega) _ (sl_nil _) (isl2 _ _ _ _ _)).mono ?_); intro e w6 hgot; obtain ⟨A6, c6, rfl, hs6, hb6⟩ := own_as hgot put5 bl7; have B6 := Lib.hid (bon ((B4.out.alloc B4.out.size _).alloc (by have := B4.out.size; simp; omega) _) (past hb6)); have P6 := Lib.hid (show Sl w6 A6 3 c6 [4, 2, 1] from hs6); clear hgot hs6 hb6)
    | (go_at_call 11; (with_reducible refine (same_any A6 3 c6 [4, 2, 1] _ 3 3 [4, 2, 1] _ (P6.out.over _) (sbl7 _ _ _)).mono ?_); rintro e w5 ⟨rfl, rfl⟩)
    | (go_at_call 20; (with_reducible refine (putBool_any none 0 0 [] true (by omega) _ (sl_nil _)).mono ?_); intro e w7 hgot; obtain ⟨A7, c7, rfl, hs7, hb7⟩ := own_as hgot put6 bl8; have B7 := Lib.hid (bon (B6.out.alloc B6.out.size _) hb7); have P7 := Lib.hid (show Sl w7 A7 1 c7 [1] from hs7); clear hgot hs7 hb7)
    | (go_at_call 11; (with_reducible refine (same_any A7 1 c7 [1] _ 1 1 [1] _ (P7.out.over _) (sbl8 _ _ _)).mono ?_); rintro e w5 ⟨rfl, rfl⟩))
  go_ret
  exact ⟨rfl, B7.out.alloc B7.out.size _⟩
end Go.Proofs.Ytgfodleoollmmaa
