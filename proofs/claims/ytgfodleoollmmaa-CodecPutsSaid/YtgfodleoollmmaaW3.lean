/- The walks of PutInt, PutBool, SameBytes, addList over integers and PutInts. Bounds: at most some hundred thousand bytes. -/
import Derived.Test.YtgfodleoollmmaaW2
import Derived.Outline
namespace Go.Proofs.Ytgfodleoollmmaa
open Go.RowKit
set_option linter.unusedVariables false

theorem OwnPost.sl {B : Nat} {w w' : World} {A : Option Addr} {c : Nat} {zs : List Int} (h : Own w' B (.slice A zs.length c) zs) (hz : ∀ z ∈ zs, 0 ≤ z ∧ z ≤ 255) : Sl w' A zs.length c zs := by
  obtain ⟨A', c', e, hs⟩ := Own.sl h hz
  injection e with e1 e2 e3
  subst e1 e3
  exact hs

theorem ret_slice {A : Option Addr} {n m c : Nat} (h : n = m) : Ending.returned (.slice A n c) = .returned (.slice A m c) := by rw [h]
theorem own_below {w w' : World} {B : Nat} {v : Value} {zs : List Int} (h : Own w B v zs) (hb : Below w.heap.size w w') : Own w' B v zs := by
  rcases h.2 with ⟨rfl, h0⟩ | ⟨g, cap, cur, rfl, hbg, hg, hnc, hcm, hcs, htk⟩
  · exact ⟨h.1, .inl ⟨rfl, h0⟩⟩
  · exact ⟨h.1, .inr ⟨g, cap, cur, rfl, hbg, (hb.block g (lt_of_block hg)).trans hg, hnc, hcm, hcs, htk⟩⟩
set_option maxHeartbeats 400000 in
theorem putInt_any (a : Option Addr) (len cap : Nat) (zs : List Int) (n : Int) (hn : C.in64 n) (hl : len ≤ 800000) (w : World) (h : Sl w a len cap zs) :
    Calls Try.prog 12 #[.slice a len cap, .int .i64 n] w (OwnPost w.heap.size w (zs ++ C.enc (C.zig n))) := by
  have H := Lib.hid h
  have hz := h.sz
  subst hz
  clear h
  go_enter Try.func12, Try.ntmps12
  go_wp2_with (first
    | (go_at_call 35; refine (copied_any a _ cap zs (by omega) _ H.out).mono ?_; rintro e w1 ⟨A1, c1, rfl, ho1, hb1⟩; have HO := Lib.hid ho1; have HB := Lib.hid hb1; clear ho1 hb1)
    | (go_at_call 34; refine (addInt_any n hn w.heap.size A1 c1 zs _ HO.out HB.out.size (by omega)).mono ?_; rintro e w2 ⟨A2, c2, rfl, ho2, hb2⟩; have HO2 := Lib.hid ho2; have HB2 := Lib.hid (HB.out.trans hb2); clear ho2 hb2))
  go_ret
  exact ⟨A2, c2, ret_slice (by rw [List.length_append]), HO2.out, HB2.out⟩
theorem lit_own (w : World) : Own (w.alloc (.cells #[] 5)) w.heap.size (.slice (some ⟨w.heap.size, 0, none⟩) 0 0) [] :=
  World.ownsRow_lit (base := w.heap.size) (e := 5) (size := 1) w #[] 0 (Nat.le_refl _) (by decide) rfl
set_option maxHeartbeats 400000 in
theorem rputInt_any (a : Option Addr) (len cap : Nat) (zs : List Int) (n : Int) (hn : C.in64 n) (hl : len ≤ 800000) (w : World) (h : Sl w a len cap zs) :
    Calls Try.prog 13 #[.slice a len cap, .int .i64 n] w (OwnPost w.heap.size w (zs ++ C.enc (C.zig n))) := by
  have H := Lib.hid h
  have hz := h.sz
  subst hz
  clear h
  have HE := Lib.hid (C.enc_bd (C.zig_lt hn))
  have HA := Lib.hid ((Below.refl w.heap.size w).alloc (Nat.le_refl _) (.cells #[] 5))
  go_enter Try.func13, Try.ntmps13
  go_wp2_with (first
    | (at_builtin; (with_reducible refine app_bytes rfl (.tmp 5) (.tmp 6) ?_ (B := w.heap.size) _ [] ?_ (lit_own w) ?_ a zs.length cap zs ?_ (H.out.below HA.out) (by simp; omega) ?_); (rfl); (rfl); (simp); (rfl); intro v1 w1 ho1 hb1; rw [List.nil_append] at ho1; obtain ⟨A1, c1, rfl⟩ := own_shape ho1; have HO := Lib.hid ho1; have HB := Lib.hid (HA.out.trans hb1); clear ho1 hb1)
    | (go_at_call 36; refine (rint_any n hn _).mono ?_; rintro e w2 ⟨A2, c2, rfl, ho2, hb2⟩; have HO2 := Lib.hid ho2; have HB2 := Lib.hid hb2; clear ho2 hb2)
    | (at_builtin; (with_reducible refine app_bytes rfl (.tmp 7) (.tmp 9) ?_ (B := w.heap.size) _ zs ?_ (own_below HO.out HB2.out) (Nat.le_trans HB.out.size HB2.out.size) A2 _ c2 (C.enc (C.zig n)) ?_ (OwnPost.sl (w := w) HO2.out HE.out.1) (by have := HE.out.2.2; omega) ?_); (rfl); (rfl); (rfl); intro v3 w3 ho3 hb3; have HP := Lib.hid (own_post ho3 ((HB.out.trans (HB2.out.mono HB.out.size)).trans hb3)); clear ho3 hb3))
  go_ret
  exact HP.out
theorem enc_small1 (b : Bool) : C.enc (if b then 1 else 0) = [if b then (1 : Int) else 0] := by cases b <;> rfl
set_option maxHeartbeats 400000 in
theorem putBool_any (a : Option Addr) (len cap : Nat) (zs : List Int) (b : Bool) (hl : len ≤ 800000) (w : World) (h : Sl w a len cap zs) :
    Calls Try.prog 20 #[.slice a len cap, .bool b] w (OwnPost w.heap.size w (zs ++ [if b then (1 : Int) else 0])) := by
  have H := Lib.hid h
  have hz := h.sz
  subst hz
  clear h
  cases b
  · go_enter Try.func20, Try.ntmps20
    go_wp2_with (first
      | (go_at_call 35; refine (copied_any a _ cap zs (by omega) _ H.out).mono ?_; rintro e w1 ⟨A1, c1, rfl, ho1, hb1⟩; have HO := Lib.hid ho1; have HB := Lib.hid hb1; clear ho1 hb1)
      | (at_builtin; (with_reducible refine app_byte rfl (.tmp 11) (.tmp 12) ?_ (B := w.heap.size) _ zs ?_ HO.out HB.out.size 0 ?_ _ _ ?_ (by omega) ?_); (rfl); (rfl); (omega); (rfl); intro v1 w2 ho2 hb2; have HP := Lib.hid (own_post ho2 (HB.out.trans hb2)); clear ho2 hb2))
    go_ret
    exact HP.out
  · go_enter Try.func20, Try.ntmps20
    go_wp2_with (first
      | (go_at_call 35; refine (copied_any a _ cap zs (by omega) _ H.out).mono ?_; rintro e w1 ⟨A1, c1, rfl, ho1, hb1⟩; have HO := Lib.hid ho1; have HB := Lib.hid hb1; clear ho1 hb1)
      | (at_builtin; (with_reducible refine app_byte rfl (.tmp 7) (.tmp 8) ?_ (B := w.heap.size) _ zs ?_ HO.out HB.out.size 1 ?_ _ _ ?_ (by omega) ?_); (rfl); (rfl); (omega); (rfl); intro v1 w2 ho2 hb2; have HP := Lib.hid (own_post ho2 (HB.out.trans hb2)); clear ho2 hb2))
    go_ret
    exact HP.out
set_option maxHeartbeats 400000 in
theorem rputBool_any (a : Option Addr) (len cap : Nat) (zs : List Int) (b : Bool) (hl : len ≤ 800000) (w : World) (h : Sl w a len cap zs) :
    Calls Try.prog 21 #[.slice a len cap, .bool b] w (OwnPost w.heap.size w (zs ++ [if b then (1 : Int) else 0])) := by
  have H := Lib.hid h
  have hz := h.sz
  subst hz
  clear h
  have HA := Lib.hid ((Below.refl w.heap.size w).alloc (Nat.le_refl _) (.cells #[] 5))
  cases b
  · go_enter Try.func21, Try.ntmps21
    go_wp2_with (first
      | (at_builtin; (with_reducible refine app_bytes rfl (.tmp 6) (.tmp 7) ?_ (B := w.heap.size) _ [] ?_ (lit_own w) ?_ a zs.length cap zs ?_ (H.out.below HA.out) (by simp; omega) ?_); (rfl); (rfl); (simp); (rfl); intro v1 w1 ho1 hb1; rw [List.nil_append] at ho1; obtain ⟨A1, c1, rfl⟩ := own_shape ho1; have HO := Lib.hid ho1; have HB := Lib.hid (HA.out.trans hb1); clear ho1 hb1)
      | (at_builtin; (with_reducible refine app_byte rfl (.tmp 13) (.tmp 14) ?_ (B := w.heap.size) _ zs ?_ HO.out HB.out.size 0 ?_ _ _ ?_ (by omega) ?_); (rfl); (rfl); (omega); (rfl); intro v1 w2 ho2 hb2; have HP := Lib.hid (own_post ho2 (HB.out.trans hb2)); clear ho2 hb2))
    go_ret
    exact HP.out
  · go_enter Try.func21, Try.ntmps21
    go_wp2_with (first
      | (at_builtin; (with_reducible refine app_bytes rfl (.tmp 6) (.tmp 7) ?_ (B := w.heap.size) _ [] ?_ (lit_own w) ?_ a zs.length cap zs ?_ (H.out.below HA.out) (by simp; omega) ?_); (rfl); (rfl); (simp); (rfl); intro v1 w1 ho1 hb1; rw [List.nil_append] at ho1; obtain ⟨A1, c1, rfl⟩ := own_shape ho1; have HO := Lib.hid ho1; have HB := Lib.hid (HA.out.trans hb1); clear ho1 hb1)
      | (at_builtin; (with_reducible refine app_byte rfl (.tmp 10) (.tmp 11) ?_ (B := w.heap.size) _ zs ?_ HO.out HB.out.size 1 ?_ _ _ ?_ (by omega) ?_); (rfl); (rfl); (omega); (rfl); intro v1 w2 ho2 hb2; have HP := Lib.hid (own_post ho2 (HB.out.trans hb2)); clear ho2 hb2))
    go_ret
    exact HP.out

/-- The text of a slice of bytes. -/
theorem conv_sl {w : World} {A : Option Addr} {n c : Nat} {zs : List Int} (h : Sl w A n c zs) : (convert 22 9 (.slice A n c)).run Try.prog w = .ok (.string (strOfNums zs)) w := by
  rcases Nat.eq_zero_or_pos n with h0 | h0
  · subst h0
    have hz : zs = [] := List.eq_nil_of_length_eq_zero h.sz
    subst hz
    cases A with
    | none => exact run_convert_bytes_nil w 22 5 Try.underlying22 Try.underlying5 0 c 9 Try.underlying9
    | some a =>
      rw [run_convert_bytes_string w 22 9 5 (some a) 0 c Try.underlying22 Try.underlying5 Try.underlying9]
      have := run_bytesToString (P := Try.prog) w a 0 c [] (by simp [loadCells, loadCellsFrom])
      rw [this]
      rfl
  · obtain ⟨b, off, rfl, _, hcell⟩ := h.cell h0
    exact run_convert_bytes_arg w 22 5 Try.underlying22 Try.underlying5 b off n c zs h.sz hcell 9 Try.underlying9
theorem str_eq {x y : List Int} (hx : ∀ z ∈ x, 0 ≤ z ∧ z ≤ 255) (hy : ∀ z ∈ y, 0 ≤ z ∧ z ≤ 255) : ((strOfNums x).toList == (strOfNums y).toList) = (x == y) := by
  have h : ∀ l : List Int, (∀ z ∈ l, 0 ≤ z ∧ z ≤ 255) → (strOfNums l).toList.map (fun b => (b.toNat : Int)) = l := by
    intro l hl
    rw [ByteArray.toList_eq]
    unfold strOfNums
    simp only [List.map_map]
    conv => rhs; rw [← List.map_id l]
    refine List.map_congr_left fun z hz => ?_
    have := hl z hz
    simp only [Function.comp, id, UInt8.toNat_ofNat']
    omega
  rw [Bool.eq_iff_iff, beq_iff_eq, beq_iff_eq]
  constructor
  · intro e; rw [← h x hx, ← h y hy, e]
  · intro e; rw [e]
set_option maxHeartbeats 400000 in
theorem same_any (a1 : Option Addr) (l1 c1 : Nat) (x : List Int) (a2 : Option Addr) (l2 c2 : Nat) (y : List Int) (w : World) (h1 : Sl w a1 l1 c1 x) (h2 : Sl w a2 l2 c2 y) :
    Calls Try.prog 11 #[.slice a1 l1 c1, .slice a2 l2 c2] w fun e w' => e = .returned (.bool (x == y)) ∧ w = w' := by
  have k1 := conv_sl h1
  have k2 := conv_sl h2
  have k3 := str_eq h1.bd h2.bd
  generalize strOfNums x = s1 at *
  generalize strOfNums y = s2 at *
  clear h1 h2
  go_enter Try.func11, Try.ntmps11
  go_wp2
  go_ret
  exact ⟨rfl, rfl⟩
end Go.Proofs.Ytgfodleoollmmaa
