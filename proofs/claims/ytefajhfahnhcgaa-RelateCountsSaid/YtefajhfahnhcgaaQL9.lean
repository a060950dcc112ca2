/- The walks of num's lists: Put, Sorted and Union of the reference. Bounds: fewer than a million elements. -/
import Derived.Test.YtefajhfahnhcgaaQL8
namespace Go.Proofs.Ytefajhfahnhcgaa.Q
open Go.Proofs.Ytefajhfahnhcgaa
open Go.RowKit Go.Sort
set_option linter.unusedVariables false

theorem info3 : (Try.prog.info? 3).map (fun i => (i.zero, i.size, i.bytes)) = some (some (.int .i64 0), 1, 8) := by kernel_rfl
theorem size31 (w : World) : (sizeOf (Try.prog.elem 23)).run Try.prog w = .ok 1 w := by kernel_rfl
theorem under31 : Try.prog.underlying 23 = some (.slice (Try.prog.elem 23)) := by kernel_rfl
set_option maxRecDepth 100000 in
theorem run_from {A : Option Addr} {n c : Nat} {k : Nat} (hk : k ≤ n) (hc : n ≤ c) (w : World) :
    (Instr.sliceAt 23 (.slice A n c) (some (.int .i64 (k : Int))) none none).run Try.prog w = .ok (.slice (if c = k then A else A.map (·.add (k * 1))) (n - k) (c - k)) w := by
  have hrun := run_slice_l (P := Try.prog) w 23 A n c under31 .i64 (k : Int) (by omega) (by omega)
  rw [size31] at hrun
  rw [run_sliceAt_slice w 23 _ _ _ _ under31, hrun]
  rfl
set_option maxRecDepth 100000 in
theorem run_to {A : Option Addr} {n c : Nat} {k : Nat} (hk : k ≤ n) (hc : n ≤ c) (w : World) :
    (Instr.sliceAt 23 (.slice A n c) none (some (.int .i64 (k : Int))) none).run Try.prog w = .ok (.slice A k c) w := by
  have hrun := run_slice_h (P := Try.prog) w 23 A n c under31 .i64 (k : Int) (by omega) (by omega)
  rw [size31] at hrun
  rw [run_sliceAt_slice w 23 _ _ _ _ under31, hrun]
  show Result.ok (sliced A 0 k c 1) w = _
  congr 1
  cases A <;> simp [sliced, Addr.add]
theorem Ints.srcTo {w : World} {A : Option Addr} {n c : Nat} {zs : List Int} (h : Ints w A n c zs) (k : Nat) (hk : k ≤ n) : Src w A k c 1 ((zs.take k).map (Value.int .i64)) := by
  cases A with
  | none =>
    obtain ⟨rfl, rfl⟩ := h.nil rfl
    obtain rfl : k = 0 := by omega
    exact ⟨by simp, fun _ => ⟨rfl, rfl⟩, .inl rfl, map_one _⟩
  | some a => exact (h.take k hk (by simp)).src
theorem Ints.srcFrom {w : World} {A : Option Addr} {n c : Nat} {zs : List Int} (h : Ints w A n c zs) (k : Nat) (hk : k ≤ n) : Src w (if c = k then A else A.map (·.add (k * 1))) (n - k) (c - k) 1 ((zs.drop k).map (Value.int .i64)) := by
  have hl := h.len
  have hc := h.cap
  refine ⟨by rw [List.length_map, List.length_drop, hl, Nat.mul_one], fun e => ?_, ?_, map_one _⟩
  · have : A = none := by
      cases A with
      | none => rfl
      | some a => split at e <;> cases e
    obtain ⟨rfl, rfl⟩ := h.nil this
    exact ⟨by omega, by omega⟩
  · rcases h.at_ with h0 | ⟨b, off, rfl, hlt, hc2⟩
    · exact .inl (by omega)
    · by_cases e : n - k = 0
      · exact .inl e
      · refine .inr ⟨b, off + k, by rw [if_neg (by omega)]; simp [Addr.add], hlt, fun j u hu => ?_⟩
        have hj : j < n - k := by have := (List.getElem?_eq_some_iff.1 hu).1; rw [List.length_map, List.length_drop, hl] at this; exact this
        rw [List.getElem?_map, List.getElem?_drop, List.getElem?_eq_getElem (by omega)] at hu
        rw [Nat.add_assoc, hc2 (k + j) (by omega), ← hu, List.getD_eq_getElem?_getD, List.getElem?_eq_getElem (by omega)]
        rfl
theorem src_one (w : World) (x : Int) : Src (w.alloc (.cells #[.int .i64 x] 3)) (some ⟨w.heap.size, 0, none⟩) 1 1 1 [.int .i64 x] :=
  ⟨rfl, (fun e => by cases e), .inr ⟨_, 0, rfl, by simp, fun j u hu => by
    have hj : j = 0 := by have := (List.getElem?_eq_some_iff.1 hu).1; simp at this; exact this
    subst hj
    simp at hu
    rw [← hu]
    exact newc _ _ _ _ _ rfl⟩, fun u hu => by simp at hu; subst hu; rfl⟩
theorem intsP_own {w w' : World} {A : Option Addr} {n c : Nat} {zs : List Int} (h : Own w' w.heap.size A n c zs) (hn : n ≤ 1000000) (hb : Below w.heap.size w w') : IntsP w zs (.returned (.slice A n c)) w' := by
  have hl := own_len h
  subst hl
  exact ⟨A, c, rfl, own_ints h hn, hb⟩
theorem own_below {w w1 : World} {B : Nat} {e : TypeId} {sz n : Nat} {v : Value} {xs : List Value} (h : w.ownsRow B e sz v n xs) (hb : Below w.heap.size w w1) : w1.ownsRow B e sz v n xs := by
  refine ⟨h.1, h.2.imp id fun ⟨g, cap, cur, e, hg, hx, r⟩ => ⟨g, cap, cur, e, hg, ?_, r⟩⟩
  rw [hb.block g (by rcases Nat.lt_or_ge g w.heap.size with h | h; exact h; rw [Array.getElem?_eq_none h] at hx; cases hx)]
  exact hx
set_option maxHeartbeats 1600000 in
theorem put_any (A : Option Addr) (n c : Nat) (zs : List Int) (x : Int) (w : World) (h : Ints w A n c zs) (hn : n < 1000000) : Calls Try.prog 38 #[.slice A n c, .int .i64 x] w (IntsP w (M.put zs x)) := by
  have C := Lib.hid (rhas_any A n c zs x w h)
  have H := Lib.hid h
  have hc := h.cap
  clear h
  cases hq : hsB zs x with
  | true =>
    have HP := Lib.hid (show M.put zs x = zs by unfold M.put; rw [if_pos (show zs.contains x = true from hq)])
    rw [hq] at C
    clear hq
    go_enter Try.func38, Try.ntmps38
    go_wp2_with (go_at_call 46; refine C.out.mono ?_; rintro e w' ⟨rfl, rfl⟩)
    go_ret
    rw [HP.out]
    have hl := H.out.len
    subst hl
    exact ⟨A, c, rfl, H.out, Below.refl _ _⟩
  | false =>
    have HP := Lib.hid (show M.put zs x = zs.take (M.les zs x) ++ x :: zs.drop (M.les zs x) by unfold M.put; rw [if_neg (by unfold hsB at hq; rw [hq]; decide)])
    rw [hq] at C
    clear hq
    obtain ⟨i0, hi, hz0, hz1, hz2⟩ := info_parts info3
    have HI := Lib.hid (And.intro hi (And.intro hz0 (And.intro hz1 hz2)))
    clear hi hz0 hz1 hz2
    go_enter Try.func38, Try.ntmps38
    go_wp2_with (go_at_call 46; refine C.out.mono ?_; rintro e w' ⟨rfl, rfl⟩)
    go_loop [5] (fun i => ∃ k : Nat, k ≤ n ∧ i = .int .i64 k ∧ Hid (∀ j, j < k → zs.getD j 0 < x)) (fun i => n - (intOf i).toNat)
    case atStart => exact ⟨0, Nat.zero_le _, rfl, Lib.hid (fun j hj => by omega)⟩
    case round =>
      obtain ⟨k, hk, rfl, HO⟩ := hrel
      have key : (k < n ∧ ∃ z b off, A = some ⟨b, off, none⟩ ∧ zs.getD k 0 = z ∧ w.cell? ⟨b, off + k, none⟩ = some (.int .i64 z) ∧ z < x) ∨ (M.les zs x = k ∧ (k = n ∨ k < n ∧ ∃ z b off, A = some ⟨b, off, none⟩ ∧ w.cell? ⟨b, off + k, none⟩ = some (.int .i64 z) ∧ ¬ z < x)) := by
        have hl := H.out.len
        rcases Nat.lt_or_ge k n with hlt | hge
        · obtain ⟨b, off, e, _, hcell⟩ := H.out.get hlt
          by_cases hz : zs.getD k 0 < x
          · exact .inl ⟨hlt, _, b, off, e, rfl, hcell, hz⟩
          · exact .inr ⟨M.les_is (by omega) HO.out (fun _ => hz), .inr ⟨hlt, _, b, off, e, hcell, hz⟩⟩
        · exact .inr ⟨M.les_is (by omega) HO.out (fun h => by omega), .inl (by omega)⟩
      rcases key with ⟨hlt, z, b, off, rfl, hz, hcell, hzx⟩ | ⟨hles, hend⟩
      · have hltz : decide ((k : Int) < (n : Int)) = true := decide_eq_true (by omega)
        have g : decide (z < x) = true := decide_eq_true hzx
        have HZ := Lib.hid hz
        clear hz
        go_wp2
        go_round
        case rel => exact ⟨k + 1, by omega, by go_num, Lib.hid (fun j hj => by
          rcases Nat.lt_or_ge j k with h1 | h1
          · exact HO.out j h1
          · rw [show j = k by omega, HZ.out]; exact hzx)⟩
        case measure => simp [intOf]; omega
      · have HLES := Lib.hid hles
        have r1 := run_to (A := A) hk hc
        have r2 := run_from (A := A) hk hc
        have HS1 := Lib.hid (H.out.srcTo k hk)
        have HS2 := Lib.hid (H.out.srcFrom k hk)
        have HFIN := Lib.hid (show M.put zs x = zs.take k ++ x :: zs.drop k by rw [HP.out, HLES.out])
        have HO1 := Lib.hid (World.ownsRow_made (base := w.heap.size) (e := 3) (size := 1) w #[] 0 (Nat.le_refl _) (by decide) (by simp))
        have HBW := Lib.hid (Below.alloc (Below.refl w.heap.size w) (Nat.le_refl _) (.cells #[] 3))
        have HS1' := Lib.hid (HS1.out.below HBW.out)
        generalize (if c = k then A else Option.map (fun x => x.add (k * 1)) A) = A2 at *
        clear hles HLES
        have fin : (((k < n ∧ ∃ z b off, A = some ⟨b, off, none⟩ ∧ w.cell? ⟨b, off + k, none⟩ = some (.int .i64 z) ∧ (k : Int) < (n : Int) ∧ decide (z < x) = false)) ∨ (¬ k < n ∧ ¬ (k : Int) < (n : Int))) := by
          rcases hend with rfl | ⟨hlt, z, b, off, e, hcell, hzx⟩
          · exact .inr ⟨by omega, by omega⟩
          · exact .inl ⟨hlt, z, b, off, e, hcell, by omega, decide_eq_false hzx⟩
        clear hend
        rcases fin with ⟨hlt, z, b, off, rfl, hcell, g1, g2⟩ | ⟨g0, g1⟩
        all_goals
          go_wp2_with (first
            | (at_builtin; refine wpList_append_any _ rfl _ _ 23 rfl w.heap.size 3 i0 _ 1 8 Try.underlying23 HI.out.1 HI.out.2.1 HI.out.2.2.1 HI.out.2.2.2 rfl (by decide) _ (0) ([]) rfl HO1.out _ (k) (_) ((zs.take k).map (Value.int .i64)) rfl HS1'.out (by unfold maxLen; omega) (by omega) HBW.out.size ?_; intro v2 w2 hg; have HG2 := Lib.hid hg; clear hg; have HB2 := Lib.hid (HG2.out.below HBW.out HO1.out); have HO2 := Lib.hid (show w2.ownsRow w.heap.size 3 1 v2 k ((zs.take k).map (Value.int .i64)) by have := HG2.out.own; rw [Nat.zero_add, List.nil_append] at this; exact this); clear HG2; have HX := Lib.hid (src_one w2 x); have HBX := Lib.hid (Below.alloc (Below.refl w2.heap.size w2) (Nat.le_refl _) (.cells #[.int .i64 x] 3)); have HBX2 := Lib.hid (HB2.out.trans (HBX.out.mono HB2.out.size)); have HO3 := Lib.hid (own_below HO2.out HBX.out))
            | (at_builtin; refine wpList_append_any _ rfl _ _ 23 rfl w.heap.size 3 i0 _ 1 8 Try.underlying23 HI.out.1 HI.out.2.1 HI.out.2.2.1 HI.out.2.2.2 rfl (by decide) _ (k) ((zs.take k).map (Value.int .i64)) rfl HO3.out _ (1) (1) ([Value.int .i64 x]) rfl HX.out (by unfold maxLen; omega) (by omega) HBX2.out.size ?_; intro v3 w3 hg; have HG3 := Lib.hid hg; clear hg; have HB3 := Lib.hid (HG3.out.below HBX2.out HO3.out); have HO4 := Lib.hid HG3.out.own; have HS3 := Lib.hid (HS2.out.below HB3.out); clear HG3)
            | (at_builtin; refine wpList_append_any _ rfl _ _ 23 rfl w.heap.size 3 i0 _ 1 8 Try.underlying23 HI.out.1 HI.out.2.1 HI.out.2.2.1 HI.out.2.2.2 rfl (by decide) _ (k + 1) ((zs.take k).map (Value.int .i64) ++ [Value.int .i64 x]) rfl HO4.out _ (n - k) (_) ((zs.drop k).map (Value.int .i64)) rfl HS3.out (by unfold maxLen; omega) (by omega) HB3.out.size ?_; intro v4 w4 hg; have HG4 := Lib.hid hg; clear hg; have HB4 := Lib.hid (HG4.out.below HB3.out HO4.out); have HO5 := Lib.hid (show w4.ownsRow w.heap.size 3 1 v4 (n + 1) ((zs.take k ++ x :: zs.drop k).map (Value.int .i64)) by have := HG4.out.own; rw [show k + 1 + (n - k) = n + 1 by omega] at this; simpa using this); clear HG4))
          obtain ⟨A4, c4, e4, _, _⟩ := own_slice HO5.out
          subst e4
          go_ret
          rw [HFIN.out]
          exact intsP_own HO5.out (by omega) HB4.out
end Go.Proofs.Ytefajhfahnhcgaa.Q
