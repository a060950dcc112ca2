/- The walks of num's lists: copies, Sorted. Bounds: at most a million elements. -/
import Derived.Test.YtefajhfahnhcgaaQL7
namespace Go.Proofs.Ytefajhfahnhcgaa.Q
open Go.Proofs.Ytefajhfahnhcgaa
open Go.RowKit Go.Sort
set_option linter.unusedVariables false

/-- A row of the call's own. -/
abbrev Own (w : World) (B : Nat) (A : Option Addr) (n c : Nat) (zs : List Int) : Prop := w.ownsRow B 3 1 (.slice A n c) n (zs.map (Value.int .i64))
def CloneP (w : World) (n : Nat) (zs : List Int) (e : Ending) (w' : World) : Prop := ∃ A c, e = .returned (.slice A n c) ∧ Own w' w.heap.size A n c zs ∧ Below w.heap.size w w'
theorem clone_any (A : Option Addr) (n c : Nat) (zs : List Int) (w : World) (h : Ints w A n c zs) : Calls Try.prog 43 #[.slice A n c] w (CloneP w n zs) := by
  cases A with
  | none =>
    obtain ⟨rfl, rfl⟩ := h.nil rfl
    rw [h.zero]
    refine (Try.slices_Clone_int_nil 0 0 w).mono fun e w' ⟨he, hw⟩ => ⟨none, 0, he, World.ownsRow_nil _ _ _ _, by rw [hw]; exact Below.refl _ _⟩
  | some a =>
    rcases Nat.eq_zero_or_pos n with rfl | h0
    · rw [h.zero]
      refine (Try.slices_Clone_int_zero a c w).mono fun e w' ⟨v, he, ho, _, hb⟩ => ?_
      obtain ⟨A', c', rfl, _⟩ := own_slice ho
      exact ⟨A', c', he, ho, hb⟩
    · obtain ⟨b, off, e, _, hc⟩ := h.at1 h0
      cases e
      refine (Try.slices_Clone_int b off n c zs w (by rw [h.len]; exact Nat.le_refl _) (by have := h.big; omega) hc).mono fun e w' ⟨v, he, ho, _, hb⟩ => ?_
      obtain ⟨A', c', rfl, _⟩ := own_slice ho
      rw [List.take_of_length_le (by rw [h.len]; exact Nat.le_refl _)] at ho
      exact ⟨A', c', he, ho, hb⟩
def SortP (w : World) (B : Nat) (A : Option Addr) (n c : Nat) (zs : List Int) (e : Ending) (w' : World) : Prop := e = .returned (.tuple #[]) ∧ Own w' B A n c (M.srtd zs) ∧ Below B w w'
theorem own_len {w : World} {B : Nat} {A : Option Addr} {n c : Nat} {zs : List Int} (h : Own w B A n c zs) : zs.length = n := by have := h.1; rw [List.length_map] at this; omega
theorem sort_any (B : Nat) (A : Option Addr) (n c : Nat) (zs : List Int) (w : World) (h : Own w B A n c zs) (hB : B ≤ w.heap.size) (hn : n ≤ 1000000) : Calls Try.prog 44 #[.slice A n c] w (SortP w B A n c zs) := by
  have hl := own_len h
  rcases Nat.eq_zero_or_pos n with rfl | h0
  · have hz : zs = [] := List.eq_nil_of_length_eq_zero hl
    subst hz
    have h0 : M.srtd [] = [] := by unfold M.srtd; simp
    unfold SortP
    rw [h0]
    exact (Try.slices_Sort_int_none A c w).mono fun e w' ⟨he, hw⟩ => ⟨he, by rw [hw]; exact h, by rw [hw]; exact Below.refl _ _⟩
  · rcases h.2 with ⟨_, h1⟩ | ⟨g, cap, cur, hv, hbase, hblk, h1, h2, h3, h4⟩
    · omega
    · simp only [Value.slice.injEq, true_and] at hv
      obtain ⟨rfl, rfl⟩ := hv
      subst hl
      refine (Try.slices_Sort_int g 0 c zs w (holds_of_blockI hblk (by simpa using h4)) (Array.getElem?_eq_some_iff.1 hblk).1 (by omega)).mono fun e w' ⟨he, n, os, hw⟩ => ⟨he, ?_, ?_⟩
      · rw [hw]
        exact ownsRow_sortedI (M.len_srtd zs) hbase hblk h1 h2 h3
      · rw [hw]
        exact (Below.refl B w).grown (grownBy_sortedI _) hB (fun k hk => by cases hk; exact hbase)
def CompactP (w : World) (B : Nat) (A0 : Option Addr) (zs : List Int) (e : Ending) (w' : World) : Prop := ∃ c, e = .returned (.slice A0 (Lib.compact zs).length c) ∧ Ints w' A0 (Lib.compact zs).length c (Lib.compact zs) ∧ Below B w w'
theorem own_new {w : World} {B : Nat} {A : Option Addr} {n c : Nat} {zs : List Int} (h : Own w B A n c zs) : ∀ b off, A = some ⟨b, off, none⟩ → B ≤ b := by
  rintro b off rfl
  rcases h.2 with ⟨hv, _⟩ | ⟨g, cap, cur, hv, hg, _⟩
  · simp at hv
  · simp only [Value.slice.injEq, Option.some.injEq, Addr.mk.injEq] at hv
    rw [hv.1.1]; exact hg
theorem compact_any (B : Nat) (A : Option Addr) (n c : Nat) (zs : List Int) (w : World) (h : Own w B A n c zs) (hB : B ≤ w.heap.size) (hn : n ≤ 1000000) : Calls Try.prog 45 #[.slice A n c] w (CompactP w B A zs) := by
  have hl := own_len h
  rcases Nat.eq_zero_or_pos n with rfl | h0
  · have hz : zs = [] := List.eq_nil_of_length_eq_zero hl
    subst hz
    have h0 : Lib.compact ([] : List Int) = [] := by simp [Lib.compact, Lib.compactUpTo]
    unfold CompactP
    rw [h0]
    exact (Try.slices_Compact_int_empty A c w).mono fun e w' ⟨he, hw⟩ => ⟨c, he, by rw [hw]; exact own_ints h hn, by rw [hw]; exact Below.refl _ _⟩
  · rcases h.2 with ⟨_, h1⟩ | ⟨g, cap, cur, hv, hbase, hblk, h1, h2, h3, h4⟩
    · omega
    · simp only [Value.slice.injEq, true_and] at hv
      obtain ⟨rfl, rfl⟩ := hv
      subst hl
      have hcl : (Lib.compact zs).length ≤ zs.length := by
        unfold Lib.compact Lib.compactUpTo
        rw [List.length_map]
        exact Nat.le_trans (List.length_filter_le _ _) (by simp)
      refine (Try.slices_Compact_int g 0 c zs w (holds_of_blockI hblk (by simpa using h4)) (by omega) h1).mono fun e w' ⟨he, q, hw⟩ => ?_
      rw [← grow_empty (putRow _ _ _ _ _)] at hw
      refine ⟨_, he, ?_, ?_⟩
      · have ho : Own w' B (some ⟨g, 0, none⟩) zs.length c (Lib.compact zs ++ List.replicate (zs.length - (Lib.compact zs).length) 0) := by
          rw [hw]
          exact ownsRow_sortedI (by rw [List.length_append, List.length_replicate]; omega) hbase hblk h1 h2 h3
        have := (own_ints ho hn).take (Lib.compact zs).length hcl (by simp)
        rwa [List.take_left'  rfl] at this
      · rw [hw]
        exact (Below.refl B w).grown (grownBy_sortedI _) hB (fun k hk => by cases hk; exact hbase)
/-- A result that is a list. -/
def IntsP (w : World) (zs : List Int) (e : Ending) (w' : World) : Prop := ∃ A c, e = .returned (.slice A zs.length c) ∧ Ints w' A zs.length c zs ∧ Below w.heap.size w w'
/-- .. in new memory. -/
def IntsN (w : World) (zs : List Int) (e : Ending) (w' : World) : Prop := ∃ A c, e = .returned (.slice A zs.length c) ∧ Ints w' A zs.length c zs ∧ Below w.heap.size w w' ∧ ∀ b off, A = some ⟨b, off, none⟩ → w.heap.size ≤ b
theorem sortedN_any (A : Option Addr) (n c : Nat) (zs : List Int) (w : World) (h : Ints w A n c zs) : Calls Try.prog 36 #[.slice A n c] w (IntsN w (M.st zs)) := by
  have hm := h.big
  have C1 := Lib.hid (clone_any A n c zs w h)
  have HL := Lib.hid (show (M.srtd zs).length = n by rw [M.len_srtd, h.len])
  clear h
  go_enter Try.func36, Try.ntmps36
  go_wp2_with (go_at_call 43; refine C1.out.mono ?_; rintro e w1 ⟨A1, c1, rfl, ho, hb1⟩; have HO := Lib.hid ho; have HB1 := Lib.hid hb1; clear ho hb1)
  go_wp2_with (go_at_call 44; refine (sort_any w.heap.size A1 n c1 zs _ HO.out HB1.out.size hm).mono ?_; rintro e w2 ⟨rfl, ho, hb2⟩; have HO2 := Lib.hid ho; have HB2 := Lib.hid (HB1.out.trans hb2); clear ho hb2)
  go_wp2_with (go_at_call 45; refine (compact_any w.heap.size A1 n c1 _ _ HO2.out HB2.out.size hm).mono ?_; rintro e w3 ⟨c3, rfl, hi, hb3⟩; have HI := Lib.hid hi; have HB3 := Lib.hid (HB2.out.trans hb3); clear hi hb3)
  go_ret
  exact ⟨A1, c3, rfl, HI.out, HB3.out, own_new HO.out⟩
theorem sorted_any (A : Option Addr) (n c : Nat) (zs : List Int) (w : World) (h : Ints w A n c zs) : Calls Try.prog 36 #[.slice A n c] w (IntsP w (M.st zs)) :=
  (sortedN_any A n c zs w h).mono fun e w' ⟨A', c', he, hi, hb, _⟩ => ⟨A', c', he, hi, hb⟩
end Go.Proofs.Ytefajhfahnhcgaa.Q
