/- The walks of num's lists: copies, Union and Minus of the program. Bounds: at most 1000 elements a list. -/
import Derived.Test.YtaaaeeljjfblnaaDoorL10
import Derived.Test.YtaaaeeljjfblnaaDoorShelf8
import Derived.OwnWalk
namespace Go.Proofs.YtaaaeeljjfblnaaDoor.Q
open Go.Proofs.YtaaaeeljjfblnaaDoor
open Go.RowKit Go.Sort
set_option linter.unusedVariables false

def GrowP (w : World) (e : Ending) (w' : World) : Prop := ∃ A c, e = .returned (.slice A 0 c) ∧ Own w' w.heap.size A 0 c [] ∧ Below w.heap.size w w'
theorem grow_any (n : Nat) (hn : n ≤ 2000) (w : World) : Calls Tryd.prog 40 #[.slice none 0 0, .int .i64 (n : Int)] w (GrowP w) := by
  obtain ⟨i0, hi, hz0, hz1, hz2⟩ := info_parts info3
  rcases Nat.eq_zero_or_pos n with rfl | h0
  · exact (Tryd.slices_Grow_room none 0 0 0 w (Nat.le_refl _) (by omega) (by omega) (by omega)).mono fun e w' ⟨he, hw⟩ => ⟨none, 0, he, World.ownsRow_nil _ _ _ _, by rw [hw]; exact Below.refl _ _⟩
  · refine (Tryd.slices_Grow_grow i0 (.int .i64 0) hi hz0 (by omega) none 0 0 n [] w (Nat.le_refl _) (by omega) (by rw [hz2]; omega) (by omega) (by simp) (fun _ => rfl) (fun a e => by cases e)).mono fun e w' ⟨he, hw⟩ => ?_
    have hge := grownCap_ge w (0 + n) 0 3
    have hmx := grownCap_le_maxLen w (0 + n) 0 3 (by unfold maxLen; omega)
    refine ⟨_, _, he, ?_, ?_⟩
    · rw [hw]
      exact World.ownsRow_made (base := w.heap.size) (e := 3) (size := 1) w.drew _ _ (Nat.le_refl _) hmx (by have h5 := hge; rw [Nat.zero_add] at h5 ⊢; simp [Builtin.zeroCells, Value.cells]; omega)
    · rw [hw]
      exact (Below.refl w.heap.size w).drew.alloc (Nat.le_refl _) _
/-- The two lists that are joined. -/
structure Two (w : World) (g : Nat) (A : Option Addr) (n c : Nat) (A' : Option Addr) (n' c' : Nat) : Prop where
  lt : g < w.heap.size
  c0 : w.cell? ⟨g, 0, none⟩ = some (.slice A n c)
  c1 : w.cell? ⟨g, 1, none⟩ = some (.slice A' n' c')
theorem Two.below {w w1 : World} {g : Nat} {A : Option Addr} {n c : Nat} {A' : Option Addr} {n' c' : Nat} (h : Two w g A n c A' n' c') (hb : Below w.heap.size w w1) : Two w1 g A n c A' n' c' :=
  ⟨Nat.lt_of_lt_of_le h.lt hb.size, (hb.cell (p := ⟨g, 0, none⟩) h.lt).trans h.c0, (hb.cell (p := ⟨g, 1, none⟩) h.lt).trans h.c1⟩
theorem two_new (w : World) (A : Option Addr) (n c : Nat) (A' : Option Addr) (n' c' : Nat) : Two (w.alloc (.cells #[.slice A n c, .slice A' n' c'] 25)) w.heap.size A n c A' n' c' :=
  ⟨by simp, by rw [cell_of_row _ _ _ _ _ _ (heap_alloc_new w _)]; rfl, by rw [cell_of_row _ _ _ _ _ _ (heap_alloc_new w _)]; rfl⟩
set_option maxHeartbeats 1600000 in
theorem concat_any (g : Nat) (A : Option Addr) (n c : Nat) (zs : List Int) (A' : Option Addr) (n' c' : Nat) (ys : List Int) (w : World) (h : Ints w A n c zs) (h' : Ints w A' n' c' ys) (hn : n ≤ 1000) (hn' : n' ≤ 1000) (hg : Two w g A n c A' n' c') :
    Calls Tryd.prog 33 #[.slice (some ⟨g, 0, none⟩) 2 2] w (IntsP w (zs ++ ys)) := by
  have H := Lib.hid h
  have H' := Lib.hid h'
  have HT := Lib.hid hg
  obtain ⟨_, t0, t1⟩ := hg
  clear h h'
  obtain ⟨i0, hi, hz0, hz1, hz2⟩ := info_parts info3
  have HI := Lib.hid (And.intro hi (And.intro hz0 (And.intro hz1 hz2)))
  clear hi hz0 hz1 hz2
  go_enter Tryd.func33, Tryd.ntmps33
  go_wp2
  go_loop [3, 11] (fun s3 s11 => (s11 = .int .i64 0 ∧ s3 = .int .i64 0) ∨ (s11 = .int .i64 1 ∧ s3 = .int .i64 (n : Int)) ∨ (s11 = .int .i64 2 ∧ s3 = .int .i64 ((n : Int) + (n' : Int)))) (fun _ s11 => (2 - intOf s11).toNat)
  case atStart => exact .inl ⟨rfl, rfl⟩
  case round =>
    rcases hrel with ⟨rfl, rfl⟩ | ⟨rfl, rfl⟩ | ⟨rfl, rfl⟩
    · go_wp2
      go_round
      case rel => exact .inr (.inl ⟨rfl, rfl⟩)
      case measure => decide
    · go_wp2
      go_round
      case rel => exact .inr (.inr ⟨rfl, rfl⟩)
      case measure => decide
    · have C := Lib.hid (fun w => (show Calls Tryd.prog 40 #[.slice none 0 0, .int .i64 ((n : Int) + (n' : Int))] w (GrowP w) by have := grow_any (n + n') (by omega) w; rw [Int.natCast_add] at this; exact this))
      clear t0 t1
      go_wp2_with (go_at_call 40; refine (C.out _).mono ?_; rintro e w1 ⟨A1, c1, rfl, ho, hb⟩; have HO1 := Lib.hid ho; have HB1 := Lib.hid hb; clear ho hb)
      go_loopw [6, 27] (fun s6 s27 wr => ∃ (v : Value) (m : Nat) (acc : List Int), s6 = v ∧ Hid (wr.ownsRow w.heap.size 3 1 v m (acc.map (Value.int .i64))) ∧ Hid (Below w.heap.size w wr) ∧ ((s27 = .int .i64 0 ∧ m = 0 ∧ Hid (acc = [])) ∨ (s27 = .int .i64 1 ∧ m ≤ 1000 ∧ Hid (acc = zs)) ∨ (s27 = .int .i64 2 ∧ m ≤ 2000 ∧ Hid (acc = zs ++ ys)))) (fun _ s27 _ => (2 - intOf s27).toNat)
      case atStart => exact ⟨_, 0, [], rfl, HO1, HB1, .inl ⟨rfl, rfl, Lib.hid rfl⟩⟩
      case round =>
        obtain ⟨v, m, acc, rfl, HA, HB, hcase⟩ := hrel
        obtain ⟨_, t0, t1⟩ := HT.out.below HB.out
        rcases hcase with ⟨rfl, rfl, HX⟩ | ⟨rfl, hm, HX⟩ | ⟨rfl, hm, HX⟩
        · have HS := Lib.hid (H.out.src.below HB.out)
          go_wp2_with (at_builtin; refine wpList_append_any _ rfl _ _ 25 rfl w.heap.size 3 i0 _ 1 8 Tryd.underlying25 HI.out.1 HI.out.2.1 HI.out.2.2.1 HI.out.2.2.2 rfl (by decide) _ (0) (acc.map (Value.int .i64)) rfl HA.out _ (n) (_) (zs.map (Value.int .i64)) rfl HS.out (by unfold maxLen; omega) (by omega) HB.out.size ?_; intro v2 w2 hg; have HG2 := Lib.hid hg; clear hg; have HB2 := Lib.hid (HG2.out.below HB.out HA.out); have HO2 := Lib.hid (show w2.ownsRow w.heap.size 3 1 v2 n (zs.map (Value.int .i64)) by have := HG2.out.own; rw [HX.out, Nat.zero_add] at this; simpa using this); clear HG2)
          go_roundw
          case rel => exact ⟨_, n, zs, rfl, HO2, HB2, .inr (.inl ⟨rfl, hn, Lib.hid rfl⟩)⟩
          case measure => decide
        · have HS := Lib.hid (H'.out.src.below HB.out)
          go_wp2_with (at_builtin; refine wpList_append_any _ rfl _ _ 25 rfl w.heap.size 3 i0 _ 1 8 Tryd.underlying25 HI.out.1 HI.out.2.1 HI.out.2.2.1 HI.out.2.2.2 rfl (by decide) _ (m) (acc.map (Value.int .i64)) rfl HA.out _ (n') (_) (ys.map (Value.int .i64)) rfl HS.out (by unfold maxLen; omega) (by omega) HB.out.size ?_; intro v2 w2 hg; have HG2 := Lib.hid hg; clear hg; have HB2 := Lib.hid (HG2.out.below HB.out HA.out); have HO2 := Lib.hid (show w2.ownsRow w.heap.size 3 1 v2 (m + n') ((zs ++ ys).map (Value.int .i64)) by have := HG2.out.own; rw [HX.out] at this; simpa using this); clear HG2)
          go_roundw
          case rel => exact ⟨_, m + n', zs ++ ys, rfl, HO2, HB2, .inr (.inr ⟨rfl, by omega, Lib.hid rfl⟩)⟩
          case measure => decide
        · obtain ⟨A4, c4, e4, _, _⟩ := own_slice HA.out
          subst e4
          go_wp2
          go_ret
          rw [← HX.out]
          exact intsP_own HA.out (by omega) HB.out
theorem union_any (A : Option Addr) (n c : Nat) (zs : List Int) (A' : Option Addr) (n' c' : Nat) (ys : List Int) (w : World) (h : Ints w A n c zs) (h' : Ints w A' n' c' ys) (hn : n ≤ 1000) (hn' : n' ≤ 1000) :
    Calls Tryd.prog 25 #[.slice A n c, .slice A' n' c'] w (IntsP w (M.st (zs ++ ys))) := by
  have HBA := Lib.hid (Below.alloc (Below.refl w.heap.size w) (Nat.le_refl _) (.cells #[.slice A n c, .slice A' n' c'] 25))
  have C := Lib.hid (concat_any w.heap.size A n c zs A' n' c' ys _ (h.below HBA.out) (h'.below HBA.out) hn hn' (two_new w A n c A' n' c'))
  generalize zs ++ ys = l at *
  clear h h'
  go_enter Tryd.func25, Tryd.ntmps25
  go_wp2_with (first
    | (go_at_call 33; refine C.out.mono ?_; rintro e w1 ⟨A2, c2, rfl, hi, hb⟩; have HI2 := Lib.hid hi; have HB2 := Lib.hid (HBA.out.trans (hb.mono HBA.out.size)); clear hi hb)
    | (go_at_call 24; refine (sorted_any A2 _ c2 l _ HI2.out).mono ?_; rintro e w3 ⟨A3, c3, rfl, hi, hb⟩; have HI3 := Lib.hid hi; have HB3 := Lib.hid (HB2.out.trans (hb.mono HB2.out.size)); clear hi hb))
  go_ret
  exact ⟨A3, c3, rfl, HI3.out, HB3.out⟩
end Go.Proofs.YtaaaeeljjfblnaaDoor.Q
