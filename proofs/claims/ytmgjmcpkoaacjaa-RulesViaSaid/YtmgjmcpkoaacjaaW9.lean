/- The helper `lives` of the rules' statements returns true in every world. No condition. -/
import Derived.Test.YtmgjmcpkoaacjaaW8
namespace Go.Proofs.Ytmgjmcpkoaacjaa
open Go.RowKit
set_option linter.unusedVariables false

abbrev bA : ByteArray := ⟨#[64, 97, 58, 115]⟩
abbrev bB : ByteArray := ⟨#[64, 98, 58, 115]⟩
abbrev bR : ByteArray := ⟨#[33, 114, 58, 115]⟩
/-- The three events of the example; the allowed rooms lie in block `a`. -/
def EL (a : Nat) : Nat → Ev
  | 0 => { v0 := .int .i64 0, v1 := .string ⟨#[]⟩, snd := ⟨#[64, 97, 58, 115]⟩, kd := 1, v4 := .bool false, key := ⟨#[]⟩, v6 := .int .i64 0, v7 := .int .i64 0, v8 := .slice none 0 0, v9 := .slice none 0 0, v10 := .string ⟨#[]⟩, n := 0, v12 := .int .i64 0, v13 := .bool false, v14 := .string ⟨#[]⟩, aA := none, lA := 0, cA := 0, v16 := .slice none 0 0, v17 := .slice none 0 0, v18 := .slice none 0 0, v19 := .int .i64 0, v20 := .int .i64 0, v21 := .int .i64 0, v22 := .int .i64 0, v23 := .int .i64 0, v24 := .int .i64 0, v25 := .int .i64 0, v26 := .int .i64 0, v27 := .string ⟨#[]⟩, v28 := .int .i64 0 }
  | 1 => { v0 := .int .i64 0, v1 := .string ⟨#[]⟩, snd := ⟨#[64, 97, 58, 115]⟩, kd := 2, v4 := .bool false, key := ⟨#[64, 97, 58, 115]⟩, v6 := .int .i64 0, v7 := .int .i64 0, v8 := .slice none 0 0, v9 := .slice none 0 0, v10 := .string ⟨#[]⟩, n := 3, v12 := .int .i64 0, v13 := .bool false, v14 := .string ⟨#[]⟩, aA := none, lA := 0, cA := 0, v16 := .slice none 0 0, v17 := .slice none 0 0, v18 := .slice none 0 0, v19 := .int .i64 0, v20 := .int .i64 0, v21 := .int .i64 0, v22 := .int .i64 0, v23 := .int .i64 0, v24 := .int .i64 0, v25 := .int .i64 0, v26 := .int .i64 0, v27 := .string ⟨#[]⟩, v28 := .int .i64 0 }
  | _ => { v0 := .int .i64 0, v1 := .string ⟨#[]⟩, snd := ⟨#[]⟩, kd := 4, v4 := .bool false, key := ⟨#[]⟩, v6 := .int .i64 0, v7 := .int .i64 0, v8 := .slice none 0 0, v9 := .slice none 0 0, v10 := .string ⟨#[]⟩, n := 3, v12 := .int .i64 0, v13 := .bool false, v14 := .string ⟨#[]⟩, aA := (some ⟨a, 0, none⟩), lA := 1, cA := 1, v16 := .slice none 0 0, v17 := .slice none 0 0, v18 := .slice none 0 0, v19 := .int .i64 0, v20 := .int .i64 0, v21 := .int .i64 0, v22 := .int .i64 0, v23 := .int .i64 0, v24 := .int .i64 0, v25 := .int .i64 0, v26 := .int .i64 0, v27 := .string ⟨#[]⟩, v28 := .int .i64 0 }
theorem app3 (x y z : List Value) (hx : x.length = 29) (hy : y.length = 29) (hz : z.length = 29) (L : Nat → List Value) (h0 : L 0 = x) (h1 : L 1 = y) (h2 : L 2 = z) :
    ∀ j, j < 3 → ∀ i v, (L j)[i]? = some v → (x ++ (y ++ z))[0 + j * 29 + i]? = some v := by
  intro j hj i v hv
  obtain rfl | rfl | rfl : j = 0 ∨ j = 1 ∨ j = 2 := by omega
  · rw [h0] at hv
    have hi : i < 29 := by rw [← hx]; exact (List.getElem?_eq_some_iff.1 hv).1
    rw [List.getElem?_append_left (by omega), show 0 + 0 * 29 + i = i by omega]; exact hv
  · rw [h1] at hv
    have hi : i < 29 := by rw [← hy]; exact (List.getElem?_eq_some_iff.1 hv).1
    rw [List.getElem?_append_right (by omega), List.getElem?_append_left (by omega), show 0 + 1 * 29 + i - x.length = i by omega]; exact hv
  · rw [h2] at hv
    rw [List.getElem?_append_right (by omega), List.getElem?_append_right (by omega), show 0 + 2 * 29 + i - x.length - y.length = i by omega]; exact hv
abbrev CL (w : World) : Array Value := #[.int .i64 0, .string ⟨#[]⟩, .string ⟨#[64, 97, 58, 115]⟩, .int .i64 1, .bool false, .string ⟨#[]⟩, .int .i64 0, .int .i64 0, .slice none 0 0, .slice none 0 0, .string ⟨#[]⟩, .int .i64 0, .int .i64 0, .bool false, .string ⟨#[]⟩, .slice none 0 0, .slice none 0 0, .slice none 0 0, .slice none 0 0, .int .i64 0, .int .i64 0, .int .i64 0, .int .i64 0, .int .i64 0, .int .i64 0, .int .i64 0, .int .i64 0, .string ⟨#[]⟩, .int .i64 0, .int .i64 0, .string ⟨#[]⟩, .string ⟨#[64, 97, 58, 115]⟩, .int .i64 2, .bool false, .string ⟨#[64, 97, 58, 115]⟩, .int .i64 0, .int .i64 0, .slice none 0 0, .slice none 0 0, .string ⟨#[]⟩, .int .i64 3, .int .i64 0, .bool false, .string ⟨#[]⟩, .slice none 0 0, .slice none 0 0, .slice none 0 0, .slice none 0 0, .int .i64 0, .int .i64 0, .int .i64 0, .int .i64 0, .int .i64 0, .int .i64 0, .int .i64 0, .int .i64 0, .string ⟨#[]⟩, .int .i64 0, .int .i64 0, .string ⟨#[]⟩, .string ⟨#[]⟩, .int .i64 4, .bool false, .string ⟨#[]⟩, .int .i64 0, .int .i64 0, .slice none 0 0, .slice none 0 0, .string ⟨#[]⟩, .int .i64 3, .int .i64 0, .bool false, .string ⟨#[]⟩, .slice (some ⟨w.heap.size, 0, none⟩) 1 1, .slice none 0 0, .slice none 0 0, .slice none 0 0, .int .i64 0, .int .i64 0, .int .i64 0, .int .i64 0, .int .i64 0, .int .i64 0, .int .i64 0, .int .i64 0, .string ⟨#[]⟩, .int .i64 0]
theorem cl_eq (w : World) : CL w = (enc (EL w.heap.size 0) ++ (enc (EL w.heap.size 1) ++ enc (EL w.heap.size 2))).toArray := rfl
abbrev w2L (w : World) : World := (w.alloc (.cells #[.string ⟨#[33, 114, 58, 115]⟩] 9)).alloc (.cells (CL w) 36)
theorem evs_lives (w : World) : Evs (w2L w) (w.heap.size + 1) 0 3 (EL w.heap.size) := by
  refine ⟨by simp, by omega, fun j hj i v hv => ?_⟩
  rw [cell_of_row _ _ _ _ _ _ (heap_alloc2_new w _ _), cl_eq, List.getElem?_toArray]
  exact app3 _ _ _ rfl rfl rfl (fun j => enc (EL w.heap.size j)) rfl rfl rfl j hj i v hv
theorem first1 (a : Nat) : FirstPost (EL a) 1 3 (0 : Nat) := .inl ⟨0, by omega, rfl, fun j hj => absurd hj (by omega), rfl⟩
theorem first3 (a : Nat) : FirstPost (EL a) 3 3 (-1) := .inr ⟨fun j hj => by
  obtain rfl | rfl | rfl : j = 0 ∨ j = 1 ∨ j = 2 := by omega
  · show (1 : Int) ≠ 3; decide
  · show (2 : Int) ≠ 3; decide
  · show (4 : Int) ≠ 3; decide, rfl⟩
theorem memA (a : Nat) : MemPost (EL a) bA 3 3 := .inl ⟨1, by omega, by show (((2 : Int) == 2) && (bA.toList == bA.toList)) = true; decide +kernel, fun j hj => by
  obtain rfl : j = 0 := by omega
  show (((1 : Int) == 2) && ((ByteArray.mk #[]).toList == bA.toList)) = false; rfl, rfl⟩
theorem memB (a : Nat) : MemPost (EL a) bB 3 0 := .inr ⟨fun j hj => by
  obtain rfl | rfl | rfl : j = 0 ∨ j = 1 ∨ j = 2 := by omega
  · show (((1 : Int) == 2) && ((ByteArray.mk #[]).toList == bB.toList)) = false; rfl
  · show (((2 : Int) == 2) && (bA.toList == bB.toList)) = false; decide +kernel
  · show (((4 : Int) == 2) && ((ByteArray.mk #[]).toList == bB.toList)) = false; rfl, rfl⟩
theorem userA : UserPost (fun _ => (bA, 100)) bA 1 0 100 := .inl ⟨0, by omega, by show (bA.toList == bA.toList) = true; exact beq_self_eq_true _, fun j hj => absurd hj (by omega), rfl⟩
theorem bA_some : (bA.toList == []) = false := by decide +kernel
theorem of_lives (w W : World) (hW : Evs W (w.heap.size + 1) 0 3 (EL w.heap.size)) (hb : w.heap.size < W.heap.size) (hc : W.cell? ⟨w.heap.size, 0, none⟩ = some (.string bR)) :
    Calls Try.prog 9 #[.slice (some ⟨w.heap.size + 1, 0, none⟩) 3 3] W fun e w' => ∃ h cap, e = .returned (.tuple #[.int .i64 3, .slice (some ⟨h, 0, none⟩) 1 cap]) ∧ w'.cell? ⟨h, 0, none⟩ = some (.string bR) ∧ Below W.heap.size W w' := by
  refine (of_any (w.heap.size + 1) 0 3 3 (EL w.heap.size) (fun j => if j = 2 then [bR] else []) W hW (fun j hj => ?_)).mono fun e w' hp => ?_
  · obtain rfl | rfl | rfl : j = 0 ∨ j = 1 ∨ j = 2 := by omega
    · exact ⟨rfl, by show 0 * 16 ≤ _; omega, .inl rfl⟩
    · exact ⟨rfl, by show 0 * 16 ≤ _; omega, .inl rfl⟩
    · refine ⟨rfl, by show 1 * 16 ≤ _; omega, .inr ⟨w.heap.size, 0, rfl, hb, fun j hj => ?_⟩⟩
      have hj1 : j < 1 := hj
      obtain rfl : j = 0 := by omega
      exact hc
  · rcases hp with ⟨k, hk, h4, hl, v, he, ho, hB⟩ | ⟨hn, _⟩
    · obtain rfl | rfl | rfl : k = 0 ∨ k = 1 ∨ k = 2 := by omega
      · exact absurd h4 (by show (1 : Int) ≠ 4; decide)
      · exact absurd h4 (by show (2 : Int) ≠ 4; decide)
      · obtain ⟨_, ⟨_, h0⟩ | ⟨g, cap, cur, rfl, hg, hheap, h1, h2, h3, h5⟩⟩ := ho
        · have h0' : (1 : Nat) = 0 := h0
          omega
        · have h5' : cur.toList.take 1 = [.string bR] := h5
          refine ⟨g, cap, he, ?_, hB⟩
          rw [cell_of_row _ _ _ _ _ _ hheap]
          have : (cur.toList.take 1)[0]? = some (.string bR) := by rw [h5']; rfl
          rw [List.getElem?_take_of_lt (by omega)] at this
          simpa using this
    · exact absurd rfl (hn 2 (by omega))
theorem j1 (w : World) : Calls Try.prog 12 #[.int .i64 3, .int .i64 1] w fun e w' => e = .returned (.int .i64 0) ∧ w = w' := join_any 3 1 w
theorem j2 (w : World) : Calls Try.prog 12 #[.int .i64 2, .int .i64 2] w fun e w' => e = .returned (.int .i64 21) ∧ w = w' := join_any 2 2 w
theorem k1 (w : World) : Calls Try.prog 14 #[.int .i64 2, .int .i64 0] w fun e w' => e = .returned (.int .i64 0) ∧ w = w' := knock_any 2 0 w
theorem k2 (w : World) : Calls Try.prog 14 #[.int .i64 3, .int .i64 0] w fun e w' => e = .returned (.int .i64 21) ∧ w = w' := knock_any 3 0 w

set_option maxHeartbeats 2000000 in
theorem lives_any (w : World) : Calls Try.prog 8 #[] w fun e w' => e = .returned (.bool true) ∧ Below w.heap.size w w' := by
  have HE := Lib.hid (evs_lives w)
  have HC := Lib.hid (show (w2L w).cell? ⟨w.heap.size, 0, none⟩ = some (.string bR) by rw [cell_of_row _ _ _ _ _ _ (heap_alloc2_old w _ _)]; rfl)
  have HLt := Lib.hid (show w.heap.size < (w2L w).heap.size by simp; omega)
  have HB := Lib.hid (show Below w.heap.size w (w2L w) from ((Below.refl _ w).alloc (Nat.le_refl _) _).alloc (by simp) _)
  go_enter Try.func8, Try.ntmps8
  go_wp2_with (first
    | (go_at_call 9; refine (of_lives w _ HE.out HLt.out HC.out).mono ?_; rintro e w3 ⟨h, cap, rfl, hcell, hb3⟩; have B3 := Lib.hid hb3; have HE3 := Lib.hid (HE.out.below hb3); clear hb3)
    | (go_at_call 12; (with_reducible refine (j1 _).mono ?_); rintro e w' ⟨rfl, rfl⟩)
    | (go_at_call 12; (with_reducible refine (j2 _).mono ?_); rintro e w' ⟨rfl, rfl⟩)
    | (go_at_call 14; (with_reducible refine (k1 _).mono ?_); rintro e w' ⟨rfl, rfl⟩)
    | (go_at_call 14; (with_reducible refine (k2 _).mono ?_); rintro e w' ⟨rfl, rfl⟩)
    | (go_at_call 16; (with_reducible refine (via_yes (w.heap.size + 1) 0 3 3 (EL w.heap.size) bA bA 0 100 _ HE3.out (by omega) (first1 _) (first3 _) rfl bA_some (memA _) userA (by omega)).mono ?_); rintro e w4 ⟨rfl, hb4⟩; have B4 := Lib.hid (B3.out.trans (hb4.mono B3.out.size)); clear hb4)
    | (go_at_call 16; (with_reducible refine (via_no (w.heap.size + 1) 0 3 3 (EL w.heap.size) bA bB 0 0 _ (HE.out.below B4.out) (by omega) (first1 _) (first3 _) rfl bA_some (memB _) (by decide)).mono ?_); rintro e w5 ⟨rfl, hb5⟩; have B5 := Lib.hid (B4.out.trans (hb5.mono B4.out.size)); clear hb5))
  go_ret
  exact ⟨rfl, HB.out.trans (B5.out.mono HB.out.size)⟩

end Go.Proofs.Ytmgjmcpkoaacjaa
