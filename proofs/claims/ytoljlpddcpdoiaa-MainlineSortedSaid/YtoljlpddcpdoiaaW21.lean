/- The mainline: the chapter's example as memory. No condition. -/
import Derived.Test.YtoljlpddcpdoiaaW20
namespace Go.Proofs.Ytoljlpddcpdoiaa
open Go Go.RowKit Go.Maps
set_option linter.unusedVariables false
set_option linter.unusedSimpArgs false
set_option maxRecDepth 100000

abbrev cS0 (s : Nat) : List Value := [.int .i64 10, .string ⟨#[]⟩, .string ⟨#[]⟩, .int .i64 3, .bool false, .string ⟨#[]⟩, .int .i64 0, .int .i64 0, .slice none 0 0, .slice none 0 0, .string ⟨#[]⟩, .int .i64 0, .int .i64 0, .bool false, .string ⟨#[]⟩, .slice none 0 0, .slice none 0 0, .slice none 0 0, .slice none 0 0, .int .i64 0, .int .i64 0, .int .i64 0, .int .i64 0, .int .i64 0, .int .i64 0, .int .i64 0, .int .i64 0, .string ⟨#[]⟩, .int .i64 0]
abbrev cS1 (s : Nat) : List Value := [.int .i64 20, .string ⟨#[]⟩, .string ⟨#[]⟩, .int .i64 3, .bool false, .string ⟨#[]⟩, .int .i64 0, .int .i64 0, .slice none 0 0, .slice (some ⟨s, 0, none⟩) 1 1, .string ⟨#[]⟩, .int .i64 0, .int .i64 0, .bool false, .string ⟨#[]⟩, .slice none 0 0, .slice none 0 0, .slice none 0 0, .slice none 0 0, .int .i64 0, .int .i64 0, .int .i64 0, .int .i64 0, .int .i64 0, .int .i64 0, .int .i64 0, .int .i64 0, .string ⟨#[]⟩, .int .i64 0]
abbrev cS2 (s : Nat) : List Value := [.int .i64 30, .string ⟨#[]⟩, .string ⟨#[]⟩, .int .i64 3, .bool false, .string ⟨#[]⟩, .int .i64 0, .int .i64 0, .slice none 0 0, .slice (some ⟨s + 1, 0, none⟩) 2 2, .string ⟨#[]⟩, .int .i64 0, .int .i64 0, .bool false, .string ⟨#[]⟩, .slice none 0 0, .slice none 0 0, .slice none 0 0, .slice none 0 0, .int .i64 0, .int .i64 0, .int .i64 0, .int .i64 0, .int .i64 0, .int .i64 0, .int .i64 0, .int .i64 0, .string ⟨#[]⟩, .int .i64 0]
abbrev cS3 (s : Nat) : List Value := [.int .i64 40, .string ⟨#[]⟩, .string ⟨#[]⟩, .int .i64 11, .bool false, .string ⟨#[]⟩, .int .i64 5, .int .i64 0, .slice none 0 0, .slice (some ⟨s + 2, 0, none⟩) 1 1, .string ⟨#[]⟩, .int .i64 0, .int .i64 0, .bool false, .string ⟨#[]⟩, .slice none 0 0, .slice none 0 0, .slice none 0 0, .slice none 0 0, .int .i64 0, .int .i64 0, .int .i64 0, .int .i64 0, .int .i64 0, .int .i64 0, .int .i64 0, .int .i64 0, .string ⟨#[]⟩, .int .i64 0]
abbrev cS4 (s : Nat) : List Value := [.int .i64 50, .string ⟨#[]⟩, .string ⟨#[]⟩, .int .i64 11, .bool false, .string ⟨#[]⟩, .int .i64 1, .int .i64 0, .slice none 0 0, .slice (some ⟨s + 3, 0, none⟩) 1 1, .string ⟨#[]⟩, .int .i64 0, .int .i64 0, .bool false, .string ⟨#[]⟩, .slice none 0 0, .slice none 0 0, .slice none 0 0, .slice none 0 0, .int .i64 0, .int .i64 0, .int .i64 0, .int .i64 0, .int .i64 0, .int .i64 0, .int .i64 0, .int .i64 0, .string ⟨#[]⟩, .int .i64 0]
abbrev cS5 (s : Nat) : List Value := [.int .i64 60, .string ⟨#[]⟩, .string ⟨#[]⟩, .int .i64 11, .bool false, .string ⟨#[]⟩, .int .i64 0, .int .i64 0, .slice none 0 0, .slice none 0 0, .string ⟨#[]⟩, .int .i64 0, .int .i64 0, .bool false, .string ⟨#[]⟩, .slice none 0 0, .slice none 0 0, .slice none 0 0, .slice none 0 0, .int .i64 0, .int .i64 0, .int .i64 0, .int .i64 0, .int .i64 0, .int .i64 0, .int .i64 0, .int .i64 0, .string ⟨#[]⟩, .int .i64 0]
/-- The example: its events. -/
def SE (s : Nat) : Nat → Me
  | 0 => ⟨10, 3, 0, none, 0, 0, [], cS0 s⟩
  | 1 => ⟨20, 3, 0, (some ⟨s, 0, none⟩), 1, 1, [10], cS1 s⟩
  | 2 => ⟨30, 3, 0, (some ⟨s + 1, 0, none⟩), 2, 2, [10, 20], cS2 s⟩
  | 3 => ⟨40, 11, 5, (some ⟨s + 2, 0, none⟩), 1, 1, [20], cS3 s⟩
  | 4 => ⟨50, 11, 1, (some ⟨s + 3, 0, none⟩), 1, 1, [30], cS4 s⟩
  | _ => ⟨60, 11, 0, none, 0, 0, [], cS5 s⟩
theorem flat29_at : ∀ (L : List (List Value)) (_ : ∀ x ∈ L, x.length = 29) (j i : Nat) (x : List Value) (v : Value), L[j]? = some x → x[i]? = some v → L.flatten[j * 29 + i]? = some v
  | [], _, j, i, x, v, h, _ => by simp at h
  | a :: r, hl, 0, i, x, v, h, hv => by
    simp only [List.getElem?_cons_zero, Option.some.injEq] at h
    subst h
    rw [List.flatten_cons, List.getElem?_append_left (by have := (List.getElem?_eq_some_iff.1 hv).1; omega), Nat.zero_mul, Nat.zero_add]
    exact hv
  | a :: r, hl, j + 1, i, x, v, h, hv => by
    have h1 := hl a List.mem_cons_self
    rw [List.getElem?_cons_succ] at h
    rw [List.flatten_cons, List.getElem?_append_right (by omega), h1, show (j + 1) * 29 + i - 29 = j * 29 + i by omega]
    exact flat29_at r (fun y hy => hl y (List.mem_cons_of_mem _ hy)) j i x v h hv
abbrev CLS (s : Nat) : Array Value := #[.int .i64 10, .string ⟨#[]⟩, .string ⟨#[]⟩, .int .i64 3, .bool false, .string ⟨#[]⟩, .int .i64 0, .int .i64 0, .slice none 0 0, .slice none 0 0, .string ⟨#[]⟩, .int .i64 0, .int .i64 0, .bool false, .string ⟨#[]⟩, .slice none 0 0, .slice none 0 0, .slice none 0 0, .slice none 0 0, .int .i64 0, .int .i64 0, .int .i64 0, .int .i64 0, .int .i64 0, .int .i64 0, .int .i64 0, .int .i64 0, .string ⟨#[]⟩, .int .i64 0, .int .i64 20, .string ⟨#[]⟩, .string ⟨#[]⟩, .int .i64 3, .bool false, .string ⟨#[]⟩, .int .i64 0, .int .i64 0, .slice none 0 0, .slice (some ⟨s, 0, none⟩) 1 1, .string ⟨#[]⟩, .int .i64 0, .int .i64 0, .bool false, .string ⟨#[]⟩, .slice none 0 0, .slice none 0 0, .slice none 0 0, .slice none 0 0, .int .i64 0, .int .i64 0, .int .i64 0, .int .i64 0, .int .i64 0, .int .i64 0, .int .i64 0, .int .i64 0, .string ⟨#[]⟩, .int .i64 0, .int .i64 30, .string ⟨#[]⟩, .string ⟨#[]⟩, .int .i64 3, .bool false, .string ⟨#[]⟩, .int .i64 0, .int .i64 0, .slice none 0 0, .slice (some ⟨s + 1, 0, none⟩) 2 2, .string ⟨#[]⟩, .int .i64 0, .int .i64 0, .bool false, .string ⟨#[]⟩, .slice none 0 0, .slice none 0 0, .slice none 0 0, .slice none 0 0, .int .i64 0, .int .i64 0, .int .i64 0, .int .i64 0, .int .i64 0, .int .i64 0, .int .i64 0, .int .i64 0, .string ⟨#[]⟩, .int .i64 0, .int .i64 40, .string ⟨#[]⟩, .string ⟨#[]⟩, .int .i64 11, .bool false, .string ⟨#[]⟩, .int .i64 5, .int .i64 0, .slice none 0 0, .slice (some ⟨s + 2, 0, none⟩) 1 1, .string ⟨#[]⟩, .int .i64 0, .int .i64 0, .bool false, .string ⟨#[]⟩, .slice none 0 0, .slice none 0 0, .slice none 0 0, .slice none 0 0, .int .i64 0, .int .i64 0, .int .i64 0, .int .i64 0, .int .i64 0, .int .i64 0, .int .i64 0, .int .i64 0, .string ⟨#[]⟩, .int .i64 0, .int .i64 50, .string ⟨#[]⟩, .string ⟨#[]⟩, .int .i64 11, .bool false, .string ⟨#[]⟩, .int .i64 1, .int .i64 0, .slice none 0 0, .slice (some ⟨s + 3, 0, none⟩) 1 1, .string ⟨#[]⟩, .int .i64 0, .int .i64 0, .bool false, .string ⟨#[]⟩, .slice none 0 0, .slice none 0 0, .slice none 0 0, .slice none 0 0, .int .i64 0, .int .i64 0, .int .i64 0, .int .i64 0, .int .i64 0, .int .i64 0, .int .i64 0, .int .i64 0, .string ⟨#[]⟩, .int .i64 0, .int .i64 60, .string ⟨#[]⟩, .string ⟨#[]⟩, .int .i64 11, .bool false, .string ⟨#[]⟩, .int .i64 0, .int .i64 0, .slice none 0 0, .slice none 0 0, .string ⟨#[]⟩, .int .i64 0, .int .i64 0, .bool false, .string ⟨#[]⟩, .slice none 0 0, .slice none 0 0, .slice none 0 0, .slice none 0 0, .int .i64 0, .int .i64 0, .int .i64 0, .int .i64 0, .int .i64 0, .int .i64 0, .int .i64 0, .int .i64 0, .string ⟨#[]⟩, .int .i64 0]
theorem cls_eq (s : Nat) : CLS s = ([cS0 s, cS1 s, cS2 s, cS3 s, cS4 s, cS5 s].flatten).toArray := rfl
abbrev WS (w : World) : World := ((((w.alloc (.cells #[.int .i64 10] 3)).alloc (.cells #[.int .i64 10, .int .i64 20] 3)).alloc (.cells #[.int .i64 20] 3)).alloc (.cells #[.int .i64 30] 3)).alloc (.cells (CLS w.heap.size) 44)
set_option maxHeartbeats 4000000 in
theorem sample20 (w : World) : Calls Try.prog 20 #[] w fun e w' => e = .returned (.slice (some ⟨w.heap.size + 4, 0, none⟩) 6 6) ∧ w' = WS w := by
  go_enter Try.func20, Try.ntmps20
  go_wp2
  go_ret
  exact ⟨rfl, rfl⟩
theorem ws_below (w : World) : Below w.heap.size w (WS w) :=
  (((((Below.refl _ w).alloc (Nat.le_refl _) _).alloc (by simp) _).alloc (by simp; omega) _).alloc (by simp; omega) _).alloc (by simp; omega) _
theorem blk_at {w : World} {g : Nat} {cs : List Value} {T : TypeId} (h : w.heap.size = g) : Blk (w.alloc (.cells cs.toArray T)) g cs T := h ▸ blk_new w cs T
theorem sample_evm (w : World) : Evm (WS w) (some ⟨w.heap.size + 4, 0, none⟩) 6 (SE w.heap.size) := by
  have b0 : Its (WS w) (some ⟨w.heap.size, 0, none⟩) 1 1 [10] := its_blk (zs := [10]) (((((blk_at (w := w) (cs := [.int .i64 10]) (T := 3) rfl).alloc _).alloc _).alloc _).alloc _) (by decide) (fun z hz => by simp at hz; subst hz; unfold i64B; omega)
  have b1 : Its (WS w) (some ⟨w.heap.size + 1, 0, none⟩) 2 2 [10, 20] := its_blk (zs := [10, 20]) ((((blk_at (cs := [.int .i64 10, .int .i64 20]) (T := 3) (by simp)).alloc _).alloc _).alloc _) (by decide) (fun z hz => by simp at hz; rcases hz with rfl | rfl <;> unfold i64B <;> omega)
  have b2 : Its (WS w) (some ⟨w.heap.size + 2, 0, none⟩) 1 1 [20] := its_blk (zs := [20]) (((blk_at (cs := [.int .i64 20]) (T := 3) (by simp)).alloc _).alloc _) (by decide) (fun z hz => by simp at hz; subst hz; unfold i64B; omega)
  have b3 : Its (WS w) (some ⟨w.heap.size + 3, 0, none⟩) 1 1 [30] := its_blk (zs := [30]) ((blk_at (cs := [.int .i64 30]) (T := 3) (by simp)).alloc _) (by decide) (fun z hz => by simp at hz; subst hz; unfold i64B; omega)
  have bn : Its (WS w) none 0 0 [] := ⟨Rws.zero _ _ _ _ _ (fun _ => rfl), rfl, Nat.le_refl _, by simp⟩
  have bb : Blk (WS w) (w.heap.size + 4) ([cS0 w.heap.size, cS1 w.heap.size, cS2 w.heap.size, cS3 w.heap.size, cS4 w.heap.size, cS5 w.heap.size].flatten) 44 := blk_at (by simp)
  generalize WS w = W at *
  generalize w.heap.size = s at *
  refine ⟨fun _ => ⟨s + 4, 0, rfl, bb.lt, fun j hj k v hv => ?_⟩, fun j hj => ?_, fun j hj => ?_, fun j hj => ?_⟩
  · refine bb.cell ?_
    rw [Nat.zero_add]
    refine flat29_at _ ?_ j k (SE s j).cs v ?_ hv
    · intro x hx
      simp only [List.mem_cons, List.not_mem_nil, or_false] at hx
      rcases hx with rfl | rfl | rfl | rfl | rfl | rfl <;> rfl
    · obtain rfl | rfl | rfl | rfl | rfl | rfl : j = 0 ∨ j = 1 ∨ j = 2 ∨ j = 3 ∨ j = 4 ∨ j = 5 := by omega
      all_goals rfl
  · obtain rfl | rfl | rfl | rfl | rfl | rfl : j = 0 ∨ j = 1 ∨ j = 2 ∨ j = 3 ∨ j = 4 ∨ j = 5 := by omega
    · exact bn
    · exact b0
    · exact b1
    · exact b2
    · exact b3
    · exact bn
  · obtain rfl | rfl | rfl | rfl | rfl | rfl : j = 0 ∨ j = 1 ∨ j = 2 ∨ j = 3 ∨ j = 4 ∨ j = 5 := by omega
    all_goals (unfold i64B SE; simp only []; omega)
  · obtain rfl | rfl | rfl | rfl | rfl | rfl : j = 0 ∨ j = 1 ∨ j = 2 ∨ j = 3 ∨ j = 4 ∨ j = 5 := by omega
    all_goals exact ⟨rfl, rfl, rfl, rfl, rfl, fun u hu => by
      simp only [SE, List.mem_cons, List.not_mem_nil, or_false] at hu
      rcases hu with rfl | rfl | rfl | rfl | rfl | rfl | rfl | rfl | rfl | rfl | rfl | rfl | rfl | rfl | rfl | rfl | rfl | rfl | rfl | rfl | rfl | rfl | rfl | rfl | rfl | rfl | rfl | rfl | rfl <;> rfl⟩
theorem sw30 (s : Nat) : wayL (SE s) 6 30 = [30, 10] := by kernel_rfl
theorem sw20 (s : Nat) : wayL (SE s) 6 20 = [20, 10] := by kernel_rfl
theorem sw99 (s : Nat) : wayL (SE s) 6 99 = [] := by kernel_rfl
theorem sc40 (s : Nat) : clo (wayL (SE s) 6 40) (rk [30, 10]) ((2 : Nat) : Int) = 1 := by kernel_rfl
theorem sc60 (s : Nat) : clo (wayL (SE s) 6 60) (rk [30, 10]) ((2 : Nat) : Int) = 2 := by kernel_rfl
theorem st456 : Q.M.st [40, 50, 60] = [40, 50, 60] := (Q.M.st_eq (by unfold Q.M.Srt; decide) (fun x => Iff.rfl)).symm
theorem so456 (s : Nat) : ordL (SE s) 6 [30, 10] 2 [40, 50, 60] = [60, 40, 50] := by
  unfold ordL
  rw [st456]
  kernel_rfl
end Go.Proofs.Ytoljlpddcpdoiaa
