/- Relations: the chapter's example as memory. No condition. -/
import Derived.Test.YtefajhfahnhcgaaV8
namespace Go.Proofs.Ytefajhfahnhcgaa
open Go Go.RowKit
set_option linter.unusedVariables false
set_option linter.unusedSimpArgs false
set_option maxRecDepth 100000

abbrev cS0 : List Value := [.int .i64 1, .string ⟨#[]⟩, .string ⟨#[64, 97, 58, 115]⟩, .int .i64 11, .bool false, .string ⟨#[]⟩, .int .i64 0, .int .i64 0, .slice none 0 0, .slice none 0 0, .string ⟨#[111, 110, 101]⟩, .int .i64 0, .int .i64 0, .bool false, .string ⟨#[]⟩, .slice none 0 0, .slice none 0 0, .slice none 0 0, .slice none 0 0, .int .i64 0, .int .i64 0, .int .i64 0, .int .i64 0, .int .i64 0, .int .i64 0, .int .i64 0, .int .i64 0, .string ⟨#[]⟩, .int .i64 0]
abbrev cS1 : List Value := [.int .i64 2, .string ⟨#[]⟩, .string ⟨#[64, 97, 58, 115]⟩, .int .i64 13, .bool false, .string ⟨#[]⟩, .int .i64 0, .int .i64 0, .slice none 0 0, .slice none 0 0, .string ⟨#[116, 119, 111]⟩, .int .i64 0, .int .i64 1, .bool false, .string ⟨#[]⟩, .slice none 0 0, .slice none 0 0, .slice none 0 0, .slice none 0 0, .int .i64 0, .int .i64 0, .int .i64 0, .int .i64 0, .int .i64 0, .int .i64 0, .int .i64 0, .int .i64 0, .string ⟨#[]⟩, .int .i64 0]
abbrev cS2 : List Value := [.int .i64 3, .string ⟨#[]⟩, .string ⟨#[64, 98, 58, 115]⟩, .int .i64 13, .bool false, .string ⟨#[]⟩, .int .i64 0, .int .i64 0, .slice none 0 0, .slice none 0 0, .string ⟨#[116, 104, 114, 101, 101]⟩, .int .i64 0, .int .i64 1, .bool false, .string ⟨#[]⟩, .slice none 0 0, .slice none 0 0, .slice none 0 0, .slice none 0 0, .int .i64 0, .int .i64 0, .int .i64 0, .int .i64 0, .int .i64 0, .int .i64 0, .int .i64 0, .int .i64 0, .string ⟨#[]⟩, .int .i64 0]
abbrev cS3 : List Value := [.int .i64 4, .string ⟨#[]⟩, .string ⟨#[64, 98, 58, 115]⟩, .int .i64 12, .bool false, .string ⟨#[]⟩, .int .i64 0, .int .i64 0, .slice none 0 0, .slice none 0 0, .string ⟨#[43]⟩, .int .i64 0, .int .i64 1, .bool false, .string ⟨#[]⟩, .slice none 0 0, .slice none 0 0, .slice none 0 0, .slice none 0 0, .int .i64 0, .int .i64 0, .int .i64 0, .int .i64 0, .int .i64 0, .int .i64 0, .int .i64 0, .int .i64 0, .string ⟨#[]⟩, .int .i64 0]
abbrev cS4 : List Value := [.int .i64 5, .string ⟨#[]⟩, .string ⟨#[64, 99, 58, 115]⟩, .int .i64 12, .bool false, .string ⟨#[]⟩, .int .i64 0, .int .i64 0, .slice none 0 0, .slice none 0 0, .string ⟨#[43]⟩, .int .i64 0, .int .i64 1, .bool false, .string ⟨#[]⟩, .slice none 0 0, .slice none 0 0, .slice none 0 0, .slice none 0 0, .int .i64 0, .int .i64 0, .int .i64 0, .int .i64 0, .int .i64 0, .int .i64 0, .int .i64 0, .int .i64 0, .string ⟨#[]⟩, .int .i64 0]
abbrev cS5 : List Value := [.int .i64 6, .string ⟨#[]⟩, .string ⟨#[64, 99, 58, 115]⟩, .int .i64 11, .bool false, .string ⟨#[]⟩, .int .i64 0, .int .i64 0, .slice none 0 0, .slice none 0 0, .string ⟨#[102, 111, 117, 114]⟩, .int .i64 0, .int .i64 1, .bool true, .string ⟨#[]⟩, .slice none 0 0, .slice none 0 0, .slice none 0 0, .slice none 0 0, .int .i64 0, .int .i64 0, .int .i64 0, .int .i64 0, .int .i64 0, .int .i64 0, .int .i64 0, .int .i64 0, .string ⟨#[]⟩, .int .i64 0]
abbrev e5 : Me := ⟨6, ⟨#[64, 99, 58, 115]⟩, 11, 0, ⟨#[102, 111, 117, 114]⟩, 1, true, cS5⟩
/-- The example: its events. -/
def SE : Nat → Me
  | 0 => ⟨1, ⟨#[64, 97, 58, 115]⟩, 11, 0, ⟨#[111, 110, 101]⟩, 0, false, cS0⟩
  | 1 => ⟨2, ⟨#[64, 97, 58, 115]⟩, 13, 0, ⟨#[116, 119, 111]⟩, 1, false, cS1⟩
  | 2 => ⟨3, ⟨#[64, 98, 58, 115]⟩, 13, 0, ⟨#[116, 104, 114, 101, 101]⟩, 1, false, cS2⟩
  | 3 => ⟨4, ⟨#[64, 98, 58, 115]⟩, 12, 0, ⟨#[43]⟩, 1, false, cS3⟩
  | 4 => ⟨5, ⟨#[64, 99, 58, 115]⟩, 12, 0, ⟨#[43]⟩, 1, false, cS4⟩
  | _ => e5
theorem flat29_at : ∀ (L : List (List Value)) (_ : ∀ x ∈ L, x.length = 29) (j i : Nat) (x : List Value) (v : Value), L[j]? = some x → x[i]? = some v → L.flatten[j * 29 + i]? = some v
  | [], _, j, i, x, v, h, _ => by simp at h
  | a :: r, hl, 0, i, x, v, h, hv => by
    simp only [List.getElem?_cons_zero, Option.some.injEq] at h
    subst h
    rw [List.flatten_cons, List.getElem?_append_left (by have := (List.getElem?_eq_some_iff.1 hv).1; omega), Nat.zero_mul, Nat.zero_add]
    exact hv
  | a :: r, hl, j + 1, i, x, v, h, hv => by
    have h1 := hl a List.mem_cons_self
    rw [List.getElem?_cons_succ] at h
    rw [List.flatten_cons, List.getElem?_append_right (by omega), h1, show (j + 1) * 29 + i - 29 = j * 29 + i by omega]
    exact flat29_at r (fun y hy => hl y (List.mem_cons_of_mem _ hy)) j i x v h hv
abbrev CLS : Array Value := #[.int .i64 1, .string ⟨#[]⟩, .string ⟨#[64, 97, 58, 115]⟩, .int .i64 11, .bool false, .string ⟨#[]⟩, .int .i64 0, .int .i64 0, .slice none 0 0, .slice none 0 0, .string ⟨#[111, 110, 101]⟩, .int .i64 0, .int .i64 0, .bool false, .string ⟨#[]⟩, .slice none 0 0, .slice none 0 0, .slice none 0 0, .slice none 0 0, .int .i64 0, .int .i64 0, .int .i64 0, .int .i64 0, .int .i64 0, .int .i64 0, .int .i64 0, .int .i64 0, .string ⟨#[]⟩, .int .i64 0, .int .i64 2, .string ⟨#[]⟩, .string ⟨#[64, 97, 58, 115]⟩, .int .i64 13, .bool false, .string ⟨#[]⟩, .int .i64 0, .int .i64 0, .slice none 0 0, .slice none 0 0, .string ⟨#[116, 119, 111]⟩, .int .i64 0, .int .i64 1, .bool false, .string ⟨#[]⟩, .slice none 0 0, .slice none 0 0, .slice none 0 0, .slice none 0 0, .int .i64 0, .int .i64 0, .int .i64 0, .int .i64 0, .int .i64 0, .int .i64 0, .int .i64 0, .int .i64 0, .string ⟨#[]⟩, .int .i64 0, .int .i64 3, .string ⟨#[]⟩, .string ⟨#[64, 98, 58, 115]⟩, .int .i64 13, .bool false, .string ⟨#[]⟩, .int .i64 0, .int .i64 0, .slice none 0 0, .slice none 0 0, .string ⟨#[116, 104, 114, 101, 101]⟩, .int .i64 0, .int .i64 1, .bool false, .string ⟨#[]⟩, .slice none 0 0, .slice none 0 0, .slice none 0 0, .slice none 0 0, .int .i64 0, .int .i64 0, .int .i64 0, .int .i64 0, .int .i64 0, .int .i64 0, .int .i64 0, .int .i64 0, .string ⟨#[]⟩, .int .i64 0, .int .i64 4, .string ⟨#[]⟩, .string ⟨#[64, 98, 58, 115]⟩, .int .i64 12, .bool false, .string ⟨#[]⟩, .int .i64 0, .int .i64 0, .slice none 0 0, .slice none 0 0, .string ⟨#[43]⟩, .int .i64 0, .int .i64 1, .bool false, .string ⟨#[]⟩, .slice none 0 0, .slice none 0 0, .slice none 0 0, .slice none 0 0, .int .i64 0, .int .i64 0, .int .i64 0, .int .i64 0, .int .i64 0, .int .i64 0, .int .i64 0, .int .i64 0, .string ⟨#[]⟩, .int .i64 0, .int .i64 5, .string ⟨#[]⟩, .string ⟨#[64, 99, 58, 115]⟩, .int .i64 12, .bool false, .string ⟨#[]⟩, .int .i64 0, .int .i64 0, .slice none 0 0, .slice none 0 0, .string ⟨#[43]⟩, .int .i64 0, .int .i64 1, .bool false, .string ⟨#[]⟩, .slice none 0 0, .slice none 0 0, .slice none 0 0, .slice none 0 0, .int .i64 0, .int .i64 0, .int .i64 0, .int .i64 0, .int .i64 0, .int .i64 0, .int .i64 0, .int .i64 0, .string ⟨#[]⟩, .int .i64 0, .int .i64 6, .string ⟨#[]⟩, .string ⟨#[64, 99, 58, 115]⟩, .int .i64 11, .bool false, .string ⟨#[]⟩, .int .i64 0, .int .i64 0, .slice none 0 0, .slice none 0 0, .string ⟨#[102, 111, 117, 114]⟩, .int .i64 0, .int .i64 1, .bool true, .string ⟨#[]⟩, .slice none 0 0, .slice none 0 0, .slice none 0 0, .slice none 0 0, .int .i64 0, .int .i64 0, .int .i64 0, .int .i64 0, .int .i64 0, .int .i64 0, .int .i64 0, .int .i64 0, .string ⟨#[]⟩, .int .i64 0]
theorem cls_eq : CLS = ([cS0, cS1, cS2, cS3, cS4, cS5].flatten).toArray := rfl
theorem one_by {cs : List Value} (h : cs.all (·.oneCell') = true) : ∀ u ∈ cs, u.oneCell' = true := fun u hu => List.all_eq_true.1 h u hu
theorem SE_fits : ∀ j, Fits (SE j)
  | 0 => show Fits (SE 0) from ⟨rfl, rfl, rfl, rfl, rfl, rfl, rfl, rfl, one_by rfl, by unfold i64B; decide, by unfold i64B; decide, by unfold i64B; decide, by unfold i64B; decide, by unfold maxLen; decide, by unfold maxLen; decide⟩
  | 1 => show Fits (SE 1) from ⟨rfl, rfl, rfl, rfl, rfl, rfl, rfl, rfl, one_by rfl, by unfold i64B; decide, by unfold i64B; decide, by unfold i64B; decide, by unfold i64B; decide, by unfold maxLen; decide, by unfold maxLen; decide⟩
  | 2 => show Fits (SE 2) from ⟨rfl, rfl, rfl, rfl, rfl, rfl, rfl, rfl, one_by rfl, by unfold i64B; decide, by unfold i64B; decide, by unfold i64B; decide, by unfold i64B; decide, by unfold maxLen; decide, by unfold maxLen; decide⟩
  | 3 => show Fits (SE 3) from ⟨rfl, rfl, rfl, rfl, rfl, rfl, rfl, rfl, one_by rfl, by unfold i64B; decide, by unfold i64B; decide, by unfold i64B; decide, by unfold i64B; decide, by unfold maxLen; decide, by unfold maxLen; decide⟩
  | 4 => show Fits (SE 4) from ⟨rfl, rfl, rfl, rfl, rfl, rfl, rfl, rfl, one_by rfl, by unfold i64B; decide, by unfold i64B; decide, by unfold i64B; decide, by unfold i64B; decide, by unfold maxLen; decide, by unfold maxLen; decide⟩
  | _ + 5 => show Fits e5 from ⟨rfl, rfl, rfl, rfl, rfl, rfl, rfl, rfl, one_by rfl, by unfold i64B; decide, by unfold i64B; decide, by unfold i64B; decide, by unfold i64B; decide, by unfold maxLen; decide, by unfold maxLen; decide⟩
set_option maxHeartbeats 4000000 in
theorem sample27 (w : World) : Calls Try.prog 27 #[] w fun r w' => r = .returned (.slice (some ⟨w.heap.size, 0, none⟩) 6 6) ∧ w' = w.alloc (.cells CLS 34) := by
  go_enter Try.func27, Try.ntmps27
  go_wp2
  go_ret
  exact ⟨rfl, rfl⟩
theorem sample_evm (w : World) : Evm (w.alloc (.cells CLS 34)) (some ⟨w.heap.size, 0, none⟩) 6 SE := by
  have bb : Blk (w.alloc (.cells CLS 34)) w.heap.size ([cS0, cS1, cS2, cS3, cS4, cS5].flatten) 34 := by rw [cls_eq]; exact blk_new w _ 34
  refine ⟨by unfold maxLen; decide, fun _ => ⟨w.heap.size, 0, rfl, bb.lt, fun j hj k v hv => ?_⟩, fun j hj => SE_fits j⟩
  refine bb.cell ?_
  rw [Nat.zero_add]
  refine flat29_at _ ?_ j k (SE j).cs v ?_ hv
  · intro x hx
    simp only [List.mem_cons, List.not_mem_nil, or_false] at hx
    rcases hx with rfl | rfl | rfl | rfl | rfl | rfl <;> rfl
  · match j, hj with
    | 0, _ => rfl
    | 1, _ => rfl
    | 2, _ => rfl
    | 3, _ => rfl
    | 4, _ => rfl
    | 5, _ => rfl
theorem sample_ev (w : World) : Calls Try.prog 27 #[] w fun r w' => r = .returned (.slice (some ⟨w.heap.size, 0, none⟩) 6 6) ∧ Evm w' (some ⟨w.heap.size, 0, none⟩) 6 SE ∧ Below w.heap.size w w' :=
  (sample27 w).mono fun r w' ⟨h1, h2⟩ => ⟨h1, by rw [h2]; exact sample_evm w, by rw [h2]; exact (Below.refl _ w).alloc (Nat.le_refl _) _⟩
end Go.Proofs.Ytefajhfahnhcgaa
