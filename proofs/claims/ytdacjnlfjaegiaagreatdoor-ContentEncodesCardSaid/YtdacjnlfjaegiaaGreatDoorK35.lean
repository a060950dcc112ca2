/- The law's awakening: the walk. No condition. -/
import Derived.Test.YtdacjnlfjaegiaaGreatDoorK34
namespace Go.Proofs.YtdacjnlfjaegiaaGreatDoor
open Go Go.RowKit
set_option linter.unusedVariables false
set_option linter.unusedSimpArgs false
set_option maxRecDepth 100000

theorem txs3 {w : World} {b off c : Nat} {s0 s1 s2 : ByteArray} (h : Txs w (some ⟨b, off, none⟩) 3 c [s0, s1, s2]) : w.cell? ⟨b, off, none⟩ = some (.string s0) ∧ w.cell? ⟨b, off + 1, none⟩ = some (.string s1) ∧ w.cell? ⟨b, off + 2, none⟩ = some (.string s2) := by
  rcases h.rws.at_ with h1 | ⟨b', off', e, _, hc⟩
  · cases h1
  · simp only [Option.some.injEq, Addr.mk.injEq, and_true] at e
    obtain ⟨rfl, rfl⟩ := e
    exact ⟨hc 0 (by decide) 0 _ rfl, hc 1 (by decide) 0 _ rfl, hc 2 (by decide) 0 _ rfl⟩
theorem strip_at (w : World) (hl : Lt w) : Calls Tryz.prog 21 #[.int .i64 2, .agg #[.string ⟨#[115, 112, 97, 109]⟩, .int .i64 4, .int .i64 0, .bool false, .string ⟨#[]⟩, .slice none 0 0, .slice none 0 0, .slice none 0 0, .slice none 0 0, .int .i64 0, .int .i64 0, .int .i64 0, .int .i64 0, .int .i64 0, .int .i64 0, .int .i64 0]] w fun e w' => ∃ aL, e = .returned (.agg (ccs (cnl ⟨#[]⟩ 4 0) aL).toArray) ∧ IsC w' (cnl ⟨#[]⟩ 4 0) aL ∧ Below w.heap.size w w' := by
  have := strip21 2 (cnl ⟨#[115, 112, 97, 109]⟩ 4 0) ad0 w (cnl_is _ 4 0 (by decide) (by unfold i64B; decide) in0 w) (cnl_sm _ 4 0) hl
  rw [st1] at this
  exact this
theorem same_a (aL : Ads) (w : World) (h : IsC w (cnl ⟨#[]⟩ 4 0) aL) : Calls Tryz.prog 20 #[.agg (ccs (cnl ⟨#[]⟩ 4 0) aL).toArray, .agg #[.string ⟨#[]⟩, .int .i64 4, .int .i64 0, .bool false, .string ⟨#[]⟩, .slice none 0 0, .slice none 0 0, .slice none 0 0, .slice none 0 0, .int .i64 0, .int .i64 0, .int .i64 0, .int .i64 0, .int .i64 0, .int .i64 0, .int .i64 0]] w fun e w' => e = .returned (.bool true) ∧ Below w.heap.size w w' := by
  have := same20 _ (cnl ⟨#[]⟩ 4 0) aL ad0 w h (cnl_is _ 4 0 sz0 (by unfold i64B; decide) in0 w)
  rw [sm1] at this
  exact this
theorem same_b (w : World) : Calls Tryz.prog 20 #[.agg #[.string ⟨#[115, 112, 97, 109]⟩, .int .i64 4, .int .i64 0, .bool false, .string ⟨#[]⟩, .slice none 0 0, .slice none 0 0, .slice none 0 0, .slice none 0 0, .int .i64 0, .int .i64 0, .int .i64 0, .int .i64 0, .int .i64 0, .int .i64 0, .int .i64 0], .agg #[.string ⟨#[]⟩, .int .i64 3, .int .i64 0, .bool false, .string ⟨#[]⟩, .slice none 0 0, .slice none 0 0, .slice none 0 0, .slice none 0 0, .int .i64 0, .int .i64 0, .int .i64 0, .int .i64 0, .int .i64 0, .int .i64 0, .int .i64 0]] w fun e w' => e = .returned (.bool false) ∧ Below w.heap.size w w' := by
  have := same20 (cnl ⟨#[115, 112, 97, 109]⟩ 4 0) (cnl ⟨#[]⟩ 3 0) ad0 ad0 w (cnl_is _ 4 0 (by decide) (by unfold i64B; decide) in0 w) (cnl_is _ 3 0 sz0 (by unfold i64B; decide) in0 w)
  rw [sm2] at this
  exact this
theorem same_c (pA : Option Addr) (pC : Nat) (pD : Option Addr) (pE : Nat) (h1 : pA = none → pC = 0) (h2 : pD = none → pE = 0) (w : World) : Calls Tryz.prog 20 #[.agg #[.string ⟨#[]⟩, .int .i64 0, .int .i64 0, .bool false, .string ⟨#[]⟩, .slice pA 0 pC, .slice pD 0 pE, .slice none 0 0, .slice none 0 0, .int .i64 0, .int .i64 0, .int .i64 0, .int .i64 0, .int .i64 0, .int .i64 0, .int .i64 0], .agg #[.string ⟨#[]⟩, .int .i64 0, .int .i64 0, .bool false, .string ⟨#[]⟩, .slice none 0 0, .slice none 0 0, .slice none 0 0, .slice none 0 0, .int .i64 0, .int .i64 0, .int .i64 0, .int .i64 0, .int .i64 0, .int .i64 0, .int .i64 0]] w fun e w' => e = .returned (.bool true) ∧ Below w.heap.size w w' := by
  have := same20 c0 c0 ⟨pA, pC, pD, pE, none, 0, none, 0⟩ ad0 w ⟨txs_zero h1, txs_zero h2, zero_isL w, sz0, sz0, in0, in0⟩ (c0_is w)
  rw [sm3] at this
  exact this
theorem levels_at (w : World) : Calls Tryz.prog 18 #[.agg #[.slice none 0 0, .slice none 0 0, .int .i64 0, .int .i64 0, .int .i64 0, .int .i64 0, .int .i64 1001, .int .i64 0, .int .i64 0]] w fun e w' => e = .returned (.int .i64 2) ∧ Below w.heap.size w w' := by
  have := levels18 [] [] 0 0 0 0 1001 0 0 none 0 none 0 w ⟨Rws.zero _ _ _ _ _ (fun _ => rfl), Rws.zero _ _ _ _ _ (fun _ => rfl), by simp, by simp, by unfold i64B; decide⟩
  rw [lvl1] at this
  exact this
end Go.Proofs.YtdacjnlfjaegiaaGreatDoor
