/- A list of texts with one more at its end, in a row of the call's own. -/
import Derived.Test.YtokofmolbdpklaaGR
namespace Go.Proofs.Ytokofmolbdpklaa
open Go.RowKit
set_option linter.unusedVariables false

theorem flat_snoc (zs : List ByteArray) (p : ByteArray) : flat zs.length (rowS zs) ++ [.string p] = flat (zs.length + 1) (rowS (zs ++ [p])) := by
  rw [flat_succ, flat_congr (n := zs.length) (L := rowS zs) (M := rowS (zs ++ [p])) (fun j hj => by unfold rowS; simp [List.getD_eq_getElem?_getD, List.getElem?_append, hj])]
  unfold rowS
  simp [List.getD_eq_getElem?_getD]
/-- What two appends to a new list leave. -/
theorem own_snoc {w : World} {B : Nat} {v : Value} {n c0 : Nat} {zs : List ByteArray} {A0 : Option Addr} {w0 : World} (h0 : Txs w0 A0 n c0 zs) (p : ByteArray) (hp : p.size ≤ 9223372036854775807) (hn : n ≤ 1000000) (h : w.ownsRow B 9 1 v (n + 1) (flat n (rowS zs) ++ [.string p])) :
    ∃ A c, v = .slice A (n + 1) c ∧ Txs w A (n + 1) c (zs ++ [p]) ∧ ∀ b off, A = some ⟨b, off, none⟩ → B ≤ b := by
  obtain ⟨A, c, rfl⟩ := own_slice h
  have hl := h0.len
  subst hl
  rw [flat_snoc] at h
  refine ⟨A, c, rfl, ⟨own_rows h (fun j hj => rfl) (fun j hj u hu => ?_) (by unfold maxLen; omega), by simp, ?_, fun s hs => ?_⟩, fun b off e => ?_⟩
  · simp [rowS] at hu; subst hu; rfl
  · rcases h.2 with ⟨hv, h1⟩ | ⟨g, cap, cur, hv, _, _, hnc, _⟩
    · omega
    · simp only [Value.slice.injEq, true_and] at hv
      rw [hv.2]; exact hnc
  · rcases List.mem_append.1 hs with h1 | h1
    · exact h0.fit s h1
    · rw [List.mem_singleton.1 h1]; exact hp
  · subst e
    exact (h.lt b rfl).1
end Go.Proofs.Ytokofmolbdpklaa
