/- How slices that the sums' statements make by append are handed to the walks. Condition: their elements are bytes. -/
import Derived.Test.YtifoenmgbaikcaaAid
import Derived.Test.YtifoenmgbaikcaaRef
import Derived.OwnWalk
import Derived.Laws.AppendOwnNone
import Derived.Laws.OwnMore
namespace Go.Proofs.Ytifoenmgbaikcaa
open Go.RowKit
set_option linter.unusedVariables false

theorem info5 : (Try.prog.info? 5).map (fun i => (i.zero, i.size, i.bytes)) = some (some (.int .u8 0), 1, 1) := by kernel_rfl

abbrev cellsOf8 (zs : List Int) : List Value := zs.map (Value.int .u8)

theorem byt_of_own {w : World} {base : Nat} {v : Value} {n : Nat} {zs : List Int} (h : w.ownsRow base 5 1 v n (zs.map (Value.int .u8))) (hz : ∀ z ∈ zs, 0 ≤ z ∧ z ≤ 255) (hn : n ≤ 9223372036854775807) :
    ∃ A c, v = .slice A n c ∧ Byt w A n zs := by
  have hl : zs.length = n := by have := h.1; simpa using this
  rcases h.2 with ⟨rfl, rfl⟩ | ⟨g, cap, cur, rfl, _, hh, hnc, _, hsz, htake⟩
  · exact ⟨none, 0, rfl, hl, hz, hn, by omega⟩
  · refine ⟨some ⟨g, 0, none⟩, cap, rfl, hl, hz, hn, fun h0 => ⟨g, 0, rfl, ?_, fun i hi => ?_⟩⟩
    · rcases Nat.lt_or_ge g w.heap.size with hlt | hge
      · exact hlt
      · rw [Array.getElem?_eq_none hge] at hh; cases hh
    · rw [Nat.zero_add, h.cellAt i (by omega), List.getElem?_map]
      rw [List.getElem?_eq_getElem (by omega), List.getD_eq_getElem?_getD, List.getElem?_eq_getElem (by omega)]
      rfl

theorem conv_byt {w : World} {A : Option Addr} {n : Nat} {zs : List Int} (h : Byt w A n zs) (c : Nat) :
    (convert 22 9 (.slice A n c)).run Try.prog w = .ok (.string (strOfNums zs)) w := by
  obtain ⟨hl, _, _, hc⟩ := h
  rcases Nat.eq_zero_or_pos n with h0 | h0
  · subst h0
    have hz : zs = [] := List.eq_nil_of_length_eq_zero hl
    subst hz
    cases A with
    | none => exact run_convert_bytes_nil w 22 5 Try.underlying22 Try.underlying5 0 c 9 Try.underlying9
    | some a =>
      rw [run_convert_bytes_string w 22 9 5 (some a) 0 c Try.underlying22 Try.underlying5 Try.underlying9]
      have := run_bytesToString (P := Try.prog) w a 0 c [] (by simp [loadCells, loadCellsFrom])
      rw [this]
      rfl
  · obtain ⟨b, off, rfl, _, hcell⟩ := hc h0
    exact run_convert_bytes_arg w 22 5 Try.underlying22 Try.underlying5 b off n c zs hl hcell 9 Try.underlying9

theorem one8 (zs : List Int) : ∀ u ∈ zs.map (Value.int .u8), u.oneCell' = true := by
  intro u hu
  simp only [List.mem_map] at hu
  obtain ⟨z, _, rfl⟩ := hu
  rfl

/-- The cells of a slice that came in, as the law of append asks for them. -/
theorem news_of {w : World} {x : Addr} {len : Nat} {zs : List Int} (hcell : ∀ i, i < zs.length → w.cell? (x.add i) = some (.int .u8 (zs.getD i 0))) :
    ∀ j u, ((zs.take len).map (Value.int .u8))[j]? = some u → w.cell? (x.add j) = some u := by
  intro j u hu
  rw [List.getElem?_map, List.getElem?_take] at hu
  by_cases hj : j < len
  · rw [if_pos hj] at hu
    by_cases hjl : j < zs.length
    · rw [List.getElem?_eq_getElem hjl] at hu
      injection hu with hu
      rw [hcell j hjl, ← hu, List.getD_eq_getElem?_getD, List.getElem?_eq_getElem hjl]
      rfl
    · rw [List.getElem?_eq_none (by omega)] at hu; cases hu
  · rw [if_neg hj] at hu; cases hu

/-- The bytes of a slice that came in stay below the block at which the call began. -/
theorem cell_keep {w w' : World} (hb : Below w.heap.size w w') {x : Addr} {zs : List Int} (hcell : ∀ i, i < zs.length → w.cell? (x.add i) = some (.int .u8 (zs.getD i 0))) :
    ∀ i, i < zs.length → w'.cell? (x.add i) = some (.int .u8 (zs.getD i 0)) := by
  intro i hi
  rw [hb.cell (p := x.add i) (World.block_lt_of_cell? w (x.add i) (hcell i hi))]
  exact hcell i hi
end Go.Proofs.Ytifoenmgbaikcaa
