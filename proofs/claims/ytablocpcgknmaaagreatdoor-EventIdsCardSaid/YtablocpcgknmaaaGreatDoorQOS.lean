/- An argument that is a signature, opened. No condition. -/
import Derived.Test.YtablocpcgknmaaaGreatDoorQOC
namespace Go.Proofs.YtablocpcgknmaaaGreatDoor
open Go.ChangeShapes Go.WideShapes Go.ChangeAt Go.RowKit Go.Joins Go.Deep
set_option linter.unusedVariables false
set_option maxRecDepth 100000

theorem sig_open {H : Type} {en : TypeId × Value → H} {w : World} {base : Nat} {spare : Nat → Bool} {held : Bool} {fuel : Nat} {cs : List Value} {y : DataW H × List MemPlace} (hl : cs.length = 2) (h : DataW.trod en Tryz.prog w base spare held fuel 32 cs = some y) :
  ∃ (s : ByteArray) (n : Int), [.string s, .int .i64 n] = cs ∧ (s.size ≤ 9223372036854775807 ∧ i64B n) := by
 obtain ⟨ys, n2, _, _, _, hyl, hg⟩ := DataW.trod_struct Tryz.underlying32 h
 match cs, hl with
 | [c27, c28], _ =>
  have l2 : ys.length = 2 := hyl
  have g13 : DataW.trod en Tryz.prog w base spare held n2 9 (List.take (Tryz.prog.cellsOf 9) (List.drop 0 [c27, c28])) = ys[0]? := hg 0 _ rfl
  have g14 : DataW.trod en Tryz.prog w base spare held n2 3 (List.take (Tryz.prog.cellsOf 3) (List.drop 1 [c27, c28])) = ys[1]? := hg 1 _ rfl
  rw [List.getElem?_eq_getElem (by omega), ce9] at g13
  rw [List.getElem?_eq_getElem (by omega), ce3] at g14
  obtain ⟨sv, e13, _, w13⟩ := DataW.trod_string Tryz.underlying9 g13
  obtain ⟨sm, e14, _, w14⟩ := DataW.trod_int Tryz.underlying3 g14
  have f27 : c27 = .string sv := by simpa using e13
  have f28 : c28 = .int .i64 sm := by simpa using e14
  subst f27 f28
  exact ⟨sv, sm, rfl, w13, Go.bounds_i64 w14⟩
end Go.Proofs.YtablocpcgknmaaaGreatDoor
