/- An argument that is a content, opened. No condition. -/
import Derived.Test.YtbedibiodlgegaaEOA
import Derived.Test.YtbedibiodlgegaaKC2
namespace Go.Proofs.Ytbedibiodlgegaa
open Go.RowKit Go.ChangeShapes Go.WideShapes
set_option linter.unusedVariables false
set_option maxRecDepth 100000

section
variable {H : Type} {en : TypeId × Value → H} {w : World} {base : Nat} {spare : Nat → Bool} {held : Bool}
theorem ce25 : Try.prog.cellsOf 25 = 1 := by kernel_rfl
theorem ce26 : Try.prog.cellsOf 26 = 1 := by kernel_rfl
theorem ce28 : Try.prog.cellsOf 28 = 9 := by kernel_rfl
theorem ce55 : Try.prog.cellsOf 60 = 2 := by kernel_rfl
theorem ce61 : Try.prog.cellsOf 122 = 2 := by kernel_rfl
theorem ce4 : Try.prog.cellsOf 4 = 1 := by kernel_rfl
/-- The cells of levels that came in. -/
theorem lv_open {fuel : Nat} {cs : List Value} {y : DataW H × List MemPlace} (hl : cs.length = 9) (h : DataW.trod en Try.prog w base spare held fuel 28 cs = some y) :
    ∃ L : Lvl, IsLv w cs L ∧ ∀ j, j < L.nU → (L.U j).1.size ≤ maxLen := by
  obtain ⟨xs, n, _, _, _, hxl, hf⟩ := DataW.trod_struct Try.underlying28 h
  match cs, hl with
  | [c0, c1, c2, c3, c4, c5, c6, c7, c8], _ =>
    have l9 : xs.length = 9 := hxl
    have g0 : DataW.trod en Try.prog w base spare held n 25 (List.take (Try.prog.cellsOf 25) (List.drop 0 [c0, c1, c2, c3, c4, c5, c6, c7, c8])) = xs[0]? := hf 0 _ rfl
    have g1 : DataW.trod en Try.prog w base spare held n 26 (List.take (Try.prog.cellsOf 26) (List.drop 1 [c0, c1, c2, c3, c4, c5, c6, c7, c8])) = xs[1]? := hf 1 _ rfl
    have g2 : DataW.trod en Try.prog w base spare held n 3 (List.take (Try.prog.cellsOf 3) (List.drop 2 [c0, c1, c2, c3, c4, c5, c6, c7, c8])) = xs[2]? := hf 2 _ rfl
    have g3 : DataW.trod en Try.prog w base spare held n 3 (List.take (Try.prog.cellsOf 3) (List.drop 3 [c0, c1, c2, c3, c4, c5, c6, c7, c8])) = xs[3]? := hf 3 _ rfl
    have g4 : DataW.trod en Try.prog w base spare held n 3 (List.take (Try.prog.cellsOf 3) (List.drop 4 [c0, c1, c2, c3, c4, c5, c6, c7, c8])) = xs[4]? := hf 4 _ rfl
    have g5 : DataW.trod en Try.prog w base spare held n 3 (List.take (Try.prog.cellsOf 3) (List.drop 5 [c0, c1, c2, c3, c4, c5, c6, c7, c8])) = xs[5]? := hf 5 _ rfl
    have g6 : DataW.trod en Try.prog w base spare held n 3 (List.take (Try.prog.cellsOf 3) (List.drop 6 [c0, c1, c2, c3, c4, c5, c6, c7, c8])) = xs[6]? := hf 6 _ rfl
    have g7 : DataW.trod en Try.prog w base spare held n 3 (List.take (Try.prog.cellsOf 3) (List.drop 7 [c0, c1, c2, c3, c4, c5, c6, c7, c8])) = xs[7]? := hf 7 _ rfl
    have g8 : DataW.trod en Try.prog w base spare held n 3 (List.take (Try.prog.cellsOf 3) (List.drop 8 [c0, c1, c2, c3, c4, c5, c6, c7, c8])) = xs[8]? := hf 8 _ rfl
    rw [List.getElem?_eq_getElem (by omega)] at g0 g1 g2 g3 g4 g5 g6 g7 g8
    rw [ce25] at g0
    rw [ce26] at g1
    rw [ce3] at g2 g3 g4 g5 g6 g7 g8
    obtain ⟨d, e2, _⟩ := DataW.trod_int Try.underlying3 g2
    obtain ⟨x3, e3, _⟩ := DataW.trod_int Try.underlying3 g3
    obtain ⟨x4, e4, _⟩ := DataW.trod_int Try.underlying3 g4
    obtain ⟨x5, e5, _⟩ := DataW.trod_int Try.underlying3 g5
    obtain ⟨x6, e6, _⟩ := DataW.trod_int Try.underlying3 g6
    obtain ⟨x7, e7, _⟩ := DataW.trod_int Try.underlying3 g7
    obtain ⟨x8, e8, _⟩ := DataW.trod_int Try.underlying3 g8
    have f2 : c2 = .int .i64 d := by simpa using e2
    have f3 : c3 = .int .i64 x3 := by simpa using e3
    have f4 : c4 = .int .i64 x4 := by simpa using e4
    have f5 : c5 = .int .i64 x5 := by simpa using e5
    have f6 : c6 = .int .i64 x6 := by simpa using e6
    have f7 : c7 = .int .i64 x7 := by simpa using e7
    have f8 : c8 = .int .i64 x8 := by simpa using e8
    have hs0 : ∃ A l c, c0 = .slice A l c := by
      rcases Go.Deep.open_slice Try.underlying25 g0 with ⟨hcs, _⟩ | ⟨a, l, c, m, n, D, Pl, hcs, _⟩
      · exact ⟨none, 0, 0, by simpa using hcs⟩
      · exact ⟨some a, l, c, by simpa using hcs⟩
    have hs1 : ∃ A l c, c1 = .slice A l c := by
      rcases Go.Deep.open_slice Try.underlying26 g1 with ⟨hcs, _⟩ | ⟨a, l, c, m, n, D, Pl, hcs, _⟩
      · exact ⟨none, 0, 0, by simpa using hcs⟩
      · exact ⟨some a, l, c, by simpa using hcs⟩
    obtain ⟨uA, nU, uC, rfl⟩ := hs0
    obtain ⟨kA, nK, kC, rfl⟩ := hs1
    obtain ⟨U, hU, hUw⟩ := open_rows_si Try.underlying25 Try.underlying60 ce55 rfl rfl ce9 ce3 Try.underlying9 Try.underlying3 g0
    obtain ⟨K, hK, _⟩ := open_rows_ii Try.underlying26 Try.underlying122 ce61 rfl rfl ce31 ce3 Try.underlying22 Try.underlying3 g1
    subst f2 f3 f4 f5 f6 f7 f8
    exact ⟨⟨nU, U, nK, K, d, x3, x4, x5, x6, x7, x8⟩, ⟨uA, uC, kA, kC, rfl, hU, hK⟩, fun j hj => (hUw j hj).1⟩

theorem txs_open {fuel : Nat} {v : Value} {y : DataW H × List MemPlace} (h : DataW.trod en Try.prog w base spare held fuel 24 [v] = some y) : ∃ A l c zs, v = .slice A l c ∧ Txs w A l c zs := by
  rcases open_strings Try.underlying24 Try.underlying9 (by kernel_rfl) h with ⟨hcs, _⟩ | ⟨a, l, c, zs, hcs, _, hlc, hm, hz, _, hcell, hwz⟩
  · exact ⟨none, 0, 0, [], by simpa using hcs, Txs.nil w⟩
  · have hlz : l ≤ zs.length := by rw [hz]; split <;> omega
    refine ⟨some a, l, c, zs.take l, by simpa using hcs, ?_, by rw [List.length_take]; omega, hlc, fun s hs => hwz s (List.mem_of_mem_take hs)⟩
    refine rws_of (by omega) (by omega) (fun j hj => rfl) (fun j hj u hu => ?_) (fun j hj i v hv => ?_)
    · simp [rowS] at hu; subst hu; rfl
    · have hi : i = 0 := by
        have := (List.getElem?_eq_some_iff.1 hv).1
        simpa [rowS] using this
      subst hi
      have hv' : v = .string ((zs.take l).getD j ByteArray.empty) := by simpa [rowS] using hv.symm
      rw [hv', Nat.mul_one, Nat.add_zero, hcell j (by omega)]
      simp [List.getD_eq_getElem?_getD, hj]
/-- A content that came in. -/
theorem ct_open {fuel : Nat} {cs : List Value} {y : DataW H × List MemPlace} (hl : cs.length = 16) (h : DataW.trod en Try.prog w base spare held fuel 30 cs = some y) :
    ∃ (C : Ct) (a : Ads), cells C a = cs ∧ IsCt w C a := by
  obtain ⟨xs, n, _, _, _, hxl, hf⟩ := DataW.trod_struct Try.underlying30 h
  match cs, hl with
  | [c0, c1, c2, c3, c4, c5, c6, c7, c8, c9, c10, c11, c12, c13, c14, c15], _ =>
    have l8 : xs.length = 8 := hxl
    have g0 : DataW.trod en Try.prog w base spare held n 9 (List.take (Try.prog.cellsOf 9) (List.drop 0 [c0, c1, c2, c3, c4, c5, c6, c7, c8, c9, c10, c11, c12, c13, c14, c15])) = xs[0]? := hf 0 _ rfl
    rw [List.getElem?_eq_getElem (by omega), ce9] at g0
    have g1 : DataW.trod en Try.prog w base spare held n 3 (List.take (Try.prog.cellsOf 3) (List.drop 1 [c0, c1, c2, c3, c4, c5, c6, c7, c8, c9, c10, c11, c12, c13, c14, c15])) = xs[1]? := hf 1 _ rfl
    rw [List.getElem?_eq_getElem (by omega), ce3] at g1
    have g2 : DataW.trod en Try.prog w base spare held n 3 (List.take (Try.prog.cellsOf 3) (List.drop 2 [c0, c1, c2, c3, c4, c5, c6, c7, c8, c9, c10, c11, c12, c13, c14, c15])) = xs[2]? := hf 2 _ rfl
    rw [List.getElem?_eq_getElem (by omega), ce3] at g2
    have g3 : DataW.trod en Try.prog w base spare held n 4 (List.take (Try.prog.cellsOf 4) (List.drop 3 [c0, c1, c2, c3, c4, c5, c6, c7, c8, c9, c10, c11, c12, c13, c14, c15])) = xs[3]? := hf 3 _ rfl
    rw [List.getElem?_eq_getElem (by omega), ce4] at g3
    have g4 : DataW.trod en Try.prog w base spare held n 9 (List.take (Try.prog.cellsOf 9) (List.drop 4 [c0, c1, c2, c3, c4, c5, c6, c7, c8, c9, c10, c11, c12, c13, c14, c15])) = xs[4]? := hf 4 _ rfl
    rw [List.getElem?_eq_getElem (by omega), ce9] at g4
    have g5 : DataW.trod en Try.prog w base spare held n 24 (List.take (Try.prog.cellsOf 24) (List.drop 5 [c0, c1, c2, c3, c4, c5, c6, c7, c8, c9, c10, c11, c12, c13, c14, c15])) = xs[5]? := hf 5 _ rfl
    rw [List.getElem?_eq_getElem (by omega), ce24] at g5
    have g6 : DataW.trod en Try.prog w base spare held n 24 (List.take (Try.prog.cellsOf 24) (List.drop 6 [c0, c1, c2, c3, c4, c5, c6, c7, c8, c9, c10, c11, c12, c13, c14, c15])) = xs[6]? := hf 6 _ rfl
    rw [List.getElem?_eq_getElem (by omega), ce24] at g6
    have g7 : DataW.trod en Try.prog w base spare held n 28 (List.take (Try.prog.cellsOf 28) (List.drop 7 [c0, c1, c2, c3, c4, c5, c6, c7, c8, c9, c10, c11, c12, c13, c14, c15])) = xs[7]? := hf 7 _ rfl
    rw [List.getElem?_eq_getElem (by omega), ce28] at g7
    obtain ⟨tx, e0, _⟩ := DataW.trod_string Try.underlying9 g0
    obtain ⟨n1, e1, _⟩ := DataW.trod_int Try.underlying3 g1
    obtain ⟨tg, e2, _⟩ := DataW.trod_int Try.underlying3 g2
    obtain ⟨th, e3, _⟩ := DataW.trod_bool Try.underlying4 g3
    obtain ⟨via, e4, _⟩ := DataW.trod_string Try.underlying9 g4
    obtain ⟨aA, nA, aC, al, e5, h5⟩ := txs_open g5
    obtain ⟨dA, nD, dC, dn, e6, h6⟩ := txs_open g6
    obtain ⟨lv, ⟨uA, uC, kA, kC, e7, hU, hK⟩, _⟩ := lv_open rfl g7
    have f0 : c0 = .string tx := by simpa using e0
    have f1 : c1 = .int .i64 n1 := by simpa using e1
    have f2 : c2 = .int .i64 tg := by simpa using e2
    have f3 : c3 = .bool th := by simpa using e3
    have f4 : c4 = .string via := by simpa using e4
    have e7' : [c7, c8, c9, c10, c11, c12, c13, c14, c15] = lvc uA lv.nU uC kA lv.nK kC lv.d lv.x3 lv.x4 lv.x5 lv.x6 lv.x7 lv.x8 := e7
    simp only [List.cons.injEq, and_true] at e7'
    obtain ⟨f7, f8, f9, f10, f11, f12, f13, f14, f15⟩ := e7'
    subst f0 f1 f2 f3 f4 e5 e6 f7 f8 f9 f10 f11 f12 f13 f14 f15
    exact ⟨⟨tx, n1, tg, th, via, nA, al, nD, dn, lv⟩, ⟨aA, aC, dA, dC, uA, uC, kA, kC⟩, rfl, ⟨h5, h6, hU, hK⟩⟩
end
end Go.Proofs.Ytbedibiodlgegaa
