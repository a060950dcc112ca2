/- An argument that is a list of events, opened: what matters of each; an argument that is an event. No condition. -/
import Derived.Test.YtefajhfahnhcgaaV5
import Derived.Test.YtefajhfahnhcgaaG6
import Derived.Deep.Slices
import Derived.ChangeSame
import Derived.SliceStrings
import Derived.Lib.SliceRun
namespace Go.Proofs.Ytefajhfahnhcgaa
open Go.RowKit Go.ChangeShapes Go.WideShapes
set_option linter.unusedVariables false
set_option maxRecDepth 100000

section
variable {H : Type} {en : TypeId × Value → H} {w : World} {base : Nat} {spare : Nat → Bool} {held : Bool}
theorem ceE : Try.prog.cellsOf 34 = 29 := by kernel_rfl
theorem ceC : Try.prog.cellsOf 30 = 16 := by kernel_rfl
theorem ceL : Try.prog.cellsOf 28 = 9 := by kernel_rfl
theorem ceK : Try.prog.cellsOf 22 = 1 := by kernel_rfl
theorem ceG : Try.prog.cellsOf 32 = 2 := by kernel_rfl
theorem ceI : Try.prog.cellsOf 23 = 1 := by kernel_rfl
theorem ceS : Try.prog.cellsOf 24 = 1 := by kernel_rfl
theorem ceU : Try.prog.cellsOf 25 = 1 := by kernel_rfl
theorem ceV : Try.prog.cellsOf 26 = 1 := by kernel_rfl
theorem ce3 : Try.prog.cellsOf 3 = 1 := by kernel_rfl
theorem ce4 : Try.prog.cellsOf 4 = 1 := by kernel_rfl
theorem ce9 : Try.prog.cellsOf 9 = 1 := by kernel_rfl
theorem one_int {fuel : Nat} {t : TypeId} {k : IntKind} {v : Value} {y : DataW H × List MemPlace} (hu : Try.prog.underlying t = some (.int k)) (h : DataW.trod en Try.prog w base spare held fuel t [v] = some y) : v.oneCell' = true := by
  obtain ⟨a, e, _⟩ := DataW.trod_int hu h
  have : v = .int k a := by simpa using e
  rw [this]; rfl
theorem one_str {fuel : Nat} {t : TypeId} {v : Value} {y : DataW H × List MemPlace} (hu : Try.prog.underlying t = some .string) (h : DataW.trod en Try.prog w base spare held fuel t [v] = some y) : v.oneCell' = true := by
  obtain ⟨a, e, _⟩ := DataW.trod_string hu h
  have : v = .string a := by simpa using e
  rw [this]; rfl
theorem one_bool {fuel : Nat} {t : TypeId} {v : Value} {y : DataW H × List MemPlace} (hu : Try.prog.underlying t = some .bool) (h : DataW.trod en Try.prog w base spare held fuel t [v] = some y) : v.oneCell' = true := by
  obtain ⟨a, e, _⟩ := DataW.trod_bool hu h
  have : v = .bool a := by simpa using e
  rw [this]; rfl
theorem one_sl {fuel : Nat} {t e : TypeId} {v : Value} {y : DataW H × List MemPlace} (hu : Try.prog.underlying t = some (.slice e)) (h : DataW.trod en Try.prog w base spare held fuel t [v] = some y) : v.oneCell' = true := by
  rcases Go.Deep.open_slice hu h with ⟨hcs, _⟩ | ⟨a, l, c, m, n, D, Pl, hcs, _⟩
  · have : v = .slice none 0 0 := by simpa using hcs
    rw [this]; rfl
  · have : v = .slice (some a) l c := by simpa using hcs
    rw [this]; rfl
theorem one_L {fuel : Nat} {cs : List Value} {y : DataW H × List MemPlace} (hl : cs.length = 9) (h : DataW.trod en Try.prog w base spare held fuel 28 cs = some y) : ∀ u ∈ cs, u.oneCell' = true := by
  obtain ⟨xs, n, _, _, _, hxl, hf⟩ := DataW.trod_struct Try.underlying28 h
  match cs, hl with
  | [v0, v1, v2, v3, v4, v5, v6, v7, v8], _ =>
    have lx : xs.length = 9 := hxl
    have g0 : DataW.trod en Try.prog w base spare held n 25 (List.take (Try.prog.cellsOf 25) (List.drop 0 [v0, v1, v2, v3, v4, v5, v6, v7, v8])) = xs[0]? := hf 0 _ rfl
    rw [List.getElem?_eq_getElem (by omega), ceU] at g0
    have g1 : DataW.trod en Try.prog w base spare held n 26 (List.take (Try.prog.cellsOf 26) (List.drop 1 [v0, v1, v2, v3, v4, v5, v6, v7, v8])) = xs[1]? := hf 1 _ rfl
    rw [List.getElem?_eq_getElem (by omega), ceV] at g1
    have g2 : DataW.trod en Try.prog w base spare held n 3 (List.take (Try.prog.cellsOf 3) (List.drop 2 [v0, v1, v2, v3, v4, v5, v6, v7, v8])) = xs[2]? := hf 2 _ rfl
    rw [List.getElem?_eq_getElem (by omega), ce3] at g2
    have g3 : DataW.trod en Try.prog w base spare held n 3 (List.take (Try.prog.cellsOf 3) (List.drop 3 [v0, v1, v2, v3, v4, v5, v6, v7, v8])) = xs[3]? := hf 3 _ rfl
    rw [List.getElem?_eq_getElem (by omega), ce3] at g3
    have g4 : DataW.trod en Try.prog w base spare held n 3 (List.take (Try.prog.cellsOf 3) (List.drop 4 [v0, v1, v2, v3, v4, v5, v6, v7, v8])) = xs[4]? := hf 4 _ rfl
    rw [List.getElem?_eq_getElem (by omega), ce3] at g4
    have g5 : DataW.trod en Try.prog w base spare held n 3 (List.take (Try.prog.cellsOf 3) (List.drop 5 [v0, v1, v2, v3, v4, v5, v6, v7, v8])) = xs[5]? := hf 5 _ rfl
    rw [List.getElem?_eq_getElem (by omega), ce3] at g5
    have g6 : DataW.trod en Try.prog w base spare held n 3 (List.take (Try.prog.cellsOf 3) (List.drop 6 [v0, v1, v2, v3, v4, v5, v6, v7, v8])) = xs[6]? := hf 6 _ rfl
    rw [List.getElem?_eq_getElem (by omega), ce3] at g6
    have g7 : DataW.trod en Try.prog w base spare held n 3 (List.take (Try.prog.cellsOf 3) (List.drop 7 [v0, v1, v2, v3, v4, v5, v6, v7, v8])) = xs[7]? := hf 7 _ rfl
    rw [List.getElem?_eq_getElem (by omega), ce3] at g7
    have g8 : DataW.trod en Try.prog w base spare held n 3 (List.take (Try.prog.cellsOf 3) (List.drop 8 [v0, v1, v2, v3, v4, v5, v6, v7, v8])) = xs[8]? := hf 8 _ rfl
    rw [List.getElem?_eq_getElem (by omega), ce3] at g8
    have o0 : v0.oneCell' = true := one_sl Try.underlying25 g0
    have o1 : v1.oneCell' = true := one_sl Try.underlying26 g1
    have o2 : v2.oneCell' = true := one_int Try.underlying3 g2
    have o3 : v3.oneCell' = true := one_int Try.underlying3 g3
    have o4 : v4.oneCell' = true := one_int Try.underlying3 g4
    have o5 : v5.oneCell' = true := one_int Try.underlying3 g5
    have o6 : v6.oneCell' = true := one_int Try.underlying3 g6
    have o7 : v7.oneCell' = true := one_int Try.underlying3 g7
    have o8 : v8.oneCell' = true := one_int Try.underlying3 g8
    intro u hu
    simp only [List.mem_cons, List.not_mem_nil, or_false] at hu
    rcases hu with rfl | rfl | rfl | rfl | rfl | rfl | rfl | rfl | rfl
    · exact o0
    · exact o1
    · exact o2
    · exact o3
    · exact o4
    · exact o5
    · exact o6
    · exact o7
    · exact o8
theorem one_G {fuel : Nat} {cs : List Value} {y : DataW H × List MemPlace} (hl : cs.length = 2) (h : DataW.trod en Try.prog w base spare held fuel 32 cs = some y) : ∀ u ∈ cs, u.oneCell' = true := by
  obtain ⟨xs, n, _, _, _, hxl, hf⟩ := DataW.trod_struct Try.underlying32 h
  match cs, hl with
  | [v0, v1], _ =>
    have lx : xs.length = 2 := hxl
    have g0 : DataW.trod en Try.prog w base spare held n 9 (List.take (Try.prog.cellsOf 9) (List.drop 0 [v0, v1])) = xs[0]? := hf 0 _ rfl
    rw [List.getElem?_eq_getElem (by omega), ce9] at g0
    have g1 : DataW.trod en Try.prog w base spare held n 3 (List.take (Try.prog.cellsOf 3) (List.drop 1 [v0, v1])) = xs[1]? := hf 1 _ rfl
    rw [List.getElem?_eq_getElem (by omega), ce3] at g1
    have o0 : v0.oneCell' = true := one_str Try.underlying9 g0
    have o1 : v1.oneCell' = true := one_int Try.underlying3 g1
    intro u hu
    simp only [List.mem_cons, List.not_mem_nil, or_false] at hu
    rcases hu with rfl | rfl
    · exact o0
    · exact o1
theorem one_C {fuel : Nat} {cs : List Value} {y : DataW H × List MemPlace} (hl : cs.length = 16) (h : DataW.trod en Try.prog w base spare held fuel 30 cs = some y) : ∀ u ∈ cs, u.oneCell' = true := by
  obtain ⟨xs, n, _, _, _, hxl, hf⟩ := DataW.trod_struct Try.underlying30 h
  match cs, hl with
  | [v0, v1, v2, v3, v4, v5, v6, v7, v8, v9, v10, v11, v12, v13, v14, v15], _ =>
    have lx : xs.length = 8 := hxl
    have g0 : DataW.trod en Try.prog w base spare held n 9 (List.take (Try.prog.cellsOf 9) (List.drop 0 [v0, v1, v2, v3, v4, v5, v6, v7, v8, v9, v10, v11, v12, v13, v14, v15])) = xs[0]? := hf 0 _ rfl
    rw [List.getElem?_eq_getElem (by omega), ce9] at g0
    have g1 : DataW.trod en Try.prog w base spare held n 3 (List.take (Try.prog.cellsOf 3) (List.drop 1 [v0, v1, v2, v3, v4, v5, v6, v7, v8, v9, v10, v11, v12, v13, v14, v15])) = xs[1]? := hf 1 _ rfl
    rw [List.getElem?_eq_getElem (by omega), ce3] at g1
    have g2 : DataW.trod en Try.prog w base spare held n 3 (List.take (Try.prog.cellsOf 3) (List.drop 2 [v0, v1, v2, v3, v4, v5, v6, v7, v8, v9, v10, v11, v12, v13, v14, v15])) = xs[2]? := hf 2 _ rfl
    rw [List.getElem?_eq_getElem (by omega), ce3] at g2
    have g3 : DataW.trod en Try.prog w base spare held n 4 (List.take (Try.prog.cellsOf 4) (List.drop 3 [v0, v1, v2, v3, v4, v5, v6, v7, v8, v9, v10, v11, v12, v13, v14, v15])) = xs[3]? := hf 3 _ rfl
    rw [List.getElem?_eq_getElem (by omega), ce4] at g3
    have g4 : DataW.trod en Try.prog w base spare held n 9 (List.take (Try.prog.cellsOf 9) (List.drop 4 [v0, v1, v2, v3, v4, v5, v6, v7, v8, v9, v10, v11, v12, v13, v14, v15])) = xs[4]? := hf 4 _ rfl
    rw [List.getElem?_eq_getElem (by omega), ce9] at g4
    have g5 : DataW.trod en Try.prog w base spare held n 24 (List.take (Try.prog.cellsOf 24) (List.drop 5 [v0, v1, v2, v3, v4, v5, v6, v7, v8, v9, v10, v11, v12, v13, v14, v15])) = xs[5]? := hf 5 _ rfl
    rw [List.getElem?_eq_getElem (by omega), ceS] at g5
    have g6 : DataW.trod en Try.prog w base spare held n 24 (List.take (Try.prog.cellsOf 24) (List.drop 6 [v0, v1, v2, v3, v4, v5, v6, v7, v8, v9, v10, v11, v12, v13, v14, v15])) = xs[6]? := hf 6 _ rfl
    rw [List.getElem?_eq_getElem (by omega), ceS] at g6
    have g7 : DataW.trod en Try.prog w base spare held n 28 (List.take (Try.prog.cellsOf 28) (List.drop 7 [v0, v1, v2, v3, v4, v5, v6, v7, v8, v9, v10, v11, v12, v13, v14, v15])) = xs[7]? := hf 7 _ rfl
    rw [List.getElem?_eq_getElem (by omega), ceL] at g7
    have o0 : v0.oneCell' = true := one_str Try.underlying9 g0
    have o1 : v1.oneCell' = true := one_int Try.underlying3 g1
    have o2 : v2.oneCell' = true := one_int Try.underlying3 g2
    have o3 : v3.oneCell' = true := one_bool Try.underlying4 g3
    have o4 : v4.oneCell' = true := one_str Try.underlying9 g4
    have o5 : v5.oneCell' = true := one_sl Try.underlying24 g5
    have o6 : v6.oneCell' = true := one_sl Try.underlying24 g6
    have O7 := one_L (w := w) rfl g7
    have o7 := O7 v7 (by simp)
    have o8 := O7 v8 (by simp)
    have o9 := O7 v9 (by simp)
    have o10 := O7 v10 (by simp)
    have o11 := O7 v11 (by simp)
    have o12 := O7 v12 (by simp)
    have o13 := O7 v13 (by simp)
    have o14 := O7 v14 (by simp)
    have o15 := O7 v15 (by simp)
    intro u hu
    simp only [List.mem_cons, List.not_mem_nil, or_false] at hu
    rcases hu with rfl | rfl | rfl | rfl | rfl | rfl | rfl | rfl | rfl | rfl | rfl | rfl | rfl | rfl | rfl | rfl
    · exact o0
    · exact o1
    · exact o2
    · exact o3
    · exact o4
    · exact o5
    · exact o6
    · exact o7
    · exact o8
    · exact o9
    · exact o10
    · exact o11
    · exact o12
    · exact o13
    · exact o14
    · exact o15
theorem one_E {fuel : Nat} {cs : List Value} {y : DataW H × List MemPlace} (hl : cs.length = 29) (h : DataW.trod en Try.prog w base spare held fuel 34 cs = some y) : ∀ u ∈ cs, u.oneCell' = true := by
  obtain ⟨xs, n, _, _, _, hxl, hf⟩ := DataW.trod_struct Try.underlying34 h
  match cs, hl with
  | [v0, v1, v2, v3, v4, v5, v6, v7, v8, v9, v10, v11, v12, v13, v14, v15, v16, v17, v18, v19, v20, v21, v22, v23, v24, v25, v26, v27, v28], _ =>
    have lx : xs.length = 13 := hxl
    have g0 : DataW.trod en Try.prog w base spare held n 3 (List.take (Try.prog.cellsOf 3) (List.drop 0 [v0, v1, v2, v3, v4, v5, v6, v7, v8, v9, v10, v11, v12, v13, v14, v15, v16, v17, v18, v19, v20, v21, v22, v23, v24, v25, v26, v27, v28])) = xs[0]? := hf 0 _ rfl
    rw [List.getElem?_eq_getElem (by omega), ce3] at g0
    have g1 : DataW.trod en Try.prog w base spare held n 9 (List.take (Try.prog.cellsOf 9) (List.drop 1 [v0, v1, v2, v3, v4, v5, v6, v7, v8, v9, v10, v11, v12, v13, v14, v15, v16, v17, v18, v19, v20, v21, v22, v23, v24, v25, v26, v27, v28])) = xs[1]? := hf 1 _ rfl
    rw [List.getElem?_eq_getElem (by omega), ce9] at g1
    have g2 : DataW.trod en Try.prog w base spare held n 9 (List.take (Try.prog.cellsOf 9) (List.drop 2 [v0, v1, v2, v3, v4, v5, v6, v7, v8, v9, v10, v11, v12, v13, v14, v15, v16, v17, v18, v19, v20, v21, v22, v23, v24, v25, v26, v27, v28])) = xs[2]? := hf 2 _ rfl
    rw [List.getElem?_eq_getElem (by omega), ce9] at g2
    have g3 : DataW.trod en Try.prog w base spare held n 22 (List.take (Try.prog.cellsOf 22) (List.drop 3 [v0, v1, v2, v3, v4, v5, v6, v7, v8, v9, v10, v11, v12, v13, v14, v15, v16, v17, v18, v19, v20, v21, v22, v23, v24, v25, v26, v27, v28])) = xs[3]? := hf 3 _ rfl
    rw [List.getElem?_eq_getElem (by omega), ceK] at g3
    have g4 : DataW.trod en Try.prog w base spare held n 4 (List.take (Try.prog.cellsOf 4) (List.drop 4 [v0, v1, v2, v3, v4, v5, v6, v7, v8, v9, v10, v11, v12, v13, v14, v15, v16, v17, v18, v19, v20, v21, v22, v23, v24, v25, v26, v27, v28])) = xs[4]? := hf 4 _ rfl
    rw [List.getElem?_eq_getElem (by omega), ce4] at g4
    have g5 : DataW.trod en Try.prog w base spare held n 9 (List.take (Try.prog.cellsOf 9) (List.drop 5 [v0, v1, v2, v3, v4, v5, v6, v7, v8, v9, v10, v11, v12, v13, v14, v15, v16, v17, v18, v19, v20, v21, v22, v23, v24, v25, v26, v27, v28])) = xs[5]? := hf 5 _ rfl
    rw [List.getElem?_eq_getElem (by omega), ce9] at g5
    have g6 : DataW.trod en Try.prog w base spare held n 3 (List.take (Try.prog.cellsOf 3) (List.drop 6 [v0, v1, v2, v3, v4, v5, v6, v7, v8, v9, v10, v11, v12, v13, v14, v15, v16, v17, v18, v19, v20, v21, v22, v23, v24, v25, v26, v27, v28])) = xs[6]? := hf 6 _ rfl
    rw [List.getElem?_eq_getElem (by omega), ce3] at g6
    have g7 : DataW.trod en Try.prog w base spare held n 3 (List.take (Try.prog.cellsOf 3) (List.drop 7 [v0, v1, v2, v3, v4, v5, v6, v7, v8, v9, v10, v11, v12, v13, v14, v15, v16, v17, v18, v19, v20, v21, v22, v23, v24, v25, v26, v27, v28])) = xs[7]? := hf 7 _ rfl
    rw [List.getElem?_eq_getElem (by omega), ce3] at g7
    have g8 : DataW.trod en Try.prog w base spare held n 23 (List.take (Try.prog.cellsOf 23) (List.drop 8 [v0, v1, v2, v3, v4, v5, v6, v7, v8, v9, v10, v11, v12, v13, v14, v15, v16, v17, v18, v19, v20, v21, v22, v23, v24, v25, v26, v27, v28])) = xs[8]? := hf 8 _ rfl
    rw [List.getElem?_eq_getElem (by omega), ceI] at g8
    have g9 : DataW.trod en Try.prog w base spare held n 23 (List.take (Try.prog.cellsOf 23) (List.drop 9 [v0, v1, v2, v3, v4, v5, v6, v7, v8, v9, v10, v11, v12, v13, v14, v15, v16, v17, v18, v19, v20, v21, v22, v23, v24, v25, v26, v27, v28])) = xs[9]? := hf 9 _ rfl
    rw [List.getElem?_eq_getElem (by omega), ceI] at g9
    have g10 : DataW.trod en Try.prog w base spare held n 30 (List.take (Try.prog.cellsOf 30) (List.drop 10 [v0, v1, v2, v3, v4, v5, v6, v7, v8, v9, v10, v11, v12, v13, v14, v15, v16, v17, v18, v19, v20, v21, v22, v23, v24, v25, v26, v27, v28])) = xs[10]? := hf 10 _ rfl
    rw [List.getElem?_eq_getElem (by omega), ceC] at g10
    have g11 : DataW.trod en Try.prog w base spare held n 3 (List.take (Try.prog.cellsOf 3) (List.drop 26 [v0, v1, v2, v3, v4, v5, v6, v7, v8, v9, v10, v11, v12, v13, v14, v15, v16, v17, v18, v19, v20, v21, v22, v23, v24, v25, v26, v27, v28])) = xs[11]? := hf 11 _ rfl
    rw [List.getElem?_eq_getElem (by omega), ce3] at g11
    have g12 : DataW.trod en Try.prog w base spare held n 32 (List.take (Try.prog.cellsOf 32) (List.drop 27 [v0, v1, v2, v3, v4, v5, v6, v7, v8, v9, v10, v11, v12, v13, v14, v15, v16, v17, v18, v19, v20, v21, v22, v23, v24, v25, v26, v27, v28])) = xs[12]? := hf 12 _ rfl
    rw [List.getElem?_eq_getElem (by omega), ceG] at g12
    have o0 : v0.oneCell' = true := one_int Try.underlying3 g0
    have o1 : v1.oneCell' = true := one_str Try.underlying9 g1
    have o2 : v2.oneCell' = true := one_str Try.underlying9 g2
    have o3 : v3.oneCell' = true := one_int Try.underlying22 g3
    have o4 : v4.oneCell' = true := one_bool Try.underlying4 g4
    have o5 : v5.oneCell' = true := one_str Try.underlying9 g5
    have o6 : v6.oneCell' = true := one_int Try.underlying3 g6
    have o7 : v7.oneCell' = true := one_int Try.underlying3 g7
    have o8 : v8.oneCell' = true := one_sl Try.underlying23 g8
    have o9 : v9.oneCell' = true := one_sl Try.underlying23 g9
    have O10 := one_C (w := w) rfl g10
    have o10 := O10 v10 (by simp)
    have o11 := O10 v11 (by simp)
    have o12 := O10 v12 (by simp)
    have o13 := O10 v13 (by simp)
    have o14 := O10 v14 (by simp)
    have o15 := O10 v15 (by simp)
    have o16 := O10 v16 (by simp)
    have o17 := O10 v17 (by simp)
    have o18 := O10 v18 (by simp)
    have o19 := O10 v19 (by simp)
    have o20 := O10 v20 (by simp)
    have o21 := O10 v21 (by simp)
    have o22 := O10 v22 (by simp)
    have o23 := O10 v23 (by simp)
    have o24 := O10 v24 (by simp)
    have o25 := O10 v25 (by simp)
    have o26 : v26.oneCell' = true := one_int Try.underlying3 g11
    have O27 := one_G (w := w) rfl g12
    have o27 := O27 v27 (by simp)
    have o28 := O27 v28 (by simp)
    intro u hu
    simp only [List.mem_cons, List.not_mem_nil, or_false] at hu
    rcases hu with rfl | rfl | rfl | rfl | rfl | rfl | rfl | rfl | rfl | rfl | rfl | rfl | rfl | rfl | rfl | rfl | rfl | rfl | rfl | rfl | rfl | rfl | rfl | rfl | rfl | rfl | rfl | rfl | rfl
    · exact o0
    · exact o1
    · exact o2
    · exact o3
    · exact o4
    · exact o5
    · exact o6
    · exact o7
    · exact o8
    · exact o9
    · exact o10
    · exact o11
    · exact o12
    · exact o13
    · exact o14
    · exact o15
    · exact o16
    · exact o17
    · exact o18
    · exact o19
    · exact o20
    · exact o21
    · exact o22
    · exact o23
    · exact o24
    · exact o25
    · exact o26
    · exact o27
    · exact o28
theorem evm_open {fuel : Nat} {cs : List Value} {y : DataW H × List MemPlace} (hl : cs.length = 29) (h : DataW.trod en Try.prog w base spare held fuel 34 cs = some y) : ∃ e : Me, e.cs = cs ∧ Fits e := by
  have hone := one_E hl h
  obtain ⟨xs, n, _, _, _, hxl, hf⟩ := DataW.trod_struct Try.underlying34 h
  match cs, hl with
  | [v0, v1, v2, v3, v4, v5, v6, v7, v8, v9, v10, v11, v12, v13, v14, v15, v16, v17, v18, v19, v20, v21, v22, v23, v24, v25, v26, v27, v28], _ =>
    have lx : xs.length = 13 := hxl
    have g0 : DataW.trod en Try.prog w base spare held n 3 (List.take (Try.prog.cellsOf 3) (List.drop 0 [v0, v1, v2, v3, v4, v5, v6, v7, v8, v9, v10, v11, v12, v13, v14, v15, v16, v17, v18, v19, v20, v21, v22, v23, v24, v25, v26, v27, v28])) = xs[0]? := hf 0 _ rfl
    rw [List.getElem?_eq_getElem (by omega), ce3] at g0
    have g1 : DataW.trod en Try.prog w base spare held n 9 (List.take (Try.prog.cellsOf 9) (List.drop 1 [v0, v1, v2, v3, v4, v5, v6, v7, v8, v9, v10, v11, v12, v13, v14, v15, v16, v17, v18, v19, v20, v21, v22, v23, v24, v25, v26, v27, v28])) = xs[1]? := hf 1 _ rfl
    rw [List.getElem?_eq_getElem (by omega), ce9] at g1
    have g2 : DataW.trod en Try.prog w base spare held n 9 (List.take (Try.prog.cellsOf 9) (List.drop 2 [v0, v1, v2, v3, v4, v5, v6, v7, v8, v9, v10, v11, v12, v13, v14, v15, v16, v17, v18, v19, v20, v21, v22, v23, v24, v25, v26, v27, v28])) = xs[2]? := hf 2 _ rfl
    rw [List.getElem?_eq_getElem (by omega), ce9] at g2
    have g3 : DataW.trod en Try.prog w base spare held n 22 (List.take (Try.prog.cellsOf 22) (List.drop 3 [v0, v1, v2, v3, v4, v5, v6, v7, v8, v9, v10, v11, v12, v13, v14, v15, v16, v17, v18, v19, v20, v21, v22, v23, v24, v25, v26, v27, v28])) = xs[3]? := hf 3 _ rfl
    rw [List.getElem?_eq_getElem (by omega), ceK] at g3
    have g4 : DataW.trod en Try.prog w base spare held n 4 (List.take (Try.prog.cellsOf 4) (List.drop 4 [v0, v1, v2, v3, v4, v5, v6, v7, v8, v9, v10, v11, v12, v13, v14, v15, v16, v17, v18, v19, v20, v21, v22, v23, v24, v25, v26, v27, v28])) = xs[4]? := hf 4 _ rfl
    rw [List.getElem?_eq_getElem (by omega), ce4] at g4
    have g5 : DataW.trod en Try.prog w base spare held n 9 (List.take (Try.prog.cellsOf 9) (List.drop 5 [v0, v1, v2, v3, v4, v5, v6, v7, v8, v9, v10, v11, v12, v13, v14, v15, v16, v17, v18, v19, v20, v21, v22, v23, v24, v25, v26, v27, v28])) = xs[5]? := hf 5 _ rfl
    rw [List.getElem?_eq_getElem (by omega), ce9] at g5
    have g6 : DataW.trod en Try.prog w base spare held n 3 (List.take (Try.prog.cellsOf 3) (List.drop 6 [v0, v1, v2, v3, v4, v5, v6, v7, v8, v9, v10, v11, v12, v13, v14, v15, v16, v17, v18, v19, v20, v21, v22, v23, v24, v25, v26, v27, v28])) = xs[6]? := hf 6 _ rfl
    rw [List.getElem?_eq_getElem (by omega), ce3] at g6
    have g7 : DataW.trod en Try.prog w base spare held n 3 (List.take (Try.prog.cellsOf 3) (List.drop 7 [v0, v1, v2, v3, v4, v5, v6, v7, v8, v9, v10, v11, v12, v13, v14, v15, v16, v17, v18, v19, v20, v21, v22, v23, v24, v25, v26, v27, v28])) = xs[7]? := hf 7 _ rfl
    rw [List.getElem?_eq_getElem (by omega), ce3] at g7
    have g8 : DataW.trod en Try.prog w base spare held n 23 (List.take (Try.prog.cellsOf 23) (List.drop 8 [v0, v1, v2, v3, v4, v5, v6, v7, v8, v9, v10, v11, v12, v13, v14, v15, v16, v17, v18, v19, v20, v21, v22, v23, v24, v25, v26, v27, v28])) = xs[8]? := hf 8 _ rfl
    rw [List.getElem?_eq_getElem (by omega), ceI] at g8
    have g9 : DataW.trod en Try.prog w base spare held n 23 (List.take (Try.prog.cellsOf 23) (List.drop 9 [v0, v1, v2, v3, v4, v5, v6, v7, v8, v9, v10, v11, v12, v13, v14, v15, v16, v17, v18, v19, v20, v21, v22, v23, v24, v25, v26, v27, v28])) = xs[9]? := hf 9 _ rfl
    rw [List.getElem?_eq_getElem (by omega), ceI] at g9
    have g10 : DataW.trod en Try.prog w base spare held n 30 (List.take (Try.prog.cellsOf 30) (List.drop 10 [v0, v1, v2, v3, v4, v5, v6, v7, v8, v9, v10, v11, v12, v13, v14, v15, v16, v17, v18, v19, v20, v21, v22, v23, v24, v25, v26, v27, v28])) = xs[10]? := hf 10 _ rfl
    rw [List.getElem?_eq_getElem (by omega), ceC] at g10
    have g11 : DataW.trod en Try.prog w base spare held n 3 (List.take (Try.prog.cellsOf 3) (List.drop 26 [v0, v1, v2, v3, v4, v5, v6, v7, v8, v9, v10, v11, v12, v13, v14, v15, v16, v17, v18, v19, v20, v21, v22, v23, v24, v25, v26, v27, v28])) = xs[11]? := hf 11 _ rfl
    rw [List.getElem?_eq_getElem (by omega), ce3] at g11
    have g12 : DataW.trod en Try.prog w base spare held n 32 (List.take (Try.prog.cellsOf 32) (List.drop 27 [v0, v1, v2, v3, v4, v5, v6, v7, v8, v9, v10, v11, v12, v13, v14, v15, v16, v17, v18, v19, v20, v21, v22, v23, v24, v25, v26, v27, v28])) = xs[12]? := hf 12 _ rfl
    rw [List.getElem?_eq_getElem (by omega), ceG] at g12
    obtain ⟨ys, m, _, _, _, hyl, hg⟩ := DataW.trod_struct Try.underlying30 g10
    have ly : ys.length = 8 := hyl
    have hT : List.take 16 (List.drop 10 [v0, v1, v2, v3, v4, v5, v6, v7, v8, v9, v10, v11, v12, v13, v14, v15, v16, v17, v18, v19, v20, v21, v22, v23, v24, v25, v26, v27, v28]) = [v10, v11, v12, v13, v14, v15, v16, v17, v18, v19, v20, v21, v22, v23, v24, v25] := rfl
    have k0 : DataW.trod en Try.prog w base spare held m 9 (List.take (Try.prog.cellsOf 9) (List.drop 0 [v10, v11, v12, v13, v14, v15, v16, v17, v18, v19, v20, v21, v22, v23, v24, v25])) = ys[0]? := hg 0 _ rfl
    rw [List.getElem?_eq_getElem (by omega), ce9] at k0
    have k2 : DataW.trod en Try.prog w base spare held m 3 (List.take (Try.prog.cellsOf 3) (List.drop 2 [v10, v11, v12, v13, v14, v15, v16, v17, v18, v19, v20, v21, v22, v23, v24, v25])) = ys[2]? := hg 2 _ rfl
    rw [List.getElem?_eq_getElem (by omega), ce3] at k2
    have k3 : DataW.trod en Try.prog w base spare held m 4 (List.take (Try.prog.cellsOf 4) (List.drop 3 [v10, v11, v12, v13, v14, v15, v16, v17, v18, v19, v20, v21, v22, v23, v24, v25])) = ys[3]? := hg 3 _ rfl
    rw [List.getElem?_eq_getElem (by omega), ce4] at k3
    obtain ⟨e0, q0, _, w0⟩ := DataW.trod_int Try.underlying3 g0
    obtain ⟨e2, q2, _, w2⟩ := DataW.trod_string Try.underlying9 g2
    obtain ⟨e3, q3, _, w3⟩ := DataW.trod_int Try.underlying22 g3
    obtain ⟨e6, q6, _, w6⟩ := DataW.trod_int Try.underlying3 g6
    obtain ⟨ex, qx, _, wx⟩ := DataW.trod_string Try.underlying9 k0
    obtain ⟨eg, qg, _, wg⟩ := DataW.trod_int Try.underlying3 k2
    obtain ⟨eh, qh, _⟩ := DataW.trod_bool Try.underlying4 k3
    have f0 : v0 = .int .i64 e0 := by simpa using q0
    have f2 : v2 = .string e2 := by simpa using q2
    have f3 : v3 = .int .i64 e3 := by simpa using q3
    have f6 : v6 = .int .i64 e6 := by simpa using q6
    have fx : v10 = .string ex := by simpa using qx
    have fg : v12 = .int .i64 eg := by simpa using qg
    have fh : v13 = .bool eh := by simpa using qh
    subst f0 f2 f3 f6 fx fg fh
    exact ⟨⟨e0, e2, e3, e6, ex, eg, eh, _⟩, rfl, ⟨rfl, rfl, rfl, rfl, rfl, rfl, rfl, rfl, hone, Go.bounds_i64 w0, Go.bounds_i64 w3, Go.bounds_i64 w6, Go.bounds_i64 wg, w2, wx⟩⟩
theorem open_evm {fuel : Nat} {A : Option Addr} {len cap : Nat} {x : DataW H × List MemPlace} (h : DataW.trod en Try.prog w base spare held fuel 40 [.slice A len cap] = some x) : ∃ E : Nat → Me, Evm w A len E ∧ len ≤ cap := by
  rcases Go.Deep.open_slice Try.underlying40 h with ⟨hcs, _⟩ | ⟨a, l, c, m, n, D, Pl, hcs, hb, hl, hm, hmm, hx, hi⟩
  · simp at hcs
    obtain ⟨rfl, rfl, rfl⟩ := hcs
    exact ⟨fun _ => me0, ⟨Nat.zero_le _, fun h => by omega, fun j hj => by omega⟩, Nat.le_refl _⟩
  · simp at hcs
    obtain ⟨rfl, rfl, rfl⟩ := hcs
    have hlm : len ≤ m := by rw [hmm]; split <;> omega
    have each : ∀ i, i < len → ∃ e : Me, (∀ k v, e.cs[k]? = some v → w.cell? (a.add (i * 29 + k)) = some v) ∧ Fits e := by
      intro i hil
      obtain ⟨cs', h1, h2⟩ := hi i (by omega)
      rw [ceE] at h1
      obtain ⟨_, hlen, hcell⟩ := World.cells?_some h1
      obtain ⟨e, he, hC⟩ := evm_open hlen h2
      refine ⟨e, fun k v hv => ?_, hC⟩
      rw [he] at hv
      have hk : k < 29 := by rw [← hlen]; exact (List.getElem?_eq_some_iff.1 hv).1
      rw [← Go.Deep.add_add, hcell k hk]
      exact hv
    obtain ⟨F, hF⟩ := choose_below me0 each
    refine ⟨F, ⟨by unfold maxLen; unfold maxLen at hm; omega, fun h0 => ?_, fun j hj => (hF j hj).2⟩, hl⟩
    obtain ⟨b, off, sp⟩ := a
    have h00 := (hF 0 h0).1 0 _ (hF 0 h0).2.c0
    have hsp : sp = none := by simpa [Addr.add] using World.cell?_spot h00
    subst hsp
    refine ⟨b, off, rfl, World.block_lt_of_cell? w _ h00, fun j hj i v hv => ?_⟩
    have := (hF j hj).1 i v hv
    rw [Addr.add_lit, ← Nat.add_assoc] at this
    exact this
end
end Go.Proofs.Ytefajhfahnhcgaa
