/- An argument that is a list of events, opened: identifiers, kinds, times, Auth. No condition. -/
import Derived.Test.YtoljlpddcpdoiaaW2
import Derived.Test.YtoljlpddcpdoiaaG6
import Derived.Deep.Slices
import Derived.ChangeSame
import Derived.SliceStrings
import Derived.Lib.SliceRun
namespace Go.Proofs.Ytoljlpddcpdoiaa
open Go.RowKit Go.ChangeShapes Go.WideShapes
set_option linter.unusedVariables false
set_option maxRecDepth 100000

section
variable {H : Type} {en : TypeId × Value → H} {w : World} {base : Nat} {spare : Nat → Bool} {held : Bool}
theorem ceE : Try.prog.cellsOf 44 = 29 := by kernel_rfl
theorem ceC : Try.prog.cellsOf 40 = 16 := by kernel_rfl
theorem ceL : Try.prog.cellsOf 38 = 9 := by kernel_rfl
theorem ceK : Try.prog.cellsOf 33 = 1 := by kernel_rfl
theorem ceG : Try.prog.cellsOf 42 = 2 := by kernel_rfl
theorem ceI : Try.prog.cellsOf 26 = 1 := by kernel_rfl
theorem ceS : Try.prog.cellsOf 34 = 1 := by kernel_rfl
theorem ceU : Try.prog.cellsOf 35 = 1 := by kernel_rfl
theorem ceV : Try.prog.cellsOf 36 = 1 := by kernel_rfl
theorem ce3 : Try.prog.cellsOf 3 = 1 := by kernel_rfl
theorem ce4 : Try.prog.cellsOf 4 = 1 := by kernel_rfl
theorem ce9 : Try.prog.cellsOf 9 = 1 := by kernel_rfl
theorem one_int {fuel : Nat} {t : TypeId} {k : IntKind} {v : Value} {y : DataW H × List MemPlace} (hu : Try.prog.underlying t = some (.int k)) (h : DataW.trod en Try.prog w base spare held fuel t [v] = some y) : v.oneCell' = true := by
  obtain ⟨a, e, _⟩ := DataW.trod_int hu h
  have : v = .int k a := by simpa using e
  rw [this]; rfl
theorem one_str {fuel : Nat} {t : TypeId} {v : Value} {y : DataW H × List MemPlace} (hu : Try.prog.underlying t = some .string) (h : DataW.trod en Try.prog w base spare held fuel t [v] = some y) : v.oneCell' = true := by
  obtain ⟨a, e, _⟩ := DataW.trod_string hu h
  have : v = .string a := by simpa using e
  rw [this]; rfl
theorem one_bool {fuel : Nat} {t : TypeId} {v : Value} {y : DataW H × List MemPlace} (hu : Try.prog.underlying t = some .bool) (h : DataW.trod en Try.prog w base spare held fuel t [v] = some y) : v.oneCell' = true := by
  obtain ⟨a, e, _⟩ := DataW.trod_bool hu h
  have : v = .bool a := by simpa using e
  rw [this]; rfl
theorem one_sl {fuel : Nat} {t e : TypeId} {v : Value} {y : DataW H × List MemPlace} (hu : Try.prog.underlying t = some (.slice e)) (h : DataW.trod en Try.prog w base spare held fuel t [v] = some y) : v.oneCell' = true := by
  rcases Go.Deep.open_slice hu h with ⟨hcs, _⟩ | ⟨a, l, c, m, n, D, Pl, hcs, _⟩
  · have : v = .slice none 0 0 := by simpa using hcs
    rw [this]; rfl
  · have : v = .slice (some a) l c := by simpa using hcs
    rw [this]; rfl
theorem one_L {fuel : Nat} {cs : List Value} {y : DataW H × List MemPlace} (hl : cs.length = 9) (h : DataW.trod en Try.prog w base spare held fuel 38 cs = some y) : ∀ u ∈ cs, u.oneCell' = true := by
  obtain ⟨xs, n, _, _, _, hxl, hf⟩ := DataW.trod_struct Try.underlying38 h
  match cs, hl with
  | [v0, v1, v2, v3, v4, v5, v6, v7, v8], _ =>
    have lx : xs.length = 9 := hxl
    have g0 : DataW.trod en Try.prog w base spare held n 35 (List.take (Try.prog.cellsOf 35) (List.drop 0 [v0, v1, v2, v3, v4, v5, v6, v7, v8])) = xs[0]? := hf 0 _ rfl
    rw [List.getElem?_eq_getElem (by omega), ceU] at g0
    have g1 : DataW.trod en Try.prog w base spare held n 36 (List.take (Try.prog.cellsOf 36) (List.drop 1 [v0, v1, v2, v3, v4, v5, v6, v7, v8])) = xs[1]? := hf 1 _ rfl
    rw [List.getElem?_eq_getElem (by omega), ceV] at g1
    have g2 : DataW.trod en Try.prog w base spare held n 3 (List.take (Try.prog.cellsOf 3) (List.drop 2 [v0, v1, v2, v3, v4, v5, v6, v7, v8])) = xs[2]? := hf 2 _ rfl
    rw [List.getElem?_eq_getElem (by omega), ce3] at g2
    have g3 : DataW.trod en Try.prog w base spare held n 3 (List.take (Try.prog.cellsOf 3) (List.drop 3 [v0, v1, v2, v3, v4, v5, v6, v7, v8])) = xs[3]? := hf 3 _ rfl
    rw [List.getElem?_eq_getElem (by omega), ce3] at g3
    have g4 : DataW.trod en Try.prog w base spare held n 3 (List.take (Try.prog.cellsOf 3) (List.drop 4 [v0, v1, v2, v3, v4, v5, v6, v7, v8])) = xs[4]? := hf 4 _ rfl
    rw [List.getElem?_eq_getElem (by omega), ce3] at g4
    have g5 : DataW.trod en Try.prog w base spare held n 3 (List.take (Try.prog.cellsOf 3) (List.drop 5 [v0, v1, v2, v3, v4, v5, v6, v7, v8])) = xs[5]? := hf 5 _ rfl
    rw [List.getElem?_eq_getElem (by omega), ce3] at g5
    have g6 : DataW.trod en Try.prog w base spare held n 3 (List.take (Try.prog.cellsOf 3) (List.drop 6 [v0, v1, v2, v3, v4, v5, v6, v7, v8])) = xs[6]? := hf 6 _ rfl
    rw [List.getElem?_eq_getElem (by omega), ce3] at g6
    have g7 : DataW.trod en Try.prog w base spare held n 3 (List.take (Try.prog.cellsOf 3) (List.drop 7 [v0, v1, v2, v3, v4, v5, v6, v7, v8])) = xs[7]? := hf 7 _ rfl
    rw [List.getElem?_eq_getElem (by omega), ce3] at g7
    have g8 : DataW.trod en Try.prog w base spare held n 3 (List.take (Try.prog.cellsOf 3) (List.drop 8 [v0, v1, v2, v3, v4, v5, v6, v7, v8])) = xs[8]? := hf 8 _ rfl
    rw [List.getElem?_eq_getElem (by omega), ce3] at g8
    have o0 : v0.oneCell' = true := one_sl Try.underlying35 g0
    have o1 : v1.oneCell' = true := one_sl Try.underlying36 g1
    have o2 : v2.oneCell' = true := one_int Try.underlying3 g2
    have o3 : v3.oneCell' = true := one_int Try.underlying3 g3
    have o4 : v4.oneCell' = true := one_int Try.underlying3 g4
    have o5 : v5.oneCell' = true := one_int Try.underlying3 g5
    have o6 : v6.oneCell' = true := one_int Try.underlying3 g6
    have o7 : v7.oneCell' = true := one_int Try.underlying3 g7
    have o8 : v8.oneCell' = true := one_int Try.underlying3 g8
    intro u hu
    simp only [List.mem_cons, List.not_mem_nil, or_false] at hu
    rcases hu with rfl | rfl | rfl | rfl | rfl | rfl | rfl | rfl | rfl
    · exact o0
    · exact o1
    · exact o2
    · exact o3
    · exact o4
    · exact o5
    · exact o6
    · exact o7
    · exact o8
theorem one_G {fuel : Nat} {cs : List Value} {y : DataW H × List MemPlace} (hl : cs.length = 2) (h : DataW.trod en Try.prog w base spare held fuel 42 cs = some y) : ∀ u ∈ cs, u.oneCell' = true := by
  obtain ⟨xs, n, _, _, _, hxl, hf⟩ := DataW.trod_struct Try.underlying42 h
  match cs, hl with
  | [v0, v1], _ =>
    have lx : xs.length = 2 := hxl
    have g0 : DataW.trod en Try.prog w base spare held n 9 (List.take (Try.prog.cellsOf 9) (List.drop 0 [v0, v1])) = xs[0]? := hf 0 _ rfl
    rw [List.getElem?_eq_getElem (by omega), ce9] at g0
    have g1 : DataW.trod en Try.prog w base spare held n 3 (List.take (Try.prog.cellsOf 3) (List.drop 1 [v0, v1])) = xs[1]? := hf 1 _ rfl
    rw [List.getElem?_eq_getElem (by omega), ce3] at g1
    have o0 : v0.oneCell' = true := one_str Try.underlying9 g0
    have o1 : v1.oneCell' = true := one_int Try.underlying3 g1
    intro u hu
    simp only [List.mem_cons, List.not_mem_nil, or_false] at hu
    rcases hu with rfl | rfl
    · exact o0
    · exact o1
theorem one_C {fuel : Nat} {cs : List Value} {y : DataW H × List MemPlace} (hl : cs.length = 16) (h : DataW.trod en Try.prog w base spare held fuel 40 cs = some y) : ∀ u ∈ cs, u.oneCell' = true := by
  obtain ⟨xs, n, _, _, _, hxl, hf⟩ := DataW.trod_struct Try.underlying40 h
  match cs, hl with
  | [v0, v1, v2, v3, v4, v5, v6, v7, v8, v9, v10, v11, v12, v13, v14, v15], _ =>
    have lx : xs.length = 8 := hxl
    have g0 : DataW.trod en Try.prog w base spare held n 9 (List.take (Try.prog.cellsOf 9) (List.drop 0 [v0, v1, v2, v3, v4, v5, v6, v7, v8, v9, v10, v11, v12, v13, v14, v15])) = xs[0]? := hf 0 _ rfl
    rw [List.getElem?_eq_getElem (by omega), ce9] at g0
    have g1 : DataW.trod en Try.prog w base spare held n 3 (List.take (Try.prog.cellsOf 3) (List.drop 1 [v0, v1, v2, v3, v4, v5, v6, v7, v8, v9, v10, v11, v12, v13, v14, v15])) = xs[1]? := hf 1 _ rfl
    rw [List.getElem?_eq_getElem (by omega), ce3] at g1
    have g2 : DataW.trod en Try.prog w base spare held n 3 (List.take (Try.prog.cellsOf 3) (List.drop 2 [v0, v1, v2, v3, v4, v5, v6, v7, v8, v9, v10, v11, v12, v13, v14, v15])) = xs[2]? := hf 2 _ rfl
    rw [List.getElem?_eq_getElem (by omega), ce3] at g2
    have g3 : DataW.trod en Try.prog w base spare held n 4 (List.take (Try.prog.cellsOf 4) (List.drop 3 [v0, v1, v2, v3, v4, v5, v6, v7, v8, v9, v10, v11, v12, v13, v14, v15])) = xs[3]? := hf 3 _ rfl
    rw [List.getElem?_eq_getElem (by omega), ce4] at g3
    have g4 : DataW.trod en Try.prog w base spare held n 9 (List.take (Try.prog.cellsOf 9) (List.drop 4 [v0, v1, v2, v3, v4, v5, v6, v7, v8, v9, v10, v11, v12, v13, v14, v15])) = xs[4]? := hf 4 _ rfl
    rw [List.getElem?_eq_getElem (by omega), ce9] at g4
    have g5 : DataW.trod en Try.prog w base spare held n 34 (List.take (Try.prog.cellsOf 34) (List.drop 5 [v0, v1, v2, v3, v4, v5, v6, v7, v8, v9, v10, v11, v12, v13, v14, v15])) = xs[5]? := hf 5 _ rfl
    rw [List.getElem?_eq_getElem (by omega), ceS] at g5
    have g6 : DataW.trod en Try.prog w base spare held n 34 (List.take (Try.prog.cellsOf 34) (List.drop 6 [v0, v1, v2, v3, v4, v5, v6, v7, v8, v9, v10, v11, v12, v13, v14, v15])) = xs[6]? := hf 6 _ rfl
    rw [List.getElem?_eq_getElem (by omega), ceS] at g6
    have g7 : DataW.trod en Try.prog w base spare held n 38 (List.take (Try.prog.cellsOf 38) (List.drop 7 [v0, v1, v2, v3, v4, v5, v6, v7, v8, v9, v10, v11, v12, v13, v14, v15])) = xs[7]? := hf 7 _ rfl
    rw [List.getElem?_eq_getElem (by omega), ceL] at g7
    have o0 : v0.oneCell' = true := one_str Try.underlying9 g0
    have o1 : v1.oneCell' = true := one_int Try.underlying3 g1
    have o2 : v2.oneCell' = true := one_int Try.underlying3 g2
    have o3 : v3.oneCell' = true := one_bool Try.underlying4 g3
    have o4 : v4.oneCell' = true := one_str Try.underlying9 g4
    have o5 : v5.oneCell' = true := one_sl Try.underlying34 g5
    have o6 : v6.oneCell' = true := one_sl Try.underlying34 g6
    have O7 := one_L (w := w) rfl g7
    have o7 := O7 v7 (by simp)
    have o8 := O7 v8 (by simp)
    have o9 := O7 v9 (by simp)
    have o10 := O7 v10 (by simp)
    have o11 := O7 v11 (by simp)
    have o12 := O7 v12 (by simp)
    have o13 := O7 v13 (by simp)
    have o14 := O7 v14 (by simp)
    have o15 := O7 v15 (by simp)
    intro u hu
    simp only [List.mem_cons, List.not_mem_nil, or_false] at hu
    rcases hu with rfl | rfl | rfl | rfl | rfl | rfl | rfl | rfl | rfl | rfl | rfl | rfl | rfl | rfl | rfl | rfl
    · exact o0
    · exact o1
    · exact o2
    · exact o3
    · exact o4
    · exact o5
    · exact o6
    · exact o7
    · exact o8
    · exact o9
    · exact o10
    · exact o11
    · exact o12
    · exact o13
    · exact o14
    · exact o15
theorem one_E {fuel : Nat} {cs : List Value} {y : DataW H × List MemPlace} (hl : cs.length = 29) (h : DataW.trod en Try.prog w base spare held fuel 44 cs = some y) : ∀ u ∈ cs, u.oneCell' = true := by
  obtain ⟨xs, n, _, _, _, hxl, hf⟩ := DataW.trod_struct Try.underlying44 h
  match cs, hl with
  | [v0, v1, v2, v3, v4, v5, v6, v7, v8, v9, v10, v11, v12, v13, v14, v15, v16, v17, v18, v19, v20, v21, v22, v23, v24, v25, v26, v27, v28], _ =>
    have lx : xs.length = 13 := hxl
    have g0 : DataW.trod en Try.prog w base spare held n 3 (List.take (Try.prog.cellsOf 3) (List.drop 0 [v0, v1, v2, v3, v4, v5, v6, v7, v8, v9, v10, v11, v12, v13, v14, v15, v16, v17, v18, v19, v20, v21, v22, v23, v24, v25, v26, v27, v28])) = xs[0]? := hf 0 _ rfl
    rw [List.getElem?_eq_getElem (by omega), ce3] at g0
    have g1 : DataW.trod en Try.prog w base spare held n 9 (List.take (Try.prog.cellsOf 9) (List.drop 1 [v0, v1, v2, v3, v4, v5, v6, v7, v8, v9, v10, v11, v12, v13, v14, v15, v16, v17, v18, v19, v20, v21, v22, v23, v24, v25, v26, v27, v28])) = xs[1]? := hf 1 _ rfl
    rw [List.getElem?_eq_getElem (by omega), ce9] at g1
    have g2 : DataW.trod en Try.prog w base spare held n 9 (List.take (Try.prog.cellsOf 9) (List.drop 2 [v0, v1, v2, v3, v4, v5, v6, v7, v8, v9, v10, v11, v12, v13, v14, v15, v16, v17, v18, v19, v20, v21, v22, v23, v24, v25, v26, v27, v28])) = xs[2]? := hf 2 _ rfl
    rw [List.getElem?_eq_getElem (by omega), ce9] at g2
    have g3 : DataW.trod en Try.prog w base spare held n 33 (List.take (Try.prog.cellsOf 33) (List.drop 3 [v0, v1, v2, v3, v4, v5, v6, v7, v8, v9, v10, v11, v12, v13, v14, v15, v16, v17, v18, v19, v20, v21, v22, v23, v24, v25, v26, v27, v28])) = xs[3]? := hf 3 _ rfl
    rw [List.getElem?_eq_getElem (by omega), ceK] at g3
    have g4 : DataW.trod en Try.prog w base spare held n 4 (List.take (Try.prog.cellsOf 4) (List.drop 4 [v0, v1, v2, v3, v4, v5, v6, v7, v8, v9, v10, v11, v12, v13, v14, v15, v16, v17, v18, v19, v20, v21, v22, v23, v24, v25, v26, v27, v28])) = xs[4]? := hf 4 _ rfl
    rw [List.getElem?_eq_getElem (by omega), ce4] at g4
    have g5 : DataW.trod en Try.prog w base spare held n 9 (List.take (Try.prog.cellsOf 9) (List.drop 5 [v0, v1, v2, v3, v4, v5, v6, v7, v8, v9, v10, v11, v12, v13, v14, v15, v16, v17, v18, v19, v20, v21, v22, v23, v24, v25, v26, v27, v28])) = xs[5]? := hf 5 _ rfl
    rw [List.getElem?_eq_getElem (by omega), ce9] at g5
    have g6 : DataW.trod en Try.prog w base spare held n 3 (List.take (Try.prog.cellsOf 3) (List.drop 6 [v0, v1, v2, v3, v4, v5, v6, v7, v8, v9, v10, v11, v12, v13, v14, v15, v16, v17, v18, v19, v20, v21, v22, v23, v24, v25, v26, v27, v28])) = xs[6]? := hf 6 _ rfl
    rw [List.getElem?_eq_getElem (by omega), ce3] at g6
    have g7 : DataW.trod en Try.prog w base spare held n 3 (List.take (Try.prog.cellsOf 3) (List.drop 7 [v0, v1, v2, v3, v4, v5, v6, v7, v8, v9, v10, v11, v12, v13, v14, v15, v16, v17, v18, v19, v20, v21, v22, v23, v24, v25, v26, v27, v28])) = xs[7]? := hf 7 _ rfl
    rw [List.getElem?_eq_getElem (by omega), ce3] at g7
    have g8 : DataW.trod en Try.prog w base spare held n 26 (List.take (Try.prog.cellsOf 26) (List.drop 8 [v0, v1, v2, v3, v4, v5, v6, v7, v8, v9, v10, v11, v12, v13, v14, v15, v16, v17, v18, v19, v20, v21, v22, v23, v24, v25, v26, v27, v28])) = xs[8]? := hf 8 _ rfl
    rw [List.getElem?_eq_getElem (by omega), ceI] at g8
    have g9 : DataW.trod en Try.prog w base spare held n 26 (List.take (Try.prog.cellsOf 26) (List.drop 9 [v0, v1, v2, v3, v4, v5, v6, v7, v8, v9, v10, v11, v12, v13, v14, v15, v16, v17, v18, v19, v20, v21, v22, v23, v24, v25, v26, v27, v28])) = xs[9]? := hf 9 _ rfl
    rw [List.getElem?_eq_getElem (by omega), ceI] at g9
    have g10 : DataW.trod en Try.prog w base spare held n 40 (List.take (Try.prog.cellsOf 40) (List.drop 10 [v0, v1, v2, v3, v4, v5, v6, v7, v8, v9, v10, v11, v12, v13, v14, v15, v16, v17, v18, v19, v20, v21, v22, v23, v24, v25, v26, v27, v28])) = xs[10]? := hf 10 _ rfl
    rw [List.getElem?_eq_getElem (by omega), ceC] at g10
    have g11 : DataW.trod en Try.prog w base spare held n 3 (List.take (Try.prog.cellsOf 3) (List.drop 26 [v0, v1, v2, v3, v4, v5, v6, v7, v8, v9, v10, v11, v12, v13, v14, v15, v16, v17, v18, v19, v20, v21, v22, v23, v24, v25, v26, v27, v28])) = xs[11]? := hf 11 _ rfl
    rw [List.getElem?_eq_getElem (by omega), ce3] at g11
    have g12 : DataW.trod en Try.prog w base spare held n 42 (List.take (Try.prog.cellsOf 42) (List.drop 27 [v0, v1, v2, v3, v4, v5, v6, v7, v8, v9, v10, v11, v12, v13, v14, v15, v16, v17, v18, v19, v20, v21, v22, v23, v24, v25, v26, v27, v28])) = xs[12]? := hf 12 _ rfl
    rw [List.getElem?_eq_getElem (by omega), ceG] at g12
    have o0 : v0.oneCell' = true := one_int Try.underlying3 g0
    have o1 : v1.oneCell' = true := one_str Try.underlying9 g1
    have o2 : v2.oneCell' = true := one_str Try.underlying9 g2
    have o3 : v3.oneCell' = true := one_int Try.underlying33 g3
    have o4 : v4.oneCell' = true := one_bool Try.underlying4 g4
    have o5 : v5.oneCell' = true := one_str Try.underlying9 g5
    have o6 : v6.oneCell' = true := one_int Try.underlying3 g6
    have o7 : v7.oneCell' = true := one_int Try.underlying3 g7
    have o8 : v8.oneCell' = true := one_sl Try.underlying26 g8
    have o9 : v9.oneCell' = true := one_sl Try.underlying26 g9
    have O10 := one_C (w := w) rfl g10
    have o10 := O10 v10 (by simp)
    have o11 := O10 v11 (by simp)
    have o12 := O10 v12 (by simp)
    have o13 := O10 v13 (by simp)
    have o14 := O10 v14 (by simp)
    have o15 := O10 v15 (by simp)
    have o16 := O10 v16 (by simp)
    have o17 := O10 v17 (by simp)
    have o18 := O10 v18 (by simp)
    have o19 := O10 v19 (by simp)
    have o20 := O10 v20 (by simp)
    have o21 := O10 v21 (by simp)
    have o22 := O10 v22 (by simp)
    have o23 := O10 v23 (by simp)
    have o24 := O10 v24 (by simp)
    have o25 := O10 v25 (by simp)
    have o26 : v26.oneCell' = true := one_int Try.underlying3 g11
    have O27 := one_G (w := w) rfl g12
    have o27 := O27 v27 (by simp)
    have o28 := O27 v28 (by simp)
    intro u hu
    simp only [List.mem_cons, List.not_mem_nil, or_false] at hu
    rcases hu with rfl | rfl | rfl | rfl | rfl | rfl | rfl | rfl | rfl | rfl | rfl | rfl | rfl | rfl | rfl | rfl | rfl | rfl | rfl | rfl | rfl | rfl | rfl | rfl | rfl | rfl | rfl | rfl | rfl
    · exact o0
    · exact o1
    · exact o2
    · exact o3
    · exact o4
    · exact o5
    · exact o6
    · exact o7
    · exact o8
    · exact o9
    · exact o10
    · exact o11
    · exact o12
    · exact o13
    · exact o14
    · exact o15
    · exact o16
    · exact o17
    · exact o18
    · exact o19
    · exact o20
    · exact o21
    · exact o22
    · exact o23
    · exact o24
    · exact o25
    · exact o26
    · exact o27
    · exact o28
theorem its_nil (w : World) : Its w none 0 0 [] := ⟨Rws.zero _ _ _ _ _ (fun _ => rfl), rfl, Nat.le_refl _, by simp⟩
theorem ints_open {fuel : Nat} {v : Value} {y : DataW H × List MemPlace} (h : DataW.trod en Try.prog w base spare held fuel 26 [v] = some y) : ∃ A l c, v = .slice A l c ∧ ∃ zs, Its w A l c zs := by
  rcases open_ints Try.underlying26 Try.underlying3 ce3 h with ⟨hcs, _⟩ | ⟨a, l, c, zs, hcs, _, hl, hm, hz, _, hcell, hwz⟩
  · exact ⟨none, 0, 0, by simpa using hcs, [], its_nil w⟩
  · have hlz : l ≤ zs.length := by rw [hz]; split <;> omega
    have hm' := hm
    unfold maxLen at hm'
    refine ⟨some a, l, c, by simpa using hcs, zs.take l, ?_, by rw [List.length_take]; omega, hl, fun z hz => Go.bounds_i64 (hwz z (List.mem_of_mem_take hz))⟩
    refine rws_of (by omega) (by omega) (fun j hj => rfl) (fun j hj u hu => ?_) (fun j hj i v hv => ?_)
    · simp [rowI] at hu; subst hu; rfl
    · have hi : i = 0 := by
        have := (List.getElem?_eq_some_iff.1 hv).1
        simpa [rowI] using this
      subst hi
      have hv' : v = .int .i64 ((zs.take l).getD j 0) := by simpa [rowI] using hv.symm
      rw [hv', Nat.mul_one, Nat.add_zero, hcell j (by omega)]
      simp [List.getD_eq_getElem?_getD, hj]
theorem evm_open {fuel : Nat} {cs : List Value} {y : DataW H × List MemPlace} (hl : cs.length = 29) (h : DataW.trod en Try.prog w base spare held fuel 44 cs = some y) : ∃ e : Me, e.cs = cs ∧ Fits e ∧ i64B e.id ∧ Its w e.aA e.nA e.cA e.zs := by
  have hone := one_E hl h
  obtain ⟨xs, n, _, _, _, hxl, hf⟩ := DataW.trod_struct Try.underlying44 h
  match cs, hl with
  | [v0, v1, v2, v3, v4, v5, v6, v7, v8, v9, v10, v11, v12, v13, v14, v15, v16, v17, v18, v19, v20, v21, v22, v23, v24, v25, v26, v27, v28], _ =>
    have lx : xs.length = 13 := hxl
    have g0 : DataW.trod en Try.prog w base spare held n 3 (List.take (Try.prog.cellsOf 3) (List.drop 0 [v0, v1, v2, v3, v4, v5, v6, v7, v8, v9, v10, v11, v12, v13, v14, v15, v16, v17, v18, v19, v20, v21, v22, v23, v24, v25, v26, v27, v28])) = xs[0]? := hf 0 _ rfl
    rw [List.getElem?_eq_getElem (by omega), ce3] at g0
    have g1 : DataW.trod en Try.prog w base spare held n 9 (List.take (Try.prog.cellsOf 9) (List.drop 1 [v0, v1, v2, v3, v4, v5, v6, v7, v8, v9, v10, v11, v12, v13, v14, v15, v16, v17, v18, v19, v20, v21, v22, v23, v24, v25, v26, v27, v28])) = xs[1]? := hf 1 _ rfl
    rw [List.getElem?_eq_getElem (by omega), ce9] at g1
    have g2 : DataW.trod en Try.prog w base spare held n 9 (List.take (Try.prog.cellsOf 9) (List.drop 2 [v0, v1, v2, v3, v4, v5, v6, v7, v8, v9, v10, v11, v12, v13, v14, v15, v16, v17, v18, v19, v20, v21, v22, v23, v24, v25, v26, v27, v28])) = xs[2]? := hf 2 _ rfl
    rw [List.getElem?_eq_getElem (by omega), ce9] at g2
    have g3 : DataW.trod en Try.prog w base spare held n 33 (List.take (Try.prog.cellsOf 33) (List.drop 3 [v0, v1, v2, v3, v4, v5, v6, v7, v8, v9, v10, v11, v12, v13, v14, v15, v16, v17, v18, v19, v20, v21, v22, v23, v24, v25, v26, v27, v28])) = xs[3]? := hf 3 _ rfl
    rw [List.getElem?_eq_getElem (by omega), ceK] at g3
    have g4 : DataW.trod en Try.prog w base spare held n 4 (List.take (Try.prog.cellsOf 4) (List.drop 4 [v0, v1, v2, v3, v4, v5, v6, v7, v8, v9, v10, v11, v12, v13, v14, v15, v16, v17, v18, v19, v20, v21, v22, v23, v24, v25, v26, v27, v28])) = xs[4]? := hf 4 _ rfl
    rw [List.getElem?_eq_getElem (by omega), ce4] at g4
    have g5 : DataW.trod en Try.prog w base spare held n 9 (List.take (Try.prog.cellsOf 9) (List.drop 5 [v0, v1, v2, v3, v4, v5, v6, v7, v8, v9, v10, v11, v12, v13, v14, v15, v16, v17, v18, v19, v20, v21, v22, v23, v24, v25, v26, v27, v28])) = xs[5]? := hf 5 _ rfl
    rw [List.getElem?_eq_getElem (by omega), ce9] at g5
    have g6 : DataW.trod en Try.prog w base spare held n 3 (List.take (Try.prog.cellsOf 3) (List.drop 6 [v0, v1, v2, v3, v4, v5, v6, v7, v8, v9, v10, v11, v12, v13, v14, v15, v16, v17, v18, v19, v20, v21, v22, v23, v24, v25, v26, v27, v28])) = xs[6]? := hf 6 _ rfl
    rw [List.getElem?_eq_getElem (by omega), ce3] at g6
    have g7 : DataW.trod en Try.prog w base spare held n 3 (List.take (Try.prog.cellsOf 3) (List.drop 7 [v0, v1, v2, v3, v4, v5, v6, v7, v8, v9, v10, v11, v12, v13, v14, v15, v16, v17, v18, v19, v20, v21, v22, v23, v24, v25, v26, v27, v28])) = xs[7]? := hf 7 _ rfl
    rw [List.getElem?_eq_getElem (by omega), ce3] at g7
    have g8 : DataW.trod en Try.prog w base spare held n 26 (List.take (Try.prog.cellsOf 26) (List.drop 8 [v0, v1, v2, v3, v4, v5, v6, v7, v8, v9, v10, v11, v12, v13, v14, v15, v16, v17, v18, v19, v20, v21, v22, v23, v24, v25, v26, v27, v28])) = xs[8]? := hf 8 _ rfl
    rw [List.getElem?_eq_getElem (by omega), ceI] at g8
    have g9 : DataW.trod en Try.prog w base spare held n 26 (List.take (Try.prog.cellsOf 26) (List.drop 9 [v0, v1, v2, v3, v4, v5, v6, v7, v8, v9, v10, v11, v12, v13, v14, v15, v16, v17, v18, v19, v20, v21, v22, v23, v24, v25, v26, v27, v28])) = xs[9]? := hf 9 _ rfl
    rw [List.getElem?_eq_getElem (by omega), ceI] at g9
    have g10 : DataW.trod en Try.prog w base spare held n 40 (List.take (Try.prog.cellsOf 40) (List.drop 10 [v0, v1, v2, v3, v4, v5, v6, v7, v8, v9, v10, v11, v12, v13, v14, v15, v16, v17, v18, v19, v20, v21, v22, v23, v24, v25, v26, v27, v28])) = xs[10]? := hf 10 _ rfl
    rw [List.getElem?_eq_getElem (by omega), ceC] at g10
    have g11 : DataW.trod en Try.prog w base spare held n 3 (List.take (Try.prog.cellsOf 3) (List.drop 26 [v0, v1, v2, v3, v4, v5, v6, v7, v8, v9, v10, v11, v12, v13, v14, v15, v16, v17, v18, v19, v20, v21, v22, v23, v24, v25, v26, v27, v28])) = xs[11]? := hf 11 _ rfl
    rw [List.getElem?_eq_getElem (by omega), ce3] at g11
    have g12 : DataW.trod en Try.prog w base spare held n 42 (List.take (Try.prog.cellsOf 42) (List.drop 27 [v0, v1, v2, v3, v4, v5, v6, v7, v8, v9, v10, v11, v12, v13, v14, v15, v16, v17, v18, v19, v20, v21, v22, v23, v24, v25, v26, v27, v28])) = xs[12]? := hf 12 _ rfl
    rw [List.getElem?_eq_getElem (by omega), ceG] at g12
    obtain ⟨e0, q0, _, w0⟩ := DataW.trod_int Try.underlying3 g0
    obtain ⟨e3, q3, _, w3⟩ := DataW.trod_int Try.underlying33 g3
    obtain ⟨e6, q6, _, w6⟩ := DataW.trod_int Try.underlying3 g6
    obtain ⟨a9, n9, c9, f9, p9, i9⟩ := ints_open g9
    have f0 : v0 = .int .i64 e0 := by simpa using q0
    have f3 : v3 = .int .i64 e3 := by simpa using q3
    have f6 : v6 = .int .i64 e6 := by simpa using q6
    subst f0 f3 f6 f9
    exact ⟨⟨e0, e3, e6, a9, n9, c9, p9, _⟩, rfl, ⟨rfl, rfl, rfl, rfl, rfl, hone⟩, Go.bounds_i64 w0, i9⟩
theorem open_evm {fuel : Nat} {A : Option Addr} {len cap : Nat} {x : DataW H × List MemPlace} (h : DataW.trod en Try.prog w base spare held fuel 22 [.slice A len cap] = some x) : ∃ E : Nat → Me, Evm w A len E := by
  rcases Go.Deep.open_slice Try.underlying22 h with ⟨hcs, _⟩ | ⟨a, l, c, m, n, D, Pl, hcs, hb, hl, hm, hmm, hx, hi⟩
  · simp at hcs
    obtain ⟨rfl, rfl, rfl⟩ := hcs
    exact ⟨fun _ => ⟨0, 0, 0, none, 0, 0, [], []⟩, fun h => by omega, fun j hj => by omega, fun j hj => by omega, fun j hj => by omega⟩
  · simp at hcs
    obtain ⟨rfl, rfl, rfl⟩ := hcs
    have hlm : len ≤ m := by rw [hmm]; split <;> omega
    have each : ∀ i, i < len → ∃ e : Me, (∀ k v, e.cs[k]? = some v → w.cell? (a.add (i * 29 + k)) = some v) ∧ Fits e ∧ i64B e.id ∧ Its w e.aA e.nA e.cA e.zs := by
      intro i hil
      obtain ⟨cs', h1, h2⟩ := hi i (by omega)
      rw [ceE] at h1
      obtain ⟨_, hlen, hcell⟩ := World.cells?_some h1
      obtain ⟨e, he, hC, hW⟩ := evm_open hlen h2
      refine ⟨e, fun k v hv => ?_, hC, hW⟩
      rw [he] at hv
      have hk : k < 29 := by rw [← hlen]; exact (List.getElem?_eq_some_iff.1 hv).1
      rw [← Go.Deep.add_add, hcell k hk]
      exact hv
    obtain ⟨F, hF⟩ := choose_below (⟨0, 0, 0, none, 0, 0, [], []⟩ : Me) each
    refine ⟨F, fun h0 => ?_, fun j hj => (hF j hj).2.2.2, fun j hj => (hF j hj).2.2.1, fun j hj => (hF j hj).2.1⟩
    obtain ⟨b, off, sp⟩ := a
    have h00 := (hF 0 h0).1 0 _ (hF 0 h0).2.1.c0
    have hsp : sp = none := by simpa [Addr.add] using World.cell?_spot h00
    subst hsp
    refine ⟨b, off, rfl, World.block_lt_of_cell? w _ h00, fun j hj i v hv => ?_⟩
    have := (hF j hj).1 i v hv
    rw [Addr.add_lit, ← Nat.add_assoc] at this
    exact this
end
end Go.Proofs.Ytoljlpddcpdoiaa
