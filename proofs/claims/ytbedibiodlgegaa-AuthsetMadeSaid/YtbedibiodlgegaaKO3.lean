/- An argument that is a list of events, opened whole. No condition. -/
import Derived.Test.YtbedibiodlgegaaKO2
import Derived.Test.YtbedibiodlgegaaKL20
namespace Go.Proofs.Ytbedibiodlgegaa
open Go.RowKit Go.ChangeShapes Go.WideShapes
set_option linter.unusedVariables false
set_option maxRecDepth 100000

section
variable {H : Type} {en : TypeId × Value → H} {w : World} {base : Nat} {spare : Nat → Bool} {held : Bool}
theorem ce35 : Try.prog.cellsOf 23 = 1 := by kernel_rfl
theorem ce37 : Try.prog.cellsOf 32 = 2 := by kernel_rfl
theorem ct_open2 {fuel : Nat} {cs : List Value} {y : DataW H × List MemPlace} (hl : cs.length = 16) (h : DataW.trod en Try.prog w base spare held fuel 30 cs = some y) :
    ∃ (C : Ct) (a : Ads), cells C a = cs ∧ IsCt w C a ∧ C.tx.size ≤ maxLen ∧ C.via.size ≤ maxLen ∧ (∀ j, j < C.lv.nU → (C.lv.U j).1.size ≤ maxLen) ∧ (-9223372036854775808 ≤ C.n ∧ C.n ≤ 9223372036854775807) ∧ (-9223372036854775808 ≤ C.tg ∧ C.tg ≤ 9223372036854775807) := by
  obtain ⟨xs, n, _, _, _, hxl, hf⟩ := DataW.trod_struct Try.underlying30 h
  match cs, hl with
  | [c0, c1, c2, c3, c4, c5, c6, c7, c8, c9, c10, c11, c12, c13, c14, c15], _ =>
    have l8 : xs.length = 8 := hxl
    have g0 : DataW.trod en Try.prog w base spare held n 9 (List.take (Try.prog.cellsOf 9) (List.drop 0 [c0, c1, c2, c3, c4, c5, c6, c7, c8, c9, c10, c11, c12, c13, c14, c15])) = xs[0]? := hf 0 _ rfl
    rw [List.getElem?_eq_getElem (by omega), ce9] at g0
    have g1 : DataW.trod en Try.prog w base spare held n 3 (List.take (Try.prog.cellsOf 3) (List.drop 1 [c0, c1, c2, c3, c4, c5, c6, c7, c8, c9, c10, c11, c12, c13, c14, c15])) = xs[1]? := hf 1 _ rfl
    rw [List.getElem?_eq_getElem (by omega), ce3] at g1
    have g2 : DataW.trod en Try.prog w base spare held n 3 (List.take (Try.prog.cellsOf 3) (List.drop 2 [c0, c1, c2, c3, c4, c5, c6, c7, c8, c9, c10, c11, c12, c13, c14, c15])) = xs[2]? := hf 2 _ rfl
    rw [List.getElem?_eq_getElem (by omega), ce3] at g2
    have g3 : DataW.trod en Try.prog w base spare held n 4 (List.take (Try.prog.cellsOf 4) (List.drop 3 [c0, c1, c2, c3, c4, c5, c6, c7, c8, c9, c10, c11, c12, c13, c14, c15])) = xs[3]? := hf 3 _ rfl
    rw [List.getElem?_eq_getElem (by omega), ce4] at g3
    have g4 : DataW.trod en Try.prog w base spare held n 9 (List.take (Try.prog.cellsOf 9) (List.drop 4 [c0, c1, c2, c3, c4, c5, c6, c7, c8, c9, c10, c11, c12, c13, c14, c15])) = xs[4]? := hf 4 _ rfl
    rw [List.getElem?_eq_getElem (by omega), ce9] at g4
    have g5 : DataW.trod en Try.prog w base spare held n 24 (List.take (Try.prog.cellsOf 24) (List.drop 5 [c0, c1, c2, c3, c4, c5, c6, c7, c8, c9, c10, c11, c12, c13, c14, c15])) = xs[5]? := hf 5 _ rfl
    rw [List.getElem?_eq_getElem (by omega), ce24] at g5
    have g6 : DataW.trod en Try.prog w base spare held n 24 (List.take (Try.prog.cellsOf 24) (List.drop 6 [c0, c1, c2, c3, c4, c5, c6, c7, c8, c9, c10, c11, c12, c13, c14, c15])) = xs[6]? := hf 6 _ rfl
    rw [List.getElem?_eq_getElem (by omega), ce24] at g6
    have g7 : DataW.trod en Try.prog w base spare held n 28 (List.take (Try.prog.cellsOf 28) (List.drop 7 [c0, c1, c2, c3, c4, c5, c6, c7, c8, c9, c10, c11, c12, c13, c14, c15])) = xs[7]? := hf 7 _ rfl
    rw [List.getElem?_eq_getElem (by omega), ce28] at g7
    obtain ⟨tx, e0, _, htx⟩ := DataW.trod_string Try.underlying9 g0
    obtain ⟨n1, e1, _, w1⟩ := DataW.trod_int Try.underlying3 g1
    obtain ⟨tg, e2, _, w2⟩ := DataW.trod_int Try.underlying3 g2
    obtain ⟨th, e3, _⟩ := DataW.trod_bool Try.underlying4 g3
    obtain ⟨via, e4, _, hvia⟩ := DataW.trod_string Try.underlying9 g4
    obtain ⟨aA, nA, aC, al, e5, h5⟩ := txs_open g5
    obtain ⟨dA, nD, dC, dn, e6, h6⟩ := txs_open g6
    obtain ⟨lv, ⟨uA, uC, kA, kC, e7, hU, hK⟩, hus⟩ := lv_open rfl g7
    have f0 : c0 = .string tx := by simpa using e0
    have f1 : c1 = .int .i64 n1 := by simpa using e1
    have f2 : c2 = .int .i64 tg := by simpa using e2
    have f3 : c3 = .bool th := by simpa using e3
    have f4 : c4 = .string via := by simpa using e4
    have e7' : [c7, c8, c9, c10, c11, c12, c13, c14, c15] = lvc uA lv.nU uC kA lv.nK kC lv.d lv.x3 lv.x4 lv.x5 lv.x6 lv.x7 lv.x8 := e7
    simp only [List.cons.injEq, and_true] at e7'
    obtain ⟨f7, f8, f9, f10, f11, f12, f13, f14, f15⟩ := e7'
    subst f0 f1 f2 f3 f4 e5 e6 f7 f8 f9 f10 f11 f12 f13 f14 f15
    exact ⟨⟨tx, n1, tg, th, via, nA, al, nD, dn, lv⟩, ⟨aA, aC, dA, dC, uA, uC, kA, kC⟩, rfl, ⟨h5, h6, hU, hK⟩, htx, hvia, hus, Go.bounds_i64 w1, Go.bounds_i64 w2⟩
theorem ints_open {fuel : Nat} {v : Value} {y : DataW H × List MemPlace} (h : DataW.trod en Try.prog w base spare held fuel 23 [v] = some y) : ∃ A l c, v = .slice A l c ∧ l ≤ 9223372036854775807 ∧ ∃ zs, Its w A l c zs := by
  rcases open_ints Try.underlying23 Try.underlying3 ce3 h with ⟨hcs, _⟩ | ⟨a, l, c, zs, hcs, _, hl, hm, hz, _, hcell, hwz⟩
  · exact ⟨none, 0, 0, by simpa using hcs, by omega, [], Its.nil w⟩
  · have hlz : l ≤ zs.length := by rw [hz]; split <;> omega
    have hm' := hm
    unfold maxLen at hm'
    refine ⟨some a, l, c, by simpa using hcs, by omega, zs.take l, ?_, by rw [List.length_take]; omega, hl, fun z hz => Go.bounds_i64 (hwz z (List.mem_of_mem_take hz))⟩
    refine rws_of (by omega) (by omega) (fun j hj => rfl) (fun j hj u hu => ?_) (fun j hj i v hv => ?_)
    · simp [rowI] at hu; subst hu; rfl
    · have hi : i = 0 := by
        have := (List.getElem?_eq_some_iff.1 hv).1
        simpa [rowI] using this
      subst hi
      have hv' : v = .int .i64 ((zs.take l).getD j 0) := by simpa [rowI] using hv.symm
      rw [hv', Nat.mul_one, Nat.add_zero, hcell j (by omega)]
      simp [List.getD_eq_getElem?_getD, hj]
theorem evx_open {fuel : Nat} {cs : List Value} {y : DataW H × List MemPlace} (hl : cs.length = 29) (h : DataW.trod en Try.prog w base spare held fuel 34 cs = some y) :
    ∃ e : Evd, cellsE e = cs ∧ IsCt w e.C e.a ∧ Wfe e ∧ Its w e.a8 e.n8 e.c8 e.p8 ∧ Its w e.a9 e.n9 e.c9 e.p9 := by
  obtain ⟨xs, n, _, _, _, hxl, hf⟩ := DataW.trod_struct Try.underlying34 h
  match cs, hl with
  | [v0, v1, v2, v3, v4, v5, v6, v7, v8, v9, v10, v11, v12, v13, v14, v15, v16, v17, v18, v19, v20, v21, v22, v23, v24, v25, v26, v27, v28], _ =>
    have l13 : xs.length = 13 := hxl
    have g0 : DataW.trod en Try.prog w base spare held n 3 (List.take (Try.prog.cellsOf 3) (List.drop 0 [v0, v1, v2, v3, v4, v5, v6, v7, v8, v9, v10, v11, v12, v13, v14, v15, v16, v17, v18, v19, v20, v21, v22, v23, v24, v25, v26, v27, v28])) = xs[0]? := hf 0 _ rfl
    rw [List.getElem?_eq_getElem (by omega), ce3] at g0
    have g1 : DataW.trod en Try.prog w base spare held n 9 (List.take (Try.prog.cellsOf 9) (List.drop 1 [v0, v1, v2, v3, v4, v5, v6, v7, v8, v9, v10, v11, v12, v13, v14, v15, v16, v17, v18, v19, v20, v21, v22, v23, v24, v25, v26, v27, v28])) = xs[1]? := hf 1 _ rfl
    rw [List.getElem?_eq_getElem (by omega), ce9] at g1
    have g2 : DataW.trod en Try.prog w base spare held n 9 (List.take (Try.prog.cellsOf 9) (List.drop 2 [v0, v1, v2, v3, v4, v5, v6, v7, v8, v9, v10, v11, v12, v13, v14, v15, v16, v17, v18, v19, v20, v21, v22, v23, v24, v25, v26, v27, v28])) = xs[2]? := hf 2 _ rfl
    rw [List.getElem?_eq_getElem (by omega), ce9] at g2
    have g3 : DataW.trod en Try.prog w base spare held n 22 (List.take (Try.prog.cellsOf 22) (List.drop 3 [v0, v1, v2, v3, v4, v5, v6, v7, v8, v9, v10, v11, v12, v13, v14, v15, v16, v17, v18, v19, v20, v21, v22, v23, v24, v25, v26, v27, v28])) = xs[3]? := hf 3 _ rfl
    rw [List.getElem?_eq_getElem (by omega), ce31] at g3
    have g4 : DataW.trod en Try.prog w base spare held n 4 (List.take (Try.prog.cellsOf 4) (List.drop 4 [v0, v1, v2, v3, v4, v5, v6, v7, v8, v9, v10, v11, v12, v13, v14, v15, v16, v17, v18, v19, v20, v21, v22, v23, v24, v25, v26, v27, v28])) = xs[4]? := hf 4 _ rfl
    rw [List.getElem?_eq_getElem (by omega), ce4] at g4
    have g5 : DataW.trod en Try.prog w base spare held n 9 (List.take (Try.prog.cellsOf 9) (List.drop 5 [v0, v1, v2, v3, v4, v5, v6, v7, v8, v9, v10, v11, v12, v13, v14, v15, v16, v17, v18, v19, v20, v21, v22, v23, v24, v25, v26, v27, v28])) = xs[5]? := hf 5 _ rfl
    rw [List.getElem?_eq_getElem (by omega), ce9] at g5
    have g6 : DataW.trod en Try.prog w base spare held n 3 (List.take (Try.prog.cellsOf 3) (List.drop 6 [v0, v1, v2, v3, v4, v5, v6, v7, v8, v9, v10, v11, v12, v13, v14, v15, v16, v17, v18, v19, v20, v21, v22, v23, v24, v25, v26, v27, v28])) = xs[6]? := hf 6 _ rfl
    rw [List.getElem?_eq_getElem (by omega), ce3] at g6
    have g7 : DataW.trod en Try.prog w base spare held n 3 (List.take (Try.prog.cellsOf 3) (List.drop 7 [v0, v1, v2, v3, v4, v5, v6, v7, v8, v9, v10, v11, v12, v13, v14, v15, v16, v17, v18, v19, v20, v21, v22, v23, v24, v25, v26, v27, v28])) = xs[7]? := hf 7 _ rfl
    rw [List.getElem?_eq_getElem (by omega), ce3] at g7
    have g8 : DataW.trod en Try.prog w base spare held n 23 (List.take (Try.prog.cellsOf 23) (List.drop 8 [v0, v1, v2, v3, v4, v5, v6, v7, v8, v9, v10, v11, v12, v13, v14, v15, v16, v17, v18, v19, v20, v21, v22, v23, v24, v25, v26, v27, v28])) = xs[8]? := hf 8 _ rfl
    rw [List.getElem?_eq_getElem (by omega), ce35] at g8
    have g9 : DataW.trod en Try.prog w base spare held n 23 (List.take (Try.prog.cellsOf 23) (List.drop 9 [v0, v1, v2, v3, v4, v5, v6, v7, v8, v9, v10, v11, v12, v13, v14, v15, v16, v17, v18, v19, v20, v21, v22, v23, v24, v25, v26, v27, v28])) = xs[9]? := hf 9 _ rfl
    rw [List.getElem?_eq_getElem (by omega), ce35] at g9
    have g10 : DataW.trod en Try.prog w base spare held n 30 (List.take (Try.prog.cellsOf 30) (List.drop 10 [v0, v1, v2, v3, v4, v5, v6, v7, v8, v9, v10, v11, v12, v13, v14, v15, v16, v17, v18, v19, v20, v21, v22, v23, v24, v25, v26, v27, v28])) = xs[10]? := hf 10 _ rfl
    rw [List.getElem?_eq_getElem (by omega), ce30] at g10
    have g11 : DataW.trod en Try.prog w base spare held n 3 (List.take (Try.prog.cellsOf 3) (List.drop 26 [v0, v1, v2, v3, v4, v5, v6, v7, v8, v9, v10, v11, v12, v13, v14, v15, v16, v17, v18, v19, v20, v21, v22, v23, v24, v25, v26, v27, v28])) = xs[11]? := hf 11 _ rfl
    rw [List.getElem?_eq_getElem (by omega), ce3] at g11
    have g12 : DataW.trod en Try.prog w base spare held n 32 (List.take (Try.prog.cellsOf 32) (List.drop 27 [v0, v1, v2, v3, v4, v5, v6, v7, v8, v9, v10, v11, v12, v13, v14, v15, v16, v17, v18, v19, v20, v21, v22, v23, v24, v25, v26, v27, v28])) = xs[12]? := hf 12 _ rfl
    rw [List.getElem?_eq_getElem (by omega), ce37] at g12
    obtain ⟨e0, q0, _, w0⟩ := DataW.trod_int Try.underlying3 g0
    obtain ⟨e1, q1, _, h1⟩ := DataW.trod_string Try.underlying9 g1
    obtain ⟨e2, q2, _, h2⟩ := DataW.trod_string Try.underlying9 g2
    obtain ⟨e3, q3, _, w3⟩ := DataW.trod_int Try.underlying22 g3
    obtain ⟨e4, q4, _⟩ := DataW.trod_bool Try.underlying4 g4
    obtain ⟨e5, q5, _, h5⟩ := DataW.trod_string Try.underlying9 g5
    obtain ⟨e6, q6, _, w6⟩ := DataW.trod_int Try.underlying3 g6
    obtain ⟨e7, q7, _, w7⟩ := DataW.trod_int Try.underlying3 g7
    obtain ⟨a8, n8, c8, q8, h8, p8, i8⟩ := ints_open g8
    obtain ⟨a9, n9, c9, q9, h9, p9, i9⟩ := ints_open g9
    obtain ⟨C, a, q10, hC, htx, hvia, hus, wN, wT⟩ := ct_open2 rfl g10
    obtain ⟨e26, q26, _, w26⟩ := DataW.trod_int Try.underlying3 g11
    obtain ⟨ys, m, _, _, _, hyl, hg⟩ := DataW.trod_struct Try.underlying32 g12
    have l2 : ys.length = 2 := hyl
    have s0 : DataW.trod en Try.prog w base spare held m 9 (List.take (Try.prog.cellsOf 9) (List.drop 0 [v27, v28])) = ys[0]? := hg 0 _ rfl
    rw [List.getElem?_eq_getElem (by omega), ce9] at s0
    have s1 : DataW.trod en Try.prog w base spare held m 3 (List.take (Try.prog.cellsOf 3) (List.drop 1 [v27, v28])) = ys[1]? := hg 1 _ rfl
    rw [List.getElem?_eq_getElem (by omega), ce3] at s1
    obtain ⟨e27, q27, _, h27⟩ := DataW.trod_string Try.underlying9 s0
    obtain ⟨e28, q28, _, w28⟩ := DataW.trod_int Try.underlying3 s1
    have f0 : v0 = .int .i64 e0 := by simpa using q0
    have f1 : v1 = .string e1 := by simpa using q1
    have f2 : v2 = .string e2 := by simpa using q2
    have f3 : v3 = .int .i64 e3 := by simpa using q3
    have f4 : v4 = .bool e4 := by simpa using q4
    have f5 : v5 = .string e5 := by simpa using q5
    have f6 : v6 = .int .i64 e6 := by simpa using q6
    have f7 : v7 = .int .i64 e7 := by simpa using q7
    have f26 : v26 = .int .i64 e26 := by simpa using q26
    have f27 : v27 = .string e27 := by simpa using q27
    have f28 : v28 = .int .i64 e28 := by simpa using q28
    have q10' : cells C a = [v10, v11, v12, v13, v14, v15, v16, v17, v18, v19, v20, v21, v22, v23, v24, v25] := q10
    simp only [List.cons.injEq, and_true] at q10'
    obtain ⟨p0, p1, p2, p3, p4, p5, p6, p7, p8, p9, p10, p11, p12, p13, p14, p15⟩ := q10'
    subst f0 f1 f2 f3 f4 f5 f6 f7 q8 q9 f26 f27 f28 p0 p1 p2 p3 p4 p5 p6 p7 p8 p9 p10 p11 p12 p13 p14 p15
    exact ⟨⟨e0, e1, e2, e3, e4, e5, e6, e7, a8, n8, c8, a9, n9, c9, C, a, e26, e27, e28, p8, p9⟩, rfl, hC, ⟨h8, h9, h1, h2, h5, h27, htx, hvia, hus, Go.bounds_i64 w0, Go.bounds_i64 w3, Go.bounds_i64 w6, Go.bounds_i64 w7, Go.bounds_i64 w26, Go.bounds_i64 w28, wN, wT⟩, i8, i9⟩
theorem open_evx {fuel : Nat} {A : Option Addr} {len cap : Nat} {x : DataW H × List MemPlace} (h : DataW.trod en Try.prog w base spare held fuel 44 [.slice A len cap] = some x) : ∃ E : Nat → Evd, Evx w A len E := by
  rcases Go.Deep.open_slice Try.underlying44 h with ⟨hcs, _⟩ | ⟨a, l, c, m, n, D, Pl, hcs, hb, hl, hm, hmm, hx, hi⟩
  · simp at hcs
    obtain ⟨rfl, rfl, rfl⟩ := hcs
    exact ⟨fun _ => ⟨0, ⟨#[]⟩, ⟨#[]⟩, 0, false, ⟨#[]⟩, 0, 0, none, 0, 0, none, 0, 0, ct0, ad0, 0, ⟨#[]⟩, 0, [], []⟩, by omega, fun h => by omega, fun j hj => by omega, fun j hj => by omega, fun j hj => by omega⟩
  · simp at hcs
    obtain ⟨rfl, rfl, rfl⟩ := hcs
    have hlm : len ≤ m := by rw [hmm]; split <;> omega
    have each : ∀ i, i < len → ∃ e : Evd, (∀ k v, (cellsE e)[k]? = some v → w.cell? (a.add (i * 29 + k)) = some v) ∧ IsCt w e.C e.a ∧ Wfe e ∧ Its w e.a8 e.n8 e.c8 e.p8 ∧ Its w e.a9 e.n9 e.c9 e.p9 := by
      intro i hil
      obtain ⟨cs', h1, h2⟩ := hi i (by omega)
      rw [ce36] at h1
      obtain ⟨_, hlen, hcell⟩ := World.cells?_some h1
      obtain ⟨e, he, hC, hW⟩ := evx_open hlen h2
      refine ⟨e, fun k v hv => ?_, hC, hW⟩
      have hv' : cs'[k]? = some v := by rw [← he]; exact hv
      have hk : k < 29 := by rw [← hlen]; exact (List.getElem?_eq_some_iff.1 hv').1
      rw [← Go.Deep.add_add, hcell k hk]
      exact hv'
    obtain ⟨F, hF⟩ := choose_below (⟨0, ⟨#[]⟩, ⟨#[]⟩, 0, false, ⟨#[]⟩, 0, 0, none, 0, 0, none, 0, 0, ct0, ad0, 0, ⟨#[]⟩, 0, [], []⟩ : Evd) each
    unfold maxLen at hm
    refine ⟨F, by omega, fun h0 => ?_, fun j hj => (hF j hj).2.1, fun j hj => (hF j hj).2.2.1, fun j hj => (hF j hj).2.2.2⟩
    obtain ⟨b, off, sp⟩ := a
    have h00 := (hF 0 h0).1 0 _ rfl
    have hsp : sp = none := by simpa [Addr.add] using World.cell?_spot h00
    subst hsp
    refine ⟨b, off, rfl, World.block_lt_of_cell? w _ h00, fun j hj i v hv => ?_⟩
    have := (hF j hj).1 i v hv
    rw [Addr.add_lit, ← Nat.add_assoc] at this
    exact this
end
end Go.Proofs.Ytbedibiodlgegaa
