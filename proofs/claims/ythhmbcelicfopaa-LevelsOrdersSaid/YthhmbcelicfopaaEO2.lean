/- An argument that is a list of events, opened down to its levels. -/
import Derived.Test.YthhmbcelicfopaaEO
import Derived.Test.YthhmbcelicfopaaG6
import Derived.Test.YthhmbcelicfopaaLV5
namespace Go.Proofs.Ythhmbcelicfopaa
open Go.RowKit Go.ChangeShapes Go.WideShapes
set_option linter.unusedVariables false

section
variable {H : Type} {en : TypeId × Value → H} {w : World} {base : Nat} {spare : Nat → Bool} {held : Bool}
def ev0 : Ev := ⟨.int .i64 0, .int .i64 0, ⟨#[]⟩, 0, .int .i64 0, ⟨#[]⟩, .int .i64 0, .int .i64 0, .int .i64 0, .int .i64 0, .int .i64 0, 0, .int .i64 0, .int .i64 0, .int .i64 0, none, 0, 0, .int .i64 0, .int .i64 0, .int .i64 0, .int .i64 0, .int .i64 0, .int .i64 0, .int .i64 0, .int .i64 0, .int .i64 0, .int .i64 0, .int .i64 0, .int .i64 0, .int .i64 0⟩
theorem ce25 : Try.prog.cellsOf 22 = 1 := by kernel_rfl
theorem ce26 : Try.prog.cellsOf 23 = 1 := by kernel_rfl
theorem ce28 : Try.prog.cellsOf 25 = 9 := by kernel_rfl
theorem ce55 : Try.prog.cellsOf 51 = 2 := by kernel_rfl
theorem ce61 : Try.prog.cellsOf 54 = 2 := by kernel_rfl
/-- The cells of levels that came in. -/
theorem lv_open {fuel : Nat} {cs : List Value} {y : DataW H × List MemPlace} (hl : cs.length = 9) (h : DataW.trod en Try.prog w base spare held fuel 25 cs = some y) :
    ∃ L : Lvl, IsLv w cs L ∧ ∀ j, j < L.nU → (L.U j).1.size ≤ maxLen := by
  obtain ⟨xs, n, _, _, _, hxl, hf⟩ := DataW.trod_struct Try.underlying25 h
  match cs, hl with
  | [c0, c1, c2, c3, c4, c5, c6, c7, c8], _ =>
    have l9 : xs.length = 9 := hxl
    have g0 : DataW.trod en Try.prog w base spare held n 22 (List.take (Try.prog.cellsOf 22) (List.drop 0 [c0, c1, c2, c3, c4, c5, c6, c7, c8])) = xs[0]? := hf 0 _ rfl
    have g1 : DataW.trod en Try.prog w base spare held n 23 (List.take (Try.prog.cellsOf 23) (List.drop 1 [c0, c1, c2, c3, c4, c5, c6, c7, c8])) = xs[1]? := hf 1 _ rfl
    have g2 : DataW.trod en Try.prog w base spare held n 3 (List.take (Try.prog.cellsOf 3) (List.drop 2 [c0, c1, c2, c3, c4, c5, c6, c7, c8])) = xs[2]? := hf 2 _ rfl
    have g3 : DataW.trod en Try.prog w base spare held n 3 (List.take (Try.prog.cellsOf 3) (List.drop 3 [c0, c1, c2, c3, c4, c5, c6, c7, c8])) = xs[3]? := hf 3 _ rfl
    have g4 : DataW.trod en Try.prog w base spare held n 3 (List.take (Try.prog.cellsOf 3) (List.drop 4 [c0, c1, c2, c3, c4, c5, c6, c7, c8])) = xs[4]? := hf 4 _ rfl
    have g5 : DataW.trod en Try.prog w base spare held n 3 (List.take (Try.prog.cellsOf 3) (List.drop 5 [c0, c1, c2, c3, c4, c5, c6, c7, c8])) = xs[5]? := hf 5 _ rfl
    have g6 : DataW.trod en Try.prog w base spare held n 3 (List.take (Try.prog.cellsOf 3) (List.drop 6 [c0, c1, c2, c3, c4, c5, c6, c7, c8])) = xs[6]? := hf 6 _ rfl
    have g7 : DataW.trod en Try.prog w base spare held n 3 (List.take (Try.prog.cellsOf 3) (List.drop 7 [c0, c1, c2, c3, c4, c5, c6, c7, c8])) = xs[7]? := hf 7 _ rfl
    have g8 : DataW.trod en Try.prog w base spare held n 3 (List.take (Try.prog.cellsOf 3) (List.drop 8 [c0, c1, c2, c3, c4, c5, c6, c7, c8])) = xs[8]? := hf 8 _ rfl
    rw [List.getElem?_eq_getElem (by omega)] at g0 g1 g2 g3 g4 g5 g6 g7 g8
    rw [ce25] at g0
    rw [ce26] at g1
    rw [ce3] at g2 g3 g4 g5 g6 g7 g8
    obtain ⟨d, e2, _⟩ := DataW.trod_int Try.underlying3 g2
    obtain ⟨x3, e3, _⟩ := DataW.trod_int Try.underlying3 g3
    obtain ⟨x4, e4, _⟩ := DataW.trod_int Try.underlying3 g4
    obtain ⟨x5, e5, _⟩ := DataW.trod_int Try.underlying3 g5
    obtain ⟨x6, e6, _⟩ := DataW.trod_int Try.underlying3 g6
    obtain ⟨x7, e7, _⟩ := DataW.trod_int Try.underlying3 g7
    obtain ⟨x8, e8, _⟩ := DataW.trod_int Try.underlying3 g8
    have f2 : c2 = .int .i64 d := by simpa using e2
    have f3 : c3 = .int .i64 x3 := by simpa using e3
    have f4 : c4 = .int .i64 x4 := by simpa using e4
    have f5 : c5 = .int .i64 x5 := by simpa using e5
    have f6 : c6 = .int .i64 x6 := by simpa using e6
    have f7 : c7 = .int .i64 x7 := by simpa using e7
    have f8 : c8 = .int .i64 x8 := by simpa using e8
    have hs0 : ∃ A l c, c0 = .slice A l c := by
      rcases Go.Deep.open_slice Try.underlying22 g0 with ⟨hcs, _⟩ | ⟨a, l, c, m, n, D, Pl, hcs, _⟩
      · exact ⟨none, 0, 0, by simpa using hcs⟩
      · exact ⟨some a, l, c, by simpa using hcs⟩
    have hs1 : ∃ A l c, c1 = .slice A l c := by
      rcases Go.Deep.open_slice Try.underlying23 g1 with ⟨hcs, _⟩ | ⟨a, l, c, m, n, D, Pl, hcs, _⟩
      · exact ⟨none, 0, 0, by simpa using hcs⟩
      · exact ⟨some a, l, c, by simpa using hcs⟩
    obtain ⟨uA, nU, uC, rfl⟩ := hs0
    obtain ⟨kA, nK, kC, rfl⟩ := hs1
    obtain ⟨U, hU, hUw⟩ := open_rows_si Try.underlying22 Try.underlying51 ce55 rfl rfl ce9 ce3 Try.underlying9 Try.underlying3 g0
    obtain ⟨K, hK, _⟩ := open_rows_ii Try.underlying23 Try.underlying54 ce61 rfl rfl ce31 ce3 Try.underlying26 Try.underlying3 g1
    subst f2 f3 f4 f5 f6 f7 f8
    exact ⟨⟨nU, U, nK, K, d, x3, x4, x5, x6, x7, x8⟩, ⟨uA, uC, kA, kC, rfl, hU, hK⟩, fun j hj => (hUw j hj).1⟩
theorem ev_levels {fuel : Nat} {e : Ev} {y : DataW H × List MemPlace} (h : DataW.trod en Try.prog w base spare held fuel 42 (enc e) = some y) : ∃ L : Lvl, IsLv w (lvCells e) L := by
  obtain ⟨xs, n, _, _, _, hxl, hf⟩ := DataW.trod_struct Try.underlying42 h
  obtain ⟨e0, e1, e2, e3, e4, e5, e6, e7, e8, e9, e10, e11, e12, e13, e14, e15, e16, e17, e18, e19, e20, e21, e22, e23, e24, e25, e26, e27, e28, e29, e30⟩ := e
  have g10 : DataW.trod en Try.prog w base spare held n 37 (List.take (Try.prog.cellsOf 37) (List.drop 10 (enc ⟨e0, e1, e2, e3, e4, e5, e6, e7, e8, e9, e10, e11, e12, e13, e14, e15, e16, e17, e18, e19, e20, e21, e22, e23, e24, e25, e26, e27, e28, e29, e30⟩))) = xs[10]? := hf 10 _ rfl
  have l13 : xs.length = 13 := hxl
  rw [List.getElem?_eq_getElem (by omega), ce30] at g10
  obtain ⟨ys, m, _, _, _, hyl, hg⟩ := DataW.trod_struct Try.underlying37 g10
  have l8 : ys.length = 8 := hyl
  have q7 : DataW.trod en Try.prog w base spare held m 25 (List.take (Try.prog.cellsOf 25) (List.drop 7 (List.take 16 (List.drop 10 (enc ⟨e0, e1, e2, e3, e4, e5, e6, e7, e8, e9, e10, e11, e12, e13, e14, e15, e16, e17, e18, e19, e20, e21, e22, e23, e24, e25, e26, e27, e28, e29, e30⟩))))) = ys[7]? := hg 7 _ rfl
  rw [List.getElem?_eq_getElem (by omega), ce28] at q7
  obtain ⟨L, hL, _⟩ := lv_open rfl q7
  exact ⟨L, hL⟩
/-- A LIST OF EVENTS, empty or not. -/
theorem open_events2 {fuel : Nat} {A : Option Addr} {len cap : Nat} {x : DataW H × List MemPlace} (h : DataW.trod en Try.prog w base spare held fuel 34 [.slice A len cap] = some x) :
    ∃ (E : Nat → Ev) (Z : Nat → List ByteArray) (LV : Nat → Lvl), EvsA w A len E ∧ (∀ j, j < len → TextsAt w (E j).aA (E j).lA (E j).cA (Z j)) ∧ Leveled w len E LV := by
  by_cases hn0 : 0 < len
  · obtain ⟨_, b, off, E, Z, rfl, hev, ht⟩ := open_events h hn0
    have each : ∀ j, j < len → ∃ L, IsLv w (lvCells (E j)) L := by
      intro j hj
      rcases Go.Deep.open_slice Try.underlying34 h with ⟨hcs, _⟩ | ⟨a, l, c, m, n, D, Pl, hcs, hb, hl, hm, hmm, hx, hi⟩
      · simp at hcs
      · simp at hcs
        obtain ⟨rfl, rfl, rfl⟩ := hcs
        have hlm : len ≤ m := by rw [hmm]; split <;> omega
        obtain ⟨cs', h1, h2⟩ := hi j (by omega)
        rw [ce36] at h1
        obtain ⟨_, hlen, hcell⟩ := World.cells?_some h1
        have he : cs' = enc (E j) := by
          refine List.ext_getElem? fun i => ?_
          by_cases hi29 : i < 29
          · have h3 := hcell i hi29
            rw [Go.Deep.add_add, Addr.add_lit, ← Nat.add_assoc] at h3
            have hg : (enc (E j))[i]? = some ((enc (E j))[i]'(by rw [enc_len]; exact hi29)) := List.getElem?_eq_getElem _
            have h4 := hev.cell j hj i _ hg
            rw [hg, ← h4, h3]
          · rw [List.getElem?_eq_none (by omega), List.getElem?_eq_none (by rw [enc_len]; omega)]
        rw [he] at h2
        exact ev_levels h2
    obtain ⟨LV, hLV⟩ := choose_below (p := fun j L => IsLv w (lvCells (E j)) L) (defLv ⟨#[]⟩) each
    exact ⟨E, Z, LV, .inr ⟨b, off, rfl, hev⟩, ht, hLV⟩
  · exact ⟨(fun _ => ev0), fun _ => [], fun _ => defLv ⟨#[]⟩, .inl (by omega), fun j hj => absurd hj (by omega), fun j hj => absurd hj (by omega)⟩
end
end Go.Proofs.Ythhmbcelicfopaa
