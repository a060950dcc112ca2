/- An argument that is a case, opened; lists of numbers; what the listed table gives. No condition. -/
import Derived.Test.YtaaaeeljjfblnaaDoorW6
import Derived.Test.YtaaaeeljjfblnaaDoorG6
import Derived.Lib.SmallJoins
import Derived.ProofKit
import Derived.OpenShut
import Derived.LaidMore
import Derived.Stop.Joined
import Derived.SliceStrings
namespace Go.Proofs.YtaaaeeljjfblnaaDoor
open Go.ChangeShapes Go.WideShapes Go.ChangeAt Go.RowKit Go.Joins Go.Deep
set_option linter.unusedVariables false

abbrev laid1 {H : Type} : List (String × DataW H) := [("fedchat/trust.answers", Rows.laid_fedchat_trust_answers)]
theorem gAns : Tryd.prog.globalNamed "fedchat/trust.answers" = some 0 := by kernel_rfl
theorem tAns : (Tryd.prog.globals[0]?).map (·.type) = some 52 := by kernel_rfl
theorem door_met (os : Os) (args : Array Value) : laidMetH Tryd.prog laid1 ((World.doorLaid Tryd.prog 14 os).forCall (fun _ _ => 0) ⟨#[], args, []⟩).memory :=
  laidMetH_of_parts3 (fuel := 8) (laidMet_of_run' 8 (by kernel_rfl) (by kernel_rfl)) (by kernel_rfl) (by kernel_rfl)
theorem of_laid {W : World} (h : laidMetH Tryd.prog laid1 W) : An W := by
  rw [MakeChecks.laidMetH_plain _ _ _ (by kernel_rfl)] at h
  obtain ⟨ps, ⟨g1, t1, cs1, f1, p1, q1, hg1, ht1, hv1, hd1, _⟩, _, _⟩ := h
  obtain rfl := Option.some.inj (gAns.symm.trans hg1)
  obtain rfl := Option.some.inj (tAns.symm.trans ht1)
  obtain ⟨xs, m1, hx0, hx1, hlen, hn3, hel⟩ := DataW.trod_array Tryd.underlying52 hd1
  have c3 : Tryd.prog.cellsOf 31 = 1 := by kernel_rfl
  have hl2 : cs1.toList.length = 4 := hlen.trans (by kernel_rfl)
  have h0 := hel 0 (by decide)
  have h1 := hel 1 (by decide)
  have h2 := hel 2 (by decide)
  have h3 := hel 3 (by decide)
  rw [c3] at h0 h1 h2 h3
  obtain ⟨l⟩ := cs1
  match l, hl2, xs, hn3 with
  | [a, b, c, d], _, [x0, x1, x2, x3], _ =>
    obtain ⟨k0, e0, f0, _⟩ := DataW.trod_int Tryd.underlying31 (show DataW.trod _ Tryd.prog W 0 _ false m1 31 [a] = some x0 from h0)
    obtain ⟨k1, e1, f1, _⟩ := DataW.trod_int Tryd.underlying31 (show DataW.trod _ Tryd.prog W 0 _ false m1 31 [b] = some x1 from h1)
    obtain ⟨k2, e2, f2, _⟩ := DataW.trod_int Tryd.underlying31 (show DataW.trod _ Tryd.prog W 0 _ false m1 31 [c] = some x2 from h2)
    obtain ⟨k3, e3, f3, _⟩ := DataW.trod_int Tryd.underlying31 (show DataW.trod _ Tryd.prog W 0 _ false m1 31 [d] = some x3 from h3)
    simp only [List.cons.injEq, and_true] at e0 e1 e2 e3
    subst e0 e1 e2 e3
    rw [f0, f1, f2, f3] at hx1
    simp [Rows.laid_fedchat_trust_answers] at hx1
    obtain ⟨⟨rfl, rfl, rfl, rfl⟩, _⟩ := hx1
    have hc0 := World.var?_cell hg1 hv1 0
    have hc1 := World.var?_cell hg1 hv1 1
    have hc2 := World.var?_cell hg1 hv1 2
    have hc3 := World.var?_cell hg1 hv1 3
    exact ⟨World.block_lt_of_cell? W ⟨0, 0, none⟩ hc0, hc0, hc1, hc2, hc3⟩
theorem open_dvs_one (e : Dv) : ∀ u ∈ encD e, u.oneCell' = true := by
  intro u hu
  simp only [encD, List.mem_cons, List.not_mem_nil, or_false] at hu
  rcases hu with rfl | rfl | rfl <;> rfl
theorem cells43 : Tryd.prog.cellsOf 43 = 3 := by kernel_rfl
theorem ce3 : Tryd.prog.cellsOf 3 = 1 := by kernel_rfl
theorem ce4 : Tryd.prog.cellsOf 4 = 1 := by kernel_rfl
theorem ce9 : Tryd.prog.cellsOf 9 = 1 := by kernel_rfl
theorem ce22 : Tryd.prog.cellsOf 22 = 1 := by kernel_rfl
theorem ce24 : Tryd.prog.cellsOf 24 = 4 := by kernel_rfl
theorem ce25 : Tryd.prog.cellsOf 25 = 1 := by kernel_rfl
theorem ce26 : Tryd.prog.cellsOf 26 = 1 := by kernel_rfl
theorem ce28 : Tryd.prog.cellsOf 28 = 12 := by kernel_rfl
section
variable {H : Type} {en : TypeId × Value → H} {P : Program} {w : World} {base : Nat} {spare : Nat → Bool} {held : Bool}
theorem open_cells3 {t : TypeId} {f0 f1 f2 : Field} {c0 c1 c2 : Value} {fuel : Nat} {x : DataW H × List MemPlace} (hs : P.underlying t = some (.struct #[f0, f1, f2])) (hone : oneCellFields P #[f0, f1, f2] = true)
    (hf : DataW.trod en P w base spare held fuel t [c0, c1, c2] = some x) :
    ∃ (y0 y1 y2 : DataW H × List MemPlace) (n : Nat), DataW.trod en P w base spare held n f0.type [c0] = some y0 ∧ DataW.trod en P w base spare held n f1.type [c1] = some y1 ∧ DataW.trod en P w base spare held n f2.type [c2] = some y2 := by
  obtain ⟨xs, n, _, _, hl, hlen, hf⟩ := DataW.trod_struct hs hf
  match xs, hlen, hf with
  | [y0, y1, y2], _, hf =>
    have h0 := hf 0 f0 rfl
    have h1 := hf 1 f1 rfl
    have h2 := hf 2 f2 rfl
    obtain ⟨o0, k0⟩ := hone_of hone 0 f0 rfl
    obtain ⟨o1, k1⟩ := hone_of hone 1 f1 rfl
    obtain ⟨o2, k2⟩ := hone_of hone 2 f2 rfl
    exact ⟨y0, y1, y2, n, by simpa [Value.cells, o0, k0] using h0, by simpa [Value.cells, o1, k1] using h1, by simpa [Value.cells, o2, k2] using h2⟩
end
section
variable {H : Type} {en : TypeId × Value → H} {w : World} {base : Nat} {spare : Nat → Bool} {held : Bool}
theorem dv_open {fuel : Nat} {cs : List Value} {x : DataW H × List MemPlace} (hl : cs.length = 3) (h : DataW.trod en Tryd.prog w base spare held fuel 43 cs = some x) : ∃ p : Dv, encD p = cs ∧ p.id.size ≤ 9223372036854775807 := by
  match cs, hl, h with
  | [c0, c1, c2], _, h =>
    obtain ⟨y0, y1, y2, m, h0, h1, h2⟩ := open_cells3 Tryd.underlying43 (by kernel_rfl) h
    obtain ⟨s0, e0, _, w0⟩ := DataW.trod_string Tryd.underlying9 h0
    obtain ⟨z1, e1, _, _⟩ := DataW.trod_int Tryd.underlying3 h1
    obtain ⟨b2, e2, _⟩ := DataW.trod_bool Tryd.underlying4 h2
    simp only [List.cons.injEq, and_true] at e0 e1 e2
    subst e0 e1 e2
    exact ⟨⟨s0, z1, b2⟩, rfl, w0⟩
theorem open_dvs {fuel : Nat} {A : Option Addr} {len cap : Nat} {x : DataW H × List MemPlace} (h : DataW.trod en Tryd.prog w base spare held fuel 22 [.slice A len cap] = some x) : ∃ F : Nat → Dv, Dvs w A len cap F := by
  rcases Go.Deep.open_slice Tryd.underlying22 h with ⟨hcs, _⟩ | ⟨a, l, c, m, n, D, Pl, hcs, hb, hl, hm, hmm, hx, hi⟩
  · simp at hcs
    obtain ⟨rfl, rfl, rfl⟩ := hcs
    exact ⟨fun _ => ⟨⟨#[]⟩, 0, false⟩, Rws.zero _ _ _ _ _ (fun _ => rfl), fun j hj => absurd hj (Nat.not_lt_zero _)⟩
  · simp at hcs
    obtain ⟨rfl, rfl, rfl⟩ := hcs
    have hlm : len ≤ m := by rw [hmm]; split <;> omega
    have each : ∀ i, i < len → ∃ e : Dv, (∀ k v, (encD e)[k]? = some v → w.cell? (a.add (i * 3 + k)) = some v) ∧ e.id.size ≤ 9223372036854775807 := by
      intro i hil
      obtain ⟨cs', h1, h2⟩ := hi i (by omega)
      rw [cells43] at h1
      obtain ⟨_, hlen, hcell⟩ := World.cells?_some h1
      obtain ⟨e, he, hf⟩ := dv_open hlen h2
      refine ⟨e, fun k v hv => ?_, hf⟩
      have hv' : cs'[k]? = some v := by rw [← he]; exact hv
      have hk : k < 3 := by rw [← hlen]; exact (List.getElem?_eq_some_iff.1 hv').1
      rw [← Go.Deep.add_add, hcell k hk]
      exact hv'
    obtain ⟨F, hF⟩ := choose_below (⟨⟨#[]⟩, 0, false⟩ : Dv) each
    exact ⟨F, rws_of (by omega) (by decide) (fun j hj => rfl) (fun j hj => open_dvs_one _) (fun j hj i v hv => (hF j hj).1 i v hv), fun j hj => (hF j hj).2⟩
theorem open_texts {fuel : Nat} {v : Value} {y : DataW H × List MemPlace} (h : DataW.trod en Tryd.prog w base spare held fuel 26 [v] = some y) : ∃ A l c zs, v = .slice A l c ∧ T.Rcs w A l c zs := by
  rcases open_strings Tryd.underlying26 Tryd.underlying9 (by kernel_rfl) h with ⟨hcs, _⟩ | ⟨a, l, c, zs, hcs, _, hlc, hm, hz, _, hcell, hwz⟩
  · exact ⟨none, 0, 0, [], by simpa using hcs, T.Rcs.nil w⟩
  · have hlz : l ≤ zs.length := by rw [hz]; split <;> omega
    refine ⟨some a, l, c, (zs.take l).map T.Rc.mk, by simpa using hcs, ?_, by rw [List.length_map, List.length_take]; omega, hlc, fun p hp => ?_⟩
    · refine rws_of (by omega) (by omega) (fun j hj => rfl) (fun j hj => T.enc_one _) (fun j hj i v hv => ?_)
      have hi : i = 0 := by
        have := (List.getElem?_eq_some_iff.1 hv).1
        have h1 : (T.rowR ((zs.take l).map T.Rc.mk) j).length = 1 := rfl
        omega
      subst hi
      have hv' : v = .string (((zs.take l).map T.Rc.mk).getD j T.t0).s := (Option.some.inj (show some (Value.string (((zs.take l).map T.Rc.mk).getD j T.t0).s) = some v from hv)).symm
      rw [hv', Nat.mul_one, Nat.add_zero, hcell j (by omega)]
      congr 2
      rw [List.getD_eq_getElem?_getD, List.getD_eq_getElem?_getD, List.getElem?_map, List.getElem?_take, if_pos hj, List.getElem?_eq_getElem (by omega)]
      rfl
    · obtain ⟨s, hs, rfl⟩ := List.mem_map.1 hp
      have := hwz s (List.mem_of_mem_take hs)
      unfold maxLen at this
      exact this
/-- A slice of numbers that came in. -/
theorem open_nums {t e : TypeId} {fuel : Nat} {v : Value} {y : DataW H × List MemPlace} (ht : Tryd.prog.underlying t = some (.slice e)) (he : Tryd.prog.underlying e = some (.int .i64)) (hc1 : Tryd.prog.cellsOf e = 1) (h : DataW.trod en Tryd.prog w base spare held fuel t [v] = some y) : ∃ A l c zs, v = .slice A l c ∧ l ≤ 9223372036854775807 ∧ (l ≤ 1000 → Q.Ints w A l c zs) := by
  rcases open_ints ht he hc1 h with ⟨hcs, _⟩ | ⟨a, l, c, zs, hcs, _, hlc, hm, hz, _, hcell, hwz⟩
  · exact ⟨none, 0, 0, [], by simpa using hcs, by omega, fun _ => ⟨rfl, Nat.le_refl _, by omega, fun _ => ⟨rfl, rfl⟩, .inl rfl⟩⟩
  · unfold maxLen at hm
    have hlz : l ≤ zs.length := by rw [hz]; split <;> omega
    refine ⟨some a, l, c, zs.take l, by simpa using hcs, by omega, fun hn => ⟨by rw [List.length_take]; omega, hlc, by omega, (fun e => by cases e), ?_⟩⟩
    rcases Nat.eq_zero_or_pos l with h0 | h0
    · exact .inl h0
    · obtain ⟨b, off, sp⟩ := a
      have hf := hcell 0 (by omega)
      have hsp : sp = none := by simpa [Addr.add] using World.cell?_spot hf
      subst hsp
      refine .inr ⟨b, off, rfl, World.block_lt_of_cell? w _ hf, fun i hi => ?_⟩
      have := hcell i (by omega)
      rw [Addr.add_lit] at this
      rw [this]
      congr 2
      rw [List.getD_eq_getElem?_getD, List.getD_eq_getElem?_getD, List.getElem?_take, if_pos hi]
theorem ks_open {fuel : Nat} {cs : List Value} {y : DataW H × List MemPlace} (hl : cs.length = 4) (h : DataW.trod en Tryd.prog w base spare held fuel 24 cs = some y) :
    ∃ k : Ks, cellsK k = cs ∧ IsK w k ∧ k.us.size ≤ 9223372036854775807 := by
  obtain ⟨xs, n, _, _, _, hxl, hf⟩ := DataW.trod_struct Tryd.underlying24 h
  match cs, hl with
  | [c0, c1, c2, c3], _ =>
    have l4 : xs.length = 4 := hxl
    have g0 : DataW.trod en Tryd.prog w base spare held n 9 (List.take (Tryd.prog.cellsOf 9) (List.drop 0 [c0, c1, c2, c3])) = xs[0]? := hf 0 _ rfl
    rw [List.getElem?_eq_getElem (by omega), ce9] at g0
    have g1 : DataW.trod en Tryd.prog w base spare held n 3 (List.take (Tryd.prog.cellsOf 3) (List.drop 1 [c0, c1, c2, c3])) = xs[1]? := hf 1 _ rfl
    rw [List.getElem?_eq_getElem (by omega), ce3] at g1
    have g2 : DataW.trod en Tryd.prog w base spare held n 3 (List.take (Tryd.prog.cellsOf 3) (List.drop 2 [c0, c1, c2, c3])) = xs[2]? := hf 2 _ rfl
    rw [List.getElem?_eq_getElem (by omega), ce3] at g2
    have g3 : DataW.trod en Tryd.prog w base spare held n 22 (List.take (Tryd.prog.cellsOf 22) (List.drop 3 [c0, c1, c2, c3])) = xs[3]? := hf 3 _ rfl
    rw [List.getElem?_eq_getElem (by omega), ce22] at g3
    obtain ⟨us, e0, _, w0⟩ := DataW.trod_string Tryd.underlying9 g0
    obtain ⟨ms, e1, _⟩ := DataW.trod_int Tryd.underlying3 g1
    obtain ⟨ps, e2, _⟩ := DataW.trod_int Tryd.underlying3 g2
    have hs : ∃ A l c, c3 = .slice A l c := by
      rcases Go.Deep.open_slice Tryd.underlying22 g3 with ⟨hcs, _⟩ | ⟨a, l, c, m, n, D, Pl, hcs, _⟩
      · exact ⟨none, 0, 0, by simpa using hcs⟩
      · exact ⟨some a, l, c, by simpa using hcs⟩
    obtain ⟨A, l, c, rfl⟩ := hs
    obtain ⟨D, hD⟩ := open_dvs (cap := c) (by simpa using g3)
    have f0 : c0 = .string us := by simpa using e0
    have f1 : c1 = .int .i64 ms := by simpa using e1
    have f2 : c2 = .int .i64 ps := by simpa using e2
    subst f0 f1 f2
    exact ⟨⟨us, ms, ps, A, l, c, D⟩, rfl, hD, w0⟩
theorem case_open {fuel : Nat} {cs : List Value} {y : DataW H × List MemPlace} (hl : cs.length = 12) (h : DataW.trod en Tryd.prog w base spare held fuel 28 cs = some y) :
    ∃ c : Cs, cellsC c = cs ∧ RawC w c := by
  obtain ⟨xs, n, _, _, _, hxl, hf⟩ := DataW.trod_struct Tryd.underlying28 h
  match cs, hl with
  | [c0, c1, c2, c3, c4, c5, c6, c7, c8, c9, c10, c11], _ =>
    have l6 : xs.length = 6 := hxl
    have g0 : DataW.trod en Tryd.prog w base spare held n 24 (List.take (Tryd.prog.cellsOf 24) (List.drop 0 [c0, c1, c2, c3, c4, c5, c6, c7, c8, c9, c10, c11])) = xs[0]? := hf 0 _ rfl
    rw [List.getElem?_eq_getElem (by omega), ce24] at g0
    have g1 : DataW.trod en Tryd.prog w base spare held n 24 (List.take (Tryd.prog.cellsOf 24) (List.drop 4 [c0, c1, c2, c3, c4, c5, c6, c7, c8, c9, c10, c11])) = xs[1]? := hf 1 _ rfl
    rw [List.getElem?_eq_getElem (by omega), ce24] at g1
    have g2 : DataW.trod en Tryd.prog w base spare held n 9 (List.take (Tryd.prog.cellsOf 9) (List.drop 8 [c0, c1, c2, c3, c4, c5, c6, c7, c8, c9, c10, c11])) = xs[2]? := hf 2 _ rfl
    rw [List.getElem?_eq_getElem (by omega), ce9] at g2
    have g3 : DataW.trod en Tryd.prog w base spare held n 25 (List.take (Tryd.prog.cellsOf 25) (List.drop 9 [c0, c1, c2, c3, c4, c5, c6, c7, c8, c9, c10, c11])) = xs[3]? := hf 3 _ rfl
    rw [List.getElem?_eq_getElem (by omega), ce25] at g3
    have g4 : DataW.trod en Tryd.prog w base spare held n 26 (List.take (Tryd.prog.cellsOf 26) (List.drop 10 [c0, c1, c2, c3, c4, c5, c6, c7, c8, c9, c10, c11])) = xs[4]? := hf 4 _ rfl
    rw [List.getElem?_eq_getElem (by omega), ce26] at g4
    have g5 : DataW.trod en Tryd.prog w base spare held n 4 (List.take (Tryd.prog.cellsOf 4) (List.drop 11 [c0, c1, c2, c3, c4, c5, c6, c7, c8, c9, c10, c11])) = xs[5]? := hf 5 _ rfl
    rw [List.getElem?_eq_getElem (by omega), ce4] at g5
    obtain ⟨o, e0, ho, hou⟩ := ks_open rfl g0
    obtain ⟨t, e1, ht, htu⟩ := ks_open rfl g1
    obtain ⟨dev, e2, _, hd⟩ := DataW.trod_string Tryd.underlying9 g2
    obtain ⟨vA, vn, vc, ver, e3, hv, hi⟩ := open_nums Tryd.underlying25 Tryd.underlying3 ce3 (by simpa using g3)
    obtain ⟨bA, bn, bc, blk, e4, hb⟩ := open_texts (by simpa using g4)
    obtain ⟨s, e5, _⟩ := DataW.trod_bool Tryd.underlying4 g5
    have f2 : c8 = .string dev := by simpa using e2
    have f5 : c11 = .bool s := by simpa using e5
    have e0' : cellsK o = [c0, c1, c2, c3] := e0
    have e1' : cellsK t = [c4, c5, c6, c7] := e1
    simp only [cellsK, List.cons.injEq, and_true] at e0' e1'
    obtain ⟨rfl, rfl, rfl, rfl⟩ := e0'
    obtain ⟨rfl, rfl, rfl, rfl⟩ := e1'
    subst f2 e3 e4 f5
    exact ⟨⟨o, t, dev, vA, vn, vc, ver, bA, bn, bc, blk, s⟩, rfl, ⟨ho, ht, hv, hi, hb, hou, htu, hd⟩⟩
end
end Go.Proofs.YtaaaeeljjfblnaaDoor
