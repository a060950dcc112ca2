/- Arguments that are contents or power levels, opened. No condition. -/
import Derived.Test.YtablocpcgknmaaaGreatDoorRK20
import Derived.Test.YtablocpcgknmaaaGreatDoorRTg
import Derived.Test.YtablocpcgknmaaaGreatDoorRPj
import Derived.ChangeSlices
import Derived.Lib.SmallJoins
import Derived.Deep.Slices
import Derived.ProofKit
import Derived.OpenShut
import Derived.ChangeSame
import Derived.SliceStrings
import Derived.Lib.SliceRun
namespace Go.Proofs.YtablocpcgknmaaaGreatDoor
open Go.ChangeShapes Go.WideShapes Go.ChangeAt Go.RowKit Go.Joins Go.Deep
set_option linter.unusedVariables false
set_option maxRecDepth 100000

theorem ce22 : Tryz.prog.cellsOf 22 = 1 := by kernel_rfl
theorem ce9 : Tryz.prog.cellsOf 9 = 1 := by kernel_rfl
theorem ce3 : Tryz.prog.cellsOf 3 = 1 := by kernel_rfl
theorem ce4 : Tryz.prog.cellsOf 4 = 1 := by kernel_rfl
theorem ce24 : Tryz.prog.cellsOf 24 = 1 := by kernel_rfl
theorem ce25 : Tryz.prog.cellsOf 25 = 1 := by kernel_rfl
theorem ce26 : Tryz.prog.cellsOf 26 = 1 := by kernel_rfl
theorem ce28 : Tryz.prog.cellsOf 28 = 9 := by kernel_rfl
theorem ce30 : Tryz.prog.cellsOf 30 = 16 := by kernel_rfl
theorem ce73 : Tryz.prog.cellsOf 73 = 2 := by kernel_rfl
theorem ce131 : Tryz.prog.cellsOf 131 = 2 := by kernel_rfl
theorem rows_list {α : Type} {w : World} {A : Option Addr} {n c sz : Nat} {U : Nat → α} {f : α → List Value} (d : α) (h : Rws w A n c sz (fun j => f (U j))) : Rws w A ((List.range n).map U).length c sz (fun j => f (((List.range n).map U).getD j d)) := by
 have e : ((List.range n).map U).length = n := by simp
 have hg : ∀ j, j < n → ((List.range n).map U).getD j d = U j := fun j hj => by
  rw [List.getD_eq_getElem?_getD, List.getElem?_eq_getElem (by simpa using hj)]
  simp
 rw [e]
 refine ⟨fun j hj => by rw [hg j hj]; exact h.len j hj, fun j hj => by rw [hg j hj]; exact h.one j hj, h.big, h.nil, ?_⟩
 rcases h.at_ with h0 | ⟨b, off, ha, hlt, hc⟩
 ·exact .inl h0
 ·exact .inr ⟨b, off, ha, hlt, fun j hj i v hv => by rw [hg j hj] at hv; exact hc j hj i v hv⟩
section
variable {H : Type} {en : TypeId × Value → H} {w : World} {base : Nat} {spare : Nat → Bool} {held : Bool}
theorem slice_shape {t e : TypeId} {fuel : Nat} {c : Value} {x : DataW H × List MemPlace} (hu : Tryz.prog.underlying t = some (.slice e)) (h : DataW.trod en Tryz.prog w base spare held fuel t [c] = some x) : ∃ A n m, c = .slice A n m := by
 rcases Go.Deep.open_slice hu h with ⟨hcs, _⟩ | ⟨a, l, c', m, n, D, Pl, hcs, _⟩
 ·exact ⟨none, 0, 0, by simpa using hcs⟩
 ·exact ⟨_, _, _, by simpa using hcs⟩
theorem isl_open {fuel : Nat} {cs : List Value} {y : DataW H × List MemPlace} (hl : cs.length = 9) (h : DataW.trod en Tryz.prog w base spare held fuel 28 cs = some y) :
  ∃ (us : List (ByteArray × Int)) (ks : List (Int × Int)) (d x3 x4 x5 x6 x7 x8 : Int) (uA : Option Addr) (uC : Nat) (kA : Option Addr) (kC : Nat), [.slice uA us.length uC, .slice kA ks.length kC, .int .i64 d, .int .i64 x3, .int .i64 x4, .int .i64 x5, .int .i64 x6, .int .i64 x7, .int .i64 x8] = cs ∧ IsL w ⟨us, ks, d, x3, x4, x5, x6, x7, x8⟩ uA uC kA kC := by
 obtain ⟨xs, n, _, _, _, hxl, hf⟩ := DataW.trod_struct Tryz.underlying28 h
 match cs, hl with
 | [c0, c1, c2, c3, c4, c5, c6, c7, c8], _ =>
  have l9 : xs.length = 9 := hxl
  have g0 : DataW.trod en Tryz.prog w base spare held n 25 (List.take (Tryz.prog.cellsOf 25) (List.drop 0 [c0, c1, c2, c3, c4, c5, c6, c7, c8])) = xs[0]? := hf 0 _ rfl
  have g1 : DataW.trod en Tryz.prog w base spare held n 26 (List.take (Tryz.prog.cellsOf 26) (List.drop 1 [c0, c1, c2, c3, c4, c5, c6, c7, c8])) = xs[1]? := hf 1 _ rfl
  have g2 : DataW.trod en Tryz.prog w base spare held n 3 (List.take (Tryz.prog.cellsOf 3) (List.drop 2 [c0, c1, c2, c3, c4, c5, c6, c7, c8])) = xs[2]? := hf 2 _ rfl
  have g3 : DataW.trod en Tryz.prog w base spare held n 3 (List.take (Tryz.prog.cellsOf 3) (List.drop 3 [c0, c1, c2, c3, c4, c5, c6, c7, c8])) = xs[3]? := hf 3 _ rfl
  have g4 : DataW.trod en Tryz.prog w base spare held n 3 (List.take (Tryz.prog.cellsOf 3) (List.drop 4 [c0, c1, c2, c3, c4, c5, c6, c7, c8])) = xs[4]? := hf 4 _ rfl
  have g5 : DataW.trod en Tryz.prog w base spare held n 3 (List.take (Tryz.prog.cellsOf 3) (List.drop 5 [c0, c1, c2, c3, c4, c5, c6, c7, c8])) = xs[5]? := hf 5 _ rfl
  have g6 : DataW.trod en Tryz.prog w base spare held n 3 (List.take (Tryz.prog.cellsOf 3) (List.drop 6 [c0, c1, c2, c3, c4, c5, c6, c7, c8])) = xs[6]? := hf 6 _ rfl
  have g7 : DataW.trod en Tryz.prog w base spare held n 3 (List.take (Tryz.prog.cellsOf 3) (List.drop 7 [c0, c1, c2, c3, c4, c5, c6, c7, c8])) = xs[7]? := hf 7 _ rfl
  have g8 : DataW.trod en Tryz.prog w base spare held n 3 (List.take (Tryz.prog.cellsOf 3) (List.drop 8 [c0, c1, c2, c3, c4, c5, c6, c7, c8])) = xs[8]? := hf 8 _ rfl
  rw [List.getElem?_eq_getElem (by omega)] at g0 g1 g2 g3 g4 g5 g6 g7 g8
  rw [ce25] at g0
  rw [ce26] at g1
  rw [ce3] at g2 g3 g4 g5 g6 g7 g8
  obtain ⟨d, e2, _, w2⟩ := DataW.trod_int Tryz.underlying3 g2
  have f2 : c2 = .int .i64 d := by simpa using e2
  obtain ⟨x3, e3, _, w3⟩ := DataW.trod_int Tryz.underlying3 g3
  have f3 : c3 = .int .i64 x3 := by simpa using e3
  obtain ⟨x4, e4, _, w4⟩ := DataW.trod_int Tryz.underlying3 g4
  have f4 : c4 = .int .i64 x4 := by simpa using e4
  obtain ⟨x5, e5, _, w5⟩ := DataW.trod_int Tryz.underlying3 g5
  have f5 : c5 = .int .i64 x5 := by simpa using e5
  obtain ⟨x6, e6, _, w6⟩ := DataW.trod_int Tryz.underlying3 g6
  have f6 : c6 = .int .i64 x6 := by simpa using e6
  obtain ⟨x7, e7, _, w7⟩ := DataW.trod_int Tryz.underlying3 g7
  have f7 : c7 = .int .i64 x7 := by simpa using e7
  obtain ⟨x8, e8, _, w8⟩ := DataW.trod_int Tryz.underlying3 g8
  have f8 : c8 = .int .i64 x8 := by simpa using e8
  obtain ⟨uA, nU, uC, rfl⟩ := slice_shape Tryz.underlying25 g0
  obtain ⟨kA, nK, kC, rfl⟩ := slice_shape Tryz.underlying26 g1
  obtain ⟨U, hU, hUw⟩ := open_rows_si Tryz.underlying25 Tryz.underlying73 ce73 rfl rfl ce9 ce3 Tryz.underlying9 Tryz.underlying3 g0
  obtain ⟨K, hK, hKw⟩ := open_rows_ii Tryz.underlying26 Tryz.underlying131 ce131 rfl rfl ce22 ce3 Tryz.underlying22 Tryz.underlying3 g1
  subst f2 f3 f4 f5 f6 f7 f8
  refine ⟨(List.range nU).map U, (List.range nK).map K, d, x3, x4, x5, x6, x7, x8, uA, uC, kA, kC, by simp, ?_⟩
  refine ⟨rows_list (⟨#[]⟩, 0) (f := fun p => [.string p.1, .int .i64 p.2]) hU, rows_list (0, 0) (f := fun p => [.int .i64 p.1, .int .i64 p.2]) hK, fun p hp => ?_, fun p hp => ?_, Go.bounds_i64 w2, Go.bounds_i64 w3, Go.bounds_i64 w4, Go.bounds_i64 w5, Go.bounds_i64 w6, Go.bounds_i64 w7, Go.bounds_i64 w8⟩
  ·obtain ⟨j, hj, rfl⟩ := List.mem_map.1 hp
   have := hUw j (by simpa using hj)
   exact ⟨this.1, Go.bounds_i64 this.2⟩
  ·obtain ⟨j, hj, rfl⟩ := List.mem_map.1 hp
   have := hKw j (by simpa using hj)
   exact ⟨Go.bounds_i64 this.1, Go.bounds_i64 this.2⟩
theorem txs_open {fuel : Nat} {v : Value} {y : DataW H × List MemPlace} (h : DataW.trod en Tryz.prog w base spare held fuel 24 [v] = some y) : ∃ A c zs, v = .slice A zs.length c ∧ Txs w A zs.length c zs := by
 rcases open_strings Tryz.underlying24 Tryz.underlying9 (by kernel_rfl) h with ⟨hcs, _⟩ | ⟨a, l, c, zs, hcs, _, hlc, hm, hz, _, hcell, hwz⟩
 ·exact ⟨none, 0, [], by simpa using hcs, Txs.nil w⟩
 ·have hlz : l ≤ zs.length := by rw [hz]; split <;> omega
  have e : (zs.take l).length = l := by rw [List.length_take]; omega
  refine ⟨some a, c, zs.take l, by rw [e]; simpa using hcs, ?_, rfl, by omega, fun s hs => hwz s (List.mem_of_mem_take hs)⟩
  rw [e]
  refine rws_of (by omega) (by omega) (fun j hj => rfl) (fun j hj u hu => ?_) (fun j hj i v hv => ?_)
  ·simp [rowS] at hu; subst hu; rfl
  ·have hi : i = 0 := by
    have := (List.getElem?_eq_some_iff.1 hv).1
    simpa [rowS] using this
   subst hi
   have hv' : v = .string ((zs.take l).getD j ByteArray.empty) := by simpa [rowS] using hv.symm
   rw [hv', Nat.mul_one, Nat.add_zero, hcell j (by omega)]
   simp [List.getD_eq_getElem?_getD, hj]
/-- A content that came in. -/
theorem isc_open {fuel : Nat} {cs : List Value} {y : DataW H × List MemPlace} (hl : cs.length = 16) (h : DataW.trod en Tryz.prog w base spare held fuel 30 cs = some y) :
  ∃ (C : Cn) (a : Ads), ccs C a = cs ∧ IsC w C a := by
 obtain ⟨xs, n, _, _, _, hxl, hf⟩ := DataW.trod_struct Tryz.underlying30 h
 match cs, hl with
 | [c0, c1, c2, c3, c4, c5, c6, c7, c8, c9, c10, c11, c12, c13, c14, c15], _ =>
  have l8 : xs.length = 8 := hxl
  have g0 : DataW.trod en Tryz.prog w base spare held n 9 (List.take (Tryz.prog.cellsOf 9) (List.drop 0 [c0, c1, c2, c3, c4, c5, c6, c7, c8, c9, c10, c11, c12, c13, c14, c15])) = xs[0]? := hf 0 _ rfl
  rw [List.getElem?_eq_getElem (by omega), ce9] at g0
  have g1 : DataW.trod en Tryz.prog w base spare held n 3 (List.take (Tryz.prog.cellsOf 3) (List.drop 1 [c0, c1, c2, c3, c4, c5, c6, c7, c8, c9, c10, c11, c12, c13, c14, c15])) = xs[1]? := hf 1 _ rfl
  rw [List.getElem?_eq_getElem (by omega), ce3] at g1
  have g2 : DataW.trod en Tryz.prog w base spare held n 3 (List.take (Tryz.prog.cellsOf 3) (List.drop 2 [c0, c1, c2, c3, c4, c5, c6, c7, c8, c9, c10, c11, c12, c13, c14, c15])) = xs[2]? := hf 2 _ rfl
  rw [List.getElem?_eq_getElem (by omega), ce3] at g2
  have g3 : DataW.trod en Tryz.prog w base spare held n 4 (List.take (Tryz.prog.cellsOf 4) (List.drop 3 [c0, c1, c2, c3, c4, c5, c6, c7, c8, c9, c10, c11, c12, c13, c14, c15])) = xs[3]? := hf 3 _ rfl
  rw [List.getElem?_eq_getElem (by omega), ce4] at g3
  have g4 : DataW.trod en Tryz.prog w base spare held n 9 (List.take (Tryz.prog.cellsOf 9) (List.drop 4 [c0, c1, c2, c3, c4, c5, c6, c7, c8, c9, c10, c11, c12, c13, c14, c15])) = xs[4]? := hf 4 _ rfl
  rw [List.getElem?_eq_getElem (by omega), ce9] at g4
  have g5 : DataW.trod en Tryz.prog w base spare held n 24 (List.take (Tryz.prog.cellsOf 24) (List.drop 5 [c0, c1, c2, c3, c4, c5, c6, c7, c8, c9, c10, c11, c12, c13, c14, c15])) = xs[5]? := hf 5 _ rfl
  rw [List.getElem?_eq_getElem (by omega), ce24] at g5
  have g6 : DataW.trod en Tryz.prog w base spare held n 24 (List.take (Tryz.prog.cellsOf 24) (List.drop 6 [c0, c1, c2, c3, c4, c5, c6, c7, c8, c9, c10, c11, c12, c13, c14, c15])) = xs[6]? := hf 6 _ rfl
  rw [List.getElem?_eq_getElem (by omega), ce24] at g6
  have g7 : DataW.trod en Tryz.prog w base spare held n 28 (List.take (Tryz.prog.cellsOf 28) (List.drop 7 [c0, c1, c2, c3, c4, c5, c6, c7, c8, c9, c10, c11, c12, c13, c14, c15])) = xs[7]? := hf 7 _ rfl
  rw [List.getElem?_eq_getElem (by omega), ce28] at g7
  obtain ⟨tx, e0, _, w0⟩ := DataW.trod_string Tryz.underlying9 g0
  obtain ⟨n1, e1, _, w1⟩ := DataW.trod_int Tryz.underlying3 g1
  obtain ⟨tg, e2, _, w2⟩ := DataW.trod_int Tryz.underlying3 g2
  obtain ⟨th, e3, _⟩ := DataW.trod_bool Tryz.underlying4 g3
  obtain ⟨via, e4, _, w4⟩ := DataW.trod_string Tryz.underlying9 g4
  obtain ⟨aA, aC, al, rfl, h5⟩ := txs_open g5
  obtain ⟨dA, dC, dn, rfl, h6⟩ := txs_open g6
  obtain ⟨us, ks, d, x3, x4, x5, x6, x7, x8, uA, uC, kA, kC, e7, h7⟩ := isl_open rfl g7
  have f0 : c0 = .string tx := by simpa using e0
  have f1 : c1 = .int .i64 n1 := by simpa using e1
  have f2 : c2 = .int .i64 tg := by simpa using e2
  have f3 : c3 = .bool th := by simpa using e3
  have f4 : c4 = .string via := by simpa using e4
  have e7' : [.slice uA us.length uC, .slice kA ks.length kC, .int .i64 d, .int .i64 x3, .int .i64 x4, .int .i64 x5, .int .i64 x6, .int .i64 x7, .int .i64 x8] = [c7, c8, c9, c10, c11, c12, c13, c14, c15] := e7
  simp only [List.cons.injEq, and_true] at e7'
  obtain ⟨f7, f8, f9, f10, f11, f12, f13, f14, f15⟩ := e7'
  subst f0 f1 f2 f3 f4 f7 f8 f9 f10 f11 f12 f13 f14 f15
  exact ⟨⟨tx, n1, tg, th, via, al, dn, us, ks, d, x3, x4, x5, x6, x7, x8⟩, ⟨aA, aC, dA, dC, uA, uC, kA, kC⟩, rfl, ⟨h5, h6, h7, w0, w4, Go.bounds_i64 w1, Go.bounds_i64 w2⟩⟩
theorem ce32 : Tryz.prog.cellsOf 32 = 2 := by kernel_rfl
theorem ce34 : Tryz.prog.cellsOf 34 = 29 := by kernel_rfl
theorem ce23 : Tryz.prog.cellsOf 23 = 1 := by kernel_rfl
theorem ins_open {fuel : Nat} {v : Value} {y : DataW H × List MemPlace} (h : DataW.trod en Tryz.prog w base spare held fuel 23 [v] = some y) : ∃ A c zs, v = .slice A zs.length c ∧ Ins w A zs.length c zs := by
 rcases Go.ChangeShapes.open_ints Tryz.underlying23 Tryz.underlying3 (by kernel_rfl) h with ⟨hcs, _⟩ | ⟨a, l, c, zs, hcs, _, hlc, hm, hz, _, hcell, hwz⟩
 ·exact ⟨none, 0, [], by simpa using hcs, Ins.nil w⟩
 ·have hlz : l ≤ zs.length := by rw [hz]; split <;> omega
  have e : (zs.take l).length = l := by rw [List.length_take]; omega
  refine ⟨some a, c, zs.take l, by rw [e]; simpa using hcs, ?_, rfl, by omega, fun s hs => Go.bounds_i64 (hwz s (List.mem_of_mem_take hs))⟩
  rw [e]
  refine rws_of (by omega) (by omega) (fun j hj => rfl) (fun j hj u hu => ?_) (fun j hj i v hv => ?_)
  ·simp [rowI] at hu; subst hu; rfl
  ·have hi : i = 0 := by
    have := (List.getElem?_eq_some_iff.1 hv).1
    simpa [rowI] using this
   subst hi
   have hv' : v = .int .i64 ((zs.take l).getD j 0) := by simpa [rowI] using hv.symm
   rw [hv', Nat.mul_one, Nat.add_zero, hcell j (by omega)]
   simp [List.getD_eq_getElem?_getD, hj]
/-- An event that came in. -/
theorem ise_open {fuel : Nat} {cs : List Value} {y : DataW H × List MemPlace} (hl : cs.length = 29) (h : DataW.trod en Tryz.prog w base spare held fuel 34 cs = some y) :
  ∃ (E : Ew) (a : Aw), ecs E a = cs ∧ IsE w E a := by
 obtain ⟨xs, n, _, _, _, hxl, hf⟩ := DataW.trod_struct Tryz.underlying34 h
 match cs, hl with
 | [c0, c1, c2, c3, c4, c5, c6, c7, c8, c9, c10, c11, c12, c13, c14, c15, c16, c17, c18, c19, c20, c21, c22, c23, c24, c25, c26, c27, c28], _ =>
  have l13 : xs.length = 13 := hxl
  have g0 : DataW.trod en Tryz.prog w base spare held n 3 (List.take (Tryz.prog.cellsOf 3) (List.drop 0 [c0, c1, c2, c3, c4, c5, c6, c7, c8, c9, c10, c11, c12, c13, c14, c15, c16, c17, c18, c19, c20, c21, c22, c23, c24, c25, c26, c27, c28])) = xs[0]? := hf 0 _ rfl
  rw [List.getElem?_eq_getElem (by omega), ce3] at g0
  have g1 : DataW.trod en Tryz.prog w base spare held n 9 (List.take (Tryz.prog.cellsOf 9) (List.drop 1 [c0, c1, c2, c3, c4, c5, c6, c7, c8, c9, c10, c11, c12, c13, c14, c15, c16, c17, c18, c19, c20, c21, c22, c23, c24, c25, c26, c27, c28])) = xs[1]? := hf 1 _ rfl
  rw [List.getElem?_eq_getElem (by omega), ce9] at g1
  have g2 : DataW.trod en Tryz.prog w base spare held n 9 (List.take (Tryz.prog.cellsOf 9) (List.drop 2 [c0, c1, c2, c3, c4, c5, c6, c7, c8, c9, c10, c11, c12, c13, c14, c15, c16, c17, c18, c19, c20, c21, c22, c23, c24, c25, c26, c27, c28])) = xs[2]? := hf 2 _ rfl
  rw [List.getElem?_eq_getElem (by omega), ce9] at g2
  have g3 : DataW.trod en Tryz.prog w base spare held n 22 (List.take (Tryz.prog.cellsOf 22) (List.drop 3 [c0, c1, c2, c3, c4, c5, c6, c7, c8, c9, c10, c11, c12, c13, c14, c15, c16, c17, c18, c19, c20, c21, c22, c23, c24, c25, c26, c27, c28])) = xs[3]? := hf 3 _ rfl
  rw [List.getElem?_eq_getElem (by omega), ce22] at g3
  have g4 : DataW.trod en Tryz.prog w base spare held n 4 (List.take (Tryz.prog.cellsOf 4) (List.drop 4 [c0, c1, c2, c3, c4, c5, c6, c7, c8, c9, c10, c11, c12, c13, c14, c15, c16, c17, c18, c19, c20, c21, c22, c23, c24, c25, c26, c27, c28])) = xs[4]? := hf 4 _ rfl
  rw [List.getElem?_eq_getElem (by omega), ce4] at g4
  have g5 : DataW.trod en Tryz.prog w base spare held n 9 (List.take (Tryz.prog.cellsOf 9) (List.drop 5 [c0, c1, c2, c3, c4, c5, c6, c7, c8, c9, c10, c11, c12, c13, c14, c15, c16, c17, c18, c19, c20, c21, c22, c23, c24, c25, c26, c27, c28])) = xs[5]? := hf 5 _ rfl
  rw [List.getElem?_eq_getElem (by omega), ce9] at g5
  have g6 : DataW.trod en Tryz.prog w base spare held n 3 (List.take (Tryz.prog.cellsOf 3) (List.drop 6 [c0, c1, c2, c3, c4, c5, c6, c7, c8, c9, c10, c11, c12, c13, c14, c15, c16, c17, c18, c19, c20, c21, c22, c23, c24, c25, c26, c27, c28])) = xs[6]? := hf 6 _ rfl
  rw [List.getElem?_eq_getElem (by omega), ce3] at g6
  have g7 : DataW.trod en Tryz.prog w base spare held n 3 (List.take (Tryz.prog.cellsOf 3) (List.drop 7 [c0, c1, c2, c3, c4, c5, c6, c7, c8, c9, c10, c11, c12, c13, c14, c15, c16, c17, c18, c19, c20, c21, c22, c23, c24, c25, c26, c27, c28])) = xs[7]? := hf 7 _ rfl
  rw [List.getElem?_eq_getElem (by omega), ce3] at g7
  have g8 : DataW.trod en Tryz.prog w base spare held n 23 (List.take (Tryz.prog.cellsOf 23) (List.drop 8 [c0, c1, c2, c3, c4, c5, c6, c7, c8, c9, c10, c11, c12, c13, c14, c15, c16, c17, c18, c19, c20, c21, c22, c23, c24, c25, c26, c27, c28])) = xs[8]? := hf 8 _ rfl
  rw [List.getElem?_eq_getElem (by omega), ce23] at g8
  have g9 : DataW.trod en Tryz.prog w base spare held n 23 (List.take (Tryz.prog.cellsOf 23) (List.drop 9 [c0, c1, c2, c3, c4, c5, c6, c7, c8, c9, c10, c11, c12, c13, c14, c15, c16, c17, c18, c19, c20, c21, c22, c23, c24, c25, c26, c27, c28])) = xs[9]? := hf 9 _ rfl
  rw [List.getElem?_eq_getElem (by omega), ce23] at g9
  have g10 : DataW.trod en Tryz.prog w base spare held n 30 (List.take (Tryz.prog.cellsOf 30) (List.drop 10 [c0, c1, c2, c3, c4, c5, c6, c7, c8, c9, c10, c11, c12, c13, c14, c15, c16, c17, c18, c19, c20, c21, c22, c23, c24, c25, c26, c27, c28])) = xs[10]? := hf 10 _ rfl
  rw [List.getElem?_eq_getElem (by omega), ce30] at g10
  have g11 : DataW.trod en Tryz.prog w base spare held n 3 (List.take (Tryz.prog.cellsOf 3) (List.drop 26 [c0, c1, c2, c3, c4, c5, c6, c7, c8, c9, c10, c11, c12, c13, c14, c15, c16, c17, c18, c19, c20, c21, c22, c23, c24, c25, c26, c27, c28])) = xs[11]? := hf 11 _ rfl
  rw [List.getElem?_eq_getElem (by omega), ce3] at g11
  have g12 : DataW.trod en Tryz.prog w base spare held n 32 (List.take (Tryz.prog.cellsOf 32) (List.drop 27 [c0, c1, c2, c3, c4, c5, c6, c7, c8, c9, c10, c11, c12, c13, c14, c15, c16, c17, c18, c19, c20, c21, c22, c23, c24, c25, c26, c27, c28])) = xs[12]? := hf 12 _ rfl
  rw [List.getElem?_eq_getElem (by omega), ce32] at g12
  obtain ⟨id, e0, _, w0⟩ := DataW.trod_int Tryz.underlying3 g0
  obtain ⟨rm, e1, _, w1⟩ := DataW.trod_string Tryz.underlying9 g1
  obtain ⟨sd, e2, _, w2⟩ := DataW.trod_string Tryz.underlying9 g2
  obtain ⟨kd, e3, _, w3⟩ := DataW.trod_int Tryz.underlying22 g3
  obtain ⟨st, e4, _⟩ := DataW.trod_bool Tryz.underlying4 g4
  obtain ⟨ky, e5, _, w5⟩ := DataW.trod_string Tryz.underlying9 g5
  obtain ⟨tm, e6, _, w6⟩ := DataW.trod_int Tryz.underlying3 g6
  obtain ⟨dp, e7, _, w7⟩ := DataW.trod_int Tryz.underlying3 g7
  obtain ⟨pA, pC, pv, rfl, h8⟩ := ins_open g8
  obtain ⟨qA, qC, au, rfl, h9⟩ := ins_open g9
  obtain ⟨C, ac, e10, h10⟩ := isc_open rfl g10
  obtain ⟨hs, e11, _, w11⟩ := DataW.trod_int Tryz.underlying3 g11
  obtain ⟨ys, n2, _, _, _, hyl, hg⟩ := DataW.trod_struct Tryz.underlying32 g12
  have l2 : ys.length = 2 := hyl
  have g13 : DataW.trod en Tryz.prog w base spare held n2 9 (List.take (Tryz.prog.cellsOf 9) (List.drop 0 [c27, c28])) = ys[0]? := hg 0 _ rfl
  have g14 : DataW.trod en Tryz.prog w base spare held n2 3 (List.take (Tryz.prog.cellsOf 3) (List.drop 1 [c27, c28])) = ys[1]? := hg 1 _ rfl
  rw [List.getElem?_eq_getElem (by omega), ce9] at g13
  rw [List.getElem?_eq_getElem (by omega), ce3] at g14
  obtain ⟨sv, e13, _, w13⟩ := DataW.trod_string Tryz.underlying9 g13
  obtain ⟨sm, e14, _, w14⟩ := DataW.trod_int Tryz.underlying3 g14
  have f0 : c0 = .int .i64 id := by simpa using e0
  have f1 : c1 = .string rm := by simpa using e1
  have f2 : c2 = .string sd := by simpa using e2
  have f3 : c3 = .int .i64 kd := by simpa using e3
  have f4 : c4 = .bool st := by simpa using e4
  have f5 : c5 = .string ky := by simpa using e5
  have f6 : c6 = .int .i64 tm := by simpa using e6
  have f7 : c7 = .int .i64 dp := by simpa using e7
  have f26 : c26 = .int .i64 hs := by simpa using e11
  have f27 : c27 = .string sv := by simpa using e13
  have f28 : c28 = .int .i64 sm := by simpa using e14
  have e10' : ccs C ac = [c10, c11, c12, c13, c14, c15, c16, c17, c18, c19, c20, c21, c22, c23, c24, c25] := e10
  subst f0 f1 f2 f3 f4 f5 f6 f7 f26 f27 f28
  refine ⟨⟨id, rm, sd, kd, st, ky, tm, dp, pv, au, C, hs, sv, sm⟩, ⟨pA, pC, qA, qC, ac⟩, ?_, ⟨h8, h9, h10, w1, w2, w5, w13, Go.bounds_i64 w0, Go.bounds_i64 w3, Go.bounds_i64 w6, Go.bounds_i64 w7, Go.bounds_i64 w11, Go.bounds_i64 w14⟩⟩
  show [.int .i64 id, .string rm, .string sd, .int .i64 kd, .bool st, .string ky, .int .i64 tm, .int .i64 dp, .slice pA pv.length pC, .slice qA au.length qC] ++ ccs C ac ++ [.int .i64 hs, .string sv, .int .i64 sm] = _
  rw [e10']
  rfl
end
end Go.Proofs.YtablocpcgknmaaaGreatDoor
