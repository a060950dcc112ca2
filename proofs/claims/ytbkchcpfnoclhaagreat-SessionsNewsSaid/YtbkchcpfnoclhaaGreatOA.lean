/- Sessions: arguments opened: a session, keys, a device, members with keys. No condition. -/
import Derived.Test.YtbkchcpfnoclhaaGreatV5
import Derived.Test.YtbkchcpfnoclhaaGreatV2
import Derived.Test.YtbkchcpfnoclhaaGreatG6
import Derived.Lib.SmallJoins
import Derived.ProofKit
import Derived.OpenShut
import Derived.SliceStrings
namespace Go.Proofs.YtbkchcpfnoclhaaGreat
set_option maxRecDepth 100000
open Go.ChangeShapes Go.WideShapes Go.ChangeAt Go.RowKit Go.Joins Go.Deep
set_option linter.unusedVariables false

section
variable {H : Type} {en : TypeId × Value → H} {P : Program} {w : World} {base : Nat} {spare : Nat → Bool} {held : Bool}
theorem open_cells2 {t : TypeId} {f0 f1 : Field} {c0 c1 : Value} {fuel : Nat} {x : DataW H × List MemPlace} (hs : P.underlying t = some (.struct #[f0, f1])) (hone : oneCellFields P #[f0, f1] = true)
    (hf : DataW.trod en P w base spare held fuel t [c0, c1] = some x) :
    ∃ (y0 y1 : DataW H × List MemPlace) (n : Nat), DataW.trod en P w base spare held n f0.type [c0] = some y0 ∧ DataW.trod en P w base spare held n f1.type [c1] = some y1 := by
  obtain ⟨xs, n, _, _, hl, hlen, hf⟩ := DataW.trod_struct hs hf
  match xs, hlen, hf with
  | [y0, y1], _, hf =>
    have h0 := hf 0 f0 rfl
    have h1 := hf 1 f1 rfl
    obtain ⟨o0, k0⟩ := hone_of hone 0 f0 rfl
    obtain ⟨o1, k1⟩ := hone_of hone 1 f1 rfl
    exact ⟨y0, y1, n, by simpa [Value.cells, o0, k0] using h0, by simpa [Value.cells, o1, k1] using h1⟩
theorem open_cells3 {t : TypeId} {f0 f1 f2 : Field} {c0 c1 c2 : Value} {fuel : Nat} {x : DataW H × List MemPlace} (hs : P.underlying t = some (.struct #[f0, f1, f2])) (hone : oneCellFields P #[f0, f1, f2] = true)
    (hf : DataW.trod en P w base spare held fuel t [c0, c1, c2] = some x) :
    ∃ (y0 y1 y2 : DataW H × List MemPlace) (n : Nat), DataW.trod en P w base spare held n f0.type [c0] = some y0 ∧ DataW.trod en P w base spare held n f1.type [c1] = some y1 ∧ DataW.trod en P w base spare held n f2.type [c2] = some y2 := by
  obtain ⟨xs, n, _, _, hl, hlen, hf⟩ := DataW.trod_struct hs hf
  match xs, hlen, hf with
  | [y0, y1, y2], _, hf =>
    have h0 := hf 0 f0 rfl
    have h1 := hf 1 f1 rfl
    have h2 := hf 2 f2 rfl
    obtain ⟨o0, k0⟩ := hone_of hone 0 f0 rfl
    obtain ⟨o1, k1⟩ := hone_of hone 1 f1 rfl
    obtain ⟨o2, k2⟩ := hone_of hone 2 f2 rfl
    exact ⟨y0, y1, y2, n, by simpa [Value.cells, o0, k0] using h0, by simpa [Value.cells, o1, k1] using h1, by simpa [Value.cells, o2, k2] using h2⟩
theorem open_cells4 {t : TypeId} {f0 f1 f2 f3 : Field} {c0 c1 c2 c3 : Value} {fuel : Nat} {x : DataW H × List MemPlace} (hs : P.underlying t = some (.struct #[f0, f1, f2, f3])) (hone : oneCellFields P #[f0, f1, f2, f3] = true)
    (hf : DataW.trod en P w base spare held fuel t [c0, c1, c2, c3] = some x) :
    ∃ (y0 y1 y2 y3 : DataW H × List MemPlace) (n : Nat), DataW.trod en P w base spare held n f0.type [c0] = some y0 ∧ DataW.trod en P w base spare held n f1.type [c1] = some y1 ∧ DataW.trod en P w base spare held n f2.type [c2] = some y2 ∧ DataW.trod en P w base spare held n f3.type [c3] = some y3 := by
  obtain ⟨xs, n, _, _, hl, hlen, hf⟩ := DataW.trod_struct hs hf
  match xs, hlen, hf with
  | [y0, y1, y2, y3], _, hf =>
    have h0 := hf 0 f0 rfl
    have h1 := hf 1 f1 rfl
    have h2 := hf 2 f2 rfl
    have h3 := hf 3 f3 rfl
    obtain ⟨o0, k0⟩ := hone_of hone 0 f0 rfl
    obtain ⟨o1, k1⟩ := hone_of hone 1 f1 rfl
    obtain ⟨o2, k2⟩ := hone_of hone 2 f2 rfl
    obtain ⟨o3, k3⟩ := hone_of hone 3 f3 rfl
    exact ⟨y0, y1, y2, y3, n, by simpa [Value.cells, o0, k0] using h0, by simpa [Value.cells, o1, k1] using h1, by simpa [Value.cells, o2, k2] using h2, by simpa [Value.cells, o3, k3] using h3⟩
end
theorem cells55 : Tryz.prog.cellsOf 36 = 3 := by kernel_rfl
section
variable {H : Type} {en : TypeId × Value → H} {w : World} {base : Nat} {spare : Nat → Bool} {held : Bool}
theorem rc_open {fuel : Nat} {cs : List Value} {x : DataW H × List MemPlace} (hl : cs.length = 3) (h : DataW.trod en Tryz.prog w base spare held fuel 36 cs = some x) : ∃ p : Rc, enc p = cs ∧ fitR p := by
  match cs, hl, h with
  | [c0, c1, c2], _, h =>
    obtain ⟨y0, y1, y2, m, h0, h1, h2⟩ := open_cells3 Tryz.underlying36 (by kernel_rfl) h
    obtain ⟨v0, e0, _, w0⟩ := DataW.trod_string Tryz.underlying9 h0
    unfold maxLen at w0
    obtain ⟨v1, e1, _, w1⟩ := DataW.trod_string Tryz.underlying9 h1
    unfold maxLen at w1
    obtain ⟨v2, e2, _, w2⟩ := DataW.trod_int Tryz.underlying3 h2
    have b2 := Go.bounds_i64 w2
    simp only [List.cons.injEq, and_true] at e0 e1 e2
    subst e0 e1 e2
    exact ⟨⟨v0, v1, v2⟩, rfl, by unfold fitR; simp only; omega⟩
theorem open_rcs {fuel : Nat} {A : Option Addr} {len cap : Nat} {x : DataW H × List MemPlace} (h : DataW.trod en Tryz.prog w base spare held fuel 22 [.slice A len cap] = some x) : ∃ zs : List Rc, Rcs w A len cap zs ∧ cap ≤ 9223372036854775807 := by
  rcases Go.Deep.open_slice Tryz.underlying22 h with ⟨hcs, _⟩ | ⟨a, l, c, m, n, D, Pl, hcs, hb, hl, hm, hmm, hx, hi⟩
  · simp at hcs
    obtain ⟨rfl, rfl, rfl⟩ := hcs
    exact ⟨[], Rcs.nil w, by decide⟩
  · simp at hcs
    obtain ⟨rfl, rfl, rfl⟩ := hcs
    have hlm : len ≤ m := by rw [hmm]; split <;> omega
    have each : ∀ i, i < len → ∃ e : Rc, (∀ k v, (enc e)[k]? = some v → w.cell? (a.add (i * 3 + k)) = some v) ∧ fitR e := by
      intro i hil
      obtain ⟨cs', h1, h2⟩ := hi i (by omega)
      rw [cells55] at h1
      obtain ⟨_, hlen, hcell⟩ := World.cells?_some h1
      obtain ⟨e, he, hf⟩ := rc_open hlen h2
      refine ⟨e, fun k v hv => ?_, hf⟩
      have hv' : cs'[k]? = some v := by rw [← he]; exact hv
      have hk : k < 3 := by rw [← hlen]; exact (List.getElem?_eq_some_iff.1 hv').1
      rw [← Go.Deep.add_add, hcell k hk]
      exact hv'
    obtain ⟨F, hF⟩ := choose_below t0 each
    have hg : ∀ j, j < len → ((List.range len).map F).getD j t0 = F j := by
      intro j hj
      rw [List.getD_eq_getElem?_getD, List.getElem?_eq_getElem (by simpa using hj)]
      simp
    refine ⟨(List.range len).map F, ⟨rws_of (by omega) (by decide) (fun j hj => rfl) (fun j hj => enc_one _) (fun j hj i v hv => ?_), by simp, hl, fun p hp => ?_⟩, by unfold maxLen at hm; omega⟩
    · unfold rowR at hv
      rw [hg j hj] at hv
      exact (hF j hj).1 i v hv
    · obtain ⟨j, hj, rfl⟩ := List.mem_map.1 hp
      exact (hF j (by simpa using hj)).2
end
section
variable {H : Type} {en : TypeId × Value → H} {w : World} {base : Nat} {spare : Nat → Bool} {held : Bool}
end
theorem cells24 : Tryz.prog.cellsOf 24 = 4 := by kernel_rfl
theorem cells26 : Tryz.prog.cellsOf 26 = 2 := by kernel_rfl
section
variable {H : Type} {en : TypeId × Value → H} {w : World} {base : Nat} {spare : Nat → Bool} {held : Bool}
theorem slice_shape {t e : TypeId} {fuel : Nat} {c : Value} {x : DataW H × List MemPlace} (hu : Tryz.prog.underlying t = some (.slice e)) (h : DataW.trod en Tryz.prog w base spare held fuel t [c] = some x) : ∃ A n m, c = .slice A n m := by
  rcases Go.Deep.open_slice hu h with ⟨hcs, _⟩ | ⟨a, l, c', m, n, D, Pl, hcs, _⟩
  · exact ⟨none, 0, 0, by simpa using hcs⟩
  · exact ⟨_, _, _, by simpa using hcs⟩
theorem ses_open {fuel : Nat} {cs : List Value} {x : DataW H × List MemPlace} (hl : cs.length = 4) (h : DataW.trod en Tryz.prog w base spare held fuel 24 cs = some x) : ∃ (S : Ses) (A : Option Addr) (c : Nat), [.int .i64 S.id, .string S.rm, .int .i64 S.nx, .slice A S.l.length c] = cs ∧ Rcs w A S.l.length c S.l ∧ i64B S.nx ∧ S.rm.size ≤ 9223372036854775807 ∧ c ≤ 9223372036854775807 := by
  match cs, hl, h with
  | [c0, c1, c2, c3], _, h =>
    obtain ⟨y0, y1, y2, y3, m, h0, h1, h2, h3⟩ := open_cells4 Tryz.underlying24 (by kernel_rfl) h
    obtain ⟨v0, e0, _, w0⟩ := DataW.trod_int Tryz.underlying3 h0
    obtain ⟨v1, e1, _, w1⟩ := DataW.trod_string Tryz.underlying9 h1
    unfold maxLen at w1
    obtain ⟨v2, e2, _, w2⟩ := DataW.trod_int Tryz.underlying3 h2
    have b2 := Go.bounds_i64 w2
    obtain ⟨A, n, c, rfl⟩ := slice_shape Tryz.underlying22 h3
    obtain ⟨zs, hz, hcz⟩ := open_rcs h3
    obtain rfl : zs.length = n := hz.len
    simp only [List.cons.injEq, and_true] at e0 e1 e2
    subst e0 e1 e2
    exact ⟨⟨v0, v1, v2, zs⟩, A, c, rfl, hz, b2, by omega, hcz⟩
theorem dev_open {fuel : Nat} {cs : List Value} {x : DataW H × List MemPlace} (hl : cs.length = 2) (h : DataW.trod en Tryz.prog w base spare held fuel 26 cs = some x) : ∃ u d : ByteArray, [.string u, .string d] = cs ∧ u.size ≤ 9223372036854775807 ∧ d.size ≤ 9223372036854775807 := by
  match cs, hl, h with
  | [c0, c1], _, h =>
    obtain ⟨y0, y1, m, h0, h1⟩ := open_cells2 Tryz.underlying26 (by kernel_rfl) h
    obtain ⟨v0, e0, _, w0⟩ := DataW.trod_string Tryz.underlying9 h0
    unfold maxLen at w0
    obtain ⟨v1, e1, _, w1⟩ := DataW.trod_string Tryz.underlying9 h1
    unfold maxLen at w1
    simp only [List.cons.injEq, and_true] at e0 e1
    subst e0 e1
    exact ⟨v0, v1, rfl, by omega, by omega⟩
end
end Go.Proofs.YtbkchcpfnoclhaaGreat
