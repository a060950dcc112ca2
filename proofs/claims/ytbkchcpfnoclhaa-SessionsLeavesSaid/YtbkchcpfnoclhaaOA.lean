/- Sessions: arguments opened: a session, keys, a device, members with keys. No condition. -/
import Derived.Test.YtbkchcpfnoclhaaV5
import Derived.Test.YtbkchcpfnoclhaaV2
import Derived.Test.YtbkchcpfnoclhaaG6
import Derived.Lib.SmallJoins
import Derived.ProofKit
import Derived.OpenShut
import Derived.SliceStrings
namespace Go.Proofs.Ytbkchcpfnoclhaa
open Go.ChangeShapes Go.WideShapes Go.ChangeAt Go.RowKit Go.Joins Go.Deep
set_option linter.unusedVariables false

section
variable {H : Type} {en : TypeId × Value → H} {P : Program} {w : World} {base : Nat} {spare : Nat → Bool} {held : Bool}
theorem open_cells2 {t : TypeId} {f0 f1 : Field} {c0 c1 : Value} {fuel : Nat} {x : DataW H × List MemPlace} (hs : P.underlying t = some (.struct #[f0, f1])) (hone : oneCellFields P #[f0, f1] = true)
    (hf : DataW.trod en P w base spare held fuel t [c0, c1] = some x) :
    ∃ (y0 y1 : DataW H × List MemPlace) (n : Nat), DataW.trod en P w base spare held n f0.type [c0] = some y0 ∧ DataW.trod en P w base spare held n f1.type [c1] = some y1 := by
  obtain ⟨xs, n, _, _, hl, hlen, hf⟩ := DataW.trod_struct hs hf
  match xs, hlen, hf with
  | [y0, y1], _, hf =>
    have h0 := hf 0 f0 rfl
    have h1 := hf 1 f1 rfl
    obtain ⟨o0, k0⟩ := hone_of hone 0 f0 rfl
    obtain ⟨o1, k1⟩ := hone_of hone 1 f1 rfl
    exact ⟨y0, y1, n, by simpa [Value.cells, o0, k0] using h0, by simpa [Value.cells, o1, k1] using h1⟩
theorem open_cells3 {t : TypeId} {f0 f1 f2 : Field} {c0 c1 c2 : Value} {fuel : Nat} {x : DataW H × List MemPlace} (hs : P.underlying t = some (.struct #[f0, f1, f2])) (hone : oneCellFields P #[f0, f1, f2] = true)
    (hf : DataW.trod en P w base spare held fuel t [c0, c1, c2] = some x) :
    ∃ (y0 y1 y2 : DataW H × List MemPlace) (n : Nat), DataW.trod en P w base spare held n f0.type [c0] = some y0 ∧ DataW.trod en P w base spare held n f1.type [c1] = some y1 ∧ DataW.trod en P w base spare held n f2.type [c2] = some y2 := by
  obtain ⟨xs, n, _, _, hl, hlen, hf⟩ := DataW.trod_struct hs hf
  match xs, hlen, hf with
  | [y0, y1, y2], _, hf =>
    have h0 := hf 0 f0 rfl
    have h1 := hf 1 f1 rfl
    have h2 := hf 2 f2 rfl
    obtain ⟨o0, k0⟩ := hone_of hone 0 f0 rfl
    obtain ⟨o1, k1⟩ := hone_of hone 1 f1 rfl
    obtain ⟨o2, k2⟩ := hone_of hone 2 f2 rfl
    exact ⟨y0, y1, y2, n, by simpa [Value.cells, o0, k0] using h0, by simpa [Value.cells, o1, k1] using h1, by simpa [Value.cells, o2, k2] using h2⟩
theorem open_cells4 {t : TypeId} {f0 f1 f2 f3 : Field} {c0 c1 c2 c3 : Value} {fuel : Nat} {x : DataW H × List MemPlace} (hs : P.underlying t = some (.struct #[f0, f1, f2, f3])) (hone : oneCellFields P #[f0, f1, f2, f3] = true)
    (hf : DataW.trod en P w base spare held fuel t [c0, c1, c2, c3] = some x) :
    ∃ (y0 y1 y2 y3 : DataW H × List MemPlace) (n : Nat), DataW.trod en P w base spare held n f0.type [c0] = some y0 ∧ DataW.trod en P w base spare held n f1.type [c1] = some y1 ∧ DataW.trod en P w base spare held n f2.type [c2] = some y2 ∧ DataW.trod en P w base spare held n f3.type [c3] = some y3 := by
  obtain ⟨xs, n, _, _, hl, hlen, hf⟩ := DataW.trod_struct hs hf
  match xs, hlen, hf with
  | [y0, y1, y2, y3], _, hf =>
    have h0 := hf 0 f0 rfl
    have h1 := hf 1 f1 rfl
    have h2 := hf 2 f2 rfl
    have h3 := hf 3 f3 rfl
    obtain ⟨o0, k0⟩ := hone_of hone 0 f0 rfl
    obtain ⟨o1, k1⟩ := hone_of hone 1 f1 rfl
    obtain ⟨o2, k2⟩ := hone_of hone 2 f2 rfl
    obtain ⟨o3, k3⟩ := hone_of hone 3 f3 rfl
    exact ⟨y0, y1, y2, y3, n, by simpa [Value.cells, o0, k0] using h0, by simpa [Value.cells, o1, k1] using h1, by simpa [Value.cells, o2, k2] using h2, by simpa [Value.cells, o3, k3] using h3⟩
end
theorem cells55 : Try.prog.cellsOf 55 = 3 := by kernel_rfl
section
variable {H : Type} {en : TypeId × Value → H} {w : World} {base : Nat} {spare : Nat → Bool} {held : Bool}
theorem rc_open {fuel : Nat} {cs : List Value} {x : DataW H × List MemPlace} (hl : cs.length = 3) (h : DataW.trod en Try.prog w base spare held fuel 55 cs = some x) : ∃ p : Rc, enc p = cs ∧ fitR p := by
  match cs, hl, h with
  | [c0, c1, c2], _, h =>
    obtain ⟨y0, y1, y2, m, h0, h1, h2⟩ := open_cells3 Try.underlying55 (by kernel_rfl) h
    obtain ⟨v0, e0, _, w0⟩ := DataW.trod_string Try.underlying9 h0
    unfold maxLen at w0
    obtain ⟨v1, e1, _, w1⟩ := DataW.trod_string Try.underlying9 h1
    unfold maxLen at w1
    obtain ⟨v2, e2, _, w2⟩ := DataW.trod_int Try.underlying3 h2
    have b2 := Go.bounds_i64 w2
    simp only [List.cons.injEq, and_true] at e0 e1 e2
    subst e0 e1 e2
    exact ⟨⟨v0, v1, v2⟩, rfl, by unfold fitR; simp only; omega⟩
theorem open_rcs {fuel : Nat} {A : Option Addr} {len cap : Nat} {x : DataW H × List MemPlace} (h : DataW.trod en Try.prog w base spare held fuel 22 [.slice A len cap] = some x) : ∃ zs : List Rc, Rcs w A len cap zs := by
  rcases Go.Deep.open_slice Try.underlying22 h with ⟨hcs, _⟩ | ⟨a, l, c, m, n, D, Pl, hcs, hb, hl, hm, hmm, hx, hi⟩
  · simp at hcs
    obtain ⟨rfl, rfl, rfl⟩ := hcs
    exact ⟨[], Rcs.nil w⟩
  · simp at hcs
    obtain ⟨rfl, rfl, rfl⟩ := hcs
    have hlm : len ≤ m := by rw [hmm]; split <;> omega
    have each : ∀ i, i < len → ∃ e : Rc, (∀ k v, (enc e)[k]? = some v → w.cell? (a.add (i * 3 + k)) = some v) ∧ fitR e := by
      intro i hil
      obtain ⟨cs', h1, h2⟩ := hi i (by omega)
      rw [cells55] at h1
      obtain ⟨_, hlen, hcell⟩ := World.cells?_some h1
      obtain ⟨e, he, hf⟩ := rc_open hlen h2
      refine ⟨e, fun k v hv => ?_, hf⟩
      have hv' : cs'[k]? = some v := by rw [← he]; exact hv
      have hk : k < 3 := by rw [← hlen]; exact (List.getElem?_eq_some_iff.1 hv').1
      rw [← Go.Deep.add_add, hcell k hk]
      exact hv'
    obtain ⟨F, hF⟩ := choose_below t0 each
    have hg : ∀ j, j < len → ((List.range len).map F).getD j t0 = F j := by
      intro j hj
      rw [List.getD_eq_getElem?_getD, List.getElem?_eq_getElem (by simpa using hj)]
      simp
    refine ⟨(List.range len).map F, rws_of (by omega) (by decide) (fun j hj => rfl) (fun j hj => enc_one _) (fun j hj i v hv => ?_), by simp, hl, fun p hp => ?_⟩
    · unfold rowR at hv
      rw [hg j hj] at hv
      exact (hF j hj).1 i v hv
    · obtain ⟨j, hj, rfl⟩ := List.mem_map.1 hp
      exact (hF j (by simpa using hj)).2
end
theorem cells65 : Try.prog.cellsOf 65 = 3 := by kernel_rfl
section
variable {H : Type} {en : TypeId × Value → H} {w : World} {base : Nat} {spare : Nat → Bool} {held : Bool}
theorem dv_open {fuel : Nat} {cs : List Value} {x : DataW H × List MemPlace} (hl : cs.length = 3) (h : DataW.trod en Try.prog w base spare held fuel 65 cs = some x) : ∃ p : Dv.Rc, Dv.enc p = cs ∧ Dv.fitR p := by
  match cs, hl, h with
  | [c0, c1, c2], _, h =>
    obtain ⟨y0, y1, y2, m, h0, h1, h2⟩ := open_cells3 Try.underlying65 (by kernel_rfl) h
    obtain ⟨v0, e0, _, w0⟩ := DataW.trod_string Try.underlying9 h0
    unfold maxLen at w0
    obtain ⟨v1, e1, _, w1⟩ := DataW.trod_int Try.underlying3 h1
    have b1 := Go.bounds_i64 w1
    obtain ⟨v2, e2, _⟩ := DataW.trod_bool Try.underlying4 h2
    simp only [List.cons.injEq, and_true] at e0 e1 e2
    subst e0 e1 e2
    exact ⟨⟨v0, v1, v2⟩, rfl, by unfold Dv.fitR; simp only; omega⟩
theorem open_dvs {fuel : Nat} {A : Option Addr} {len cap : Nat} {x : DataW H × List MemPlace} (h : DataW.trod en Try.prog w base spare held fuel 66 [.slice A len cap] = some x) : ∃ zs : List Dv.Rc, Dv.Rcs w A len cap zs := by
  rcases Go.Deep.open_slice Try.underlying66 h with ⟨hcs, _⟩ | ⟨a, l, c, m, n, D, Pl, hcs, hb, hl, hm, hmm, hx, hi⟩
  · simp at hcs
    obtain ⟨rfl, rfl, rfl⟩ := hcs
    exact ⟨[], Dv.Rcs.nil w⟩
  · simp at hcs
    obtain ⟨rfl, rfl, rfl⟩ := hcs
    have hlm : len ≤ m := by rw [hmm]; split <;> omega
    have each : ∀ i, i < len → ∃ e : Dv.Rc, (∀ k v, (Dv.enc e)[k]? = some v → w.cell? (a.add (i * 3 + k)) = some v) ∧ Dv.fitR e := by
      intro i hil
      obtain ⟨cs', h1, h2⟩ := hi i (by omega)
      rw [cells65] at h1
      obtain ⟨_, hlen, hcell⟩ := World.cells?_some h1
      obtain ⟨e, he, hf⟩ := dv_open hlen h2
      refine ⟨e, fun k v hv => ?_, hf⟩
      have hv' : cs'[k]? = some v := by rw [← he]; exact hv
      have hk : k < 3 := by rw [← hlen]; exact (List.getElem?_eq_some_iff.1 hv').1
      rw [← Go.Deep.add_add, hcell k hk]
      exact hv'
    obtain ⟨F, hF⟩ := choose_below Dv.t0 each
    have hg : ∀ j, j < len → ((List.range len).map F).getD j Dv.t0 = F j := by
      intro j hj
      rw [List.getD_eq_getElem?_getD, List.getElem?_eq_getElem (by simpa using hj)]
      simp
    refine ⟨(List.range len).map F, rws_of (by omega) (by decide) (fun j hj => rfl) (fun j hj => Dv.enc_one _) (fun j hj i v hv => ?_), by simp, hl, fun p hp => ?_⟩
    · unfold Dv.rowR at hv
      rw [hg j hj] at hv
      exact (hF j hj).1 i v hv
    · obtain ⟨j, hj, rfl⟩ := List.mem_map.1 hp
      exact (hF j (by simpa using hj)).2
end
theorem strs_of_row {w : World} {x : Addr} {len cap : Nat} {zs : List ByteArray} (hl : len ≤ cap) (hm : cap ≤ maxLen) (hz : len ≤ zs.length) (hc : ∀ i, i < zs.length → w.cell? (x.add i) = some (.string (zs.getD i ByteArray.empty))) (hw : ∀ s ∈ zs, s.size ≤ maxLen) :
    Strs w (some x) len (zs.take len) := by
  unfold maxLen at hm hw
  refine ⟨by rw [List.length_take]; omega, by omega, fun s hs => by have := hw s (List.mem_of_mem_take hs); omega, fun h0 => ?_⟩
  obtain ⟨b, off, s⟩ := x
  have hf := hc 0 (by omega)
  have hs : s = none := by simpa [Addr.add] using World.cell?_spot hf
  subst hs
  · refine ⟨b, off, rfl, World.block_lt_of_cell? w _ hf, fun i hi => ?_⟩
    have := hc i (by omega)
    rw [Addr.add_lit] at this
    rw [this, List.getD_eq_getElem?_getD, List.getD_eq_getElem?_getD, List.getElem?_take, if_pos hi]
theorem cells24 : Try.prog.cellsOf 24 = 4 := by kernel_rfl
theorem cells26 : Try.prog.cellsOf 26 = 2 := by kernel_rfl
theorem cells42 : Try.prog.cellsOf 42 = 2 := by kernel_rfl
theorem cells68 : Try.prog.cellsOf 68 = 4 := by kernel_rfl
section
variable {H : Type} {en : TypeId × Value → H} {w : World} {base : Nat} {spare : Nat → Bool} {held : Bool}
theorem slice_shape {t e : TypeId} {fuel : Nat} {c : Value} {x : DataW H × List MemPlace} (hu : Try.prog.underlying t = some (.slice e)) (h : DataW.trod en Try.prog w base spare held fuel t [c] = some x) : ∃ A n m, c = .slice A n m := by
  rcases Go.Deep.open_slice hu h with ⟨hcs, _⟩ | ⟨a, l, c', m, n, D, Pl, hcs, _⟩
  · exact ⟨none, 0, 0, by simpa using hcs⟩
  · exact ⟨_, _, _, by simpa using hcs⟩
theorem kd_one (k : Kd) : ∀ u ∈ kC k, u.oneCell' = true := by
  intro u hu
  simp only [kC, List.mem_cons, List.not_mem_nil, or_false] at hu
  rcases hu with rfl | rfl | rfl | rfl <;> rfl
theorem ses_open {fuel : Nat} {cs : List Value} {x : DataW H × List MemPlace} (hl : cs.length = 4) (h : DataW.trod en Try.prog w base spare held fuel 24 cs = some x) : ∃ (S : Ses) (A : Option Addr) (c : Nat), [.int .i64 S.id, .string S.rm, .int .i64 S.nx, .slice A S.l.length c] = cs ∧ Rcs w A S.l.length c S.l ∧ i64B S.nx ∧ S.rm.size ≤ 9223372036854775807 := by
  match cs, hl, h with
  | [c0, c1, c2, c3], _, h =>
    obtain ⟨y0, y1, y2, y3, m, h0, h1, h2, h3⟩ := open_cells4 Try.underlying24 (by kernel_rfl) h
    obtain ⟨v0, e0, _, w0⟩ := DataW.trod_int Try.underlying3 h0
    obtain ⟨v1, e1, _, w1⟩ := DataW.trod_string Try.underlying9 h1
    unfold maxLen at w1
    obtain ⟨v2, e2, _, w2⟩ := DataW.trod_int Try.underlying3 h2
    have b2 := Go.bounds_i64 w2
    obtain ⟨A, n, c, rfl⟩ := slice_shape Try.underlying22 h3
    obtain ⟨zs, hz⟩ := open_rcs h3
    obtain rfl : zs.length = n := hz.len
    simp only [List.cons.injEq, and_true] at e0 e1 e2
    subst e0 e1 e2
    exact ⟨⟨v0, v1, v2, zs⟩, A, c, rfl, hz, b2, by omega⟩
theorem dev_open {fuel : Nat} {cs : List Value} {x : DataW H × List MemPlace} (hl : cs.length = 2) (h : DataW.trod en Try.prog w base spare held fuel 26 cs = some x) : ∃ u d : ByteArray, [.string u, .string d] = cs ∧ u.size ≤ 9223372036854775807 ∧ d.size ≤ 9223372036854775807 := by
  match cs, hl, h with
  | [c0, c1], _, h =>
    obtain ⟨y0, y1, m, h0, h1⟩ := open_cells2 Try.underlying26 (by kernel_rfl) h
    obtain ⟨v0, e0, _, w0⟩ := DataW.trod_string Try.underlying9 h0
    unfold maxLen at w0
    obtain ⟨v1, e1, _, w1⟩ := DataW.trod_string Try.underlying9 h1
    unfold maxLen at w1
    simp only [List.cons.injEq, and_true] at e0 e1
    subst e0 e1
    exact ⟨v0, v1, rfl, by omega, by omega⟩
theorem key_open {fuel : Nat} {cs : List Value} {x : DataW H × List MemPlace} (hl : cs.length = 4) (h : DataW.trod en Try.prog w base spare held fuel 68 cs = some x) : ∃ k : Kd, kC k = cs ∧ Dv.Rcs w k.A k.n k.c k.ds := by
  match cs, hl, h with
  | [c0, c1, c2, c3], _, h =>
    obtain ⟨y0, y1, y2, y3, m, h0, h1, h2, h3⟩ := open_cells4 Try.underlying68 (by kernel_rfl) h
    obtain ⟨v0, e0, _, w0⟩ := DataW.trod_string Try.underlying9 h0
    obtain ⟨v1, e1, _, w1⟩ := DataW.trod_int Try.underlying3 h1
    obtain ⟨v2, e2, _, w2⟩ := DataW.trod_int Try.underlying3 h2
    obtain ⟨A, n, c, rfl⟩ := slice_shape Try.underlying66 h3
    obtain ⟨zs, hz⟩ := open_dvs h3
    simp only [List.cons.injEq, and_true] at e0 e1 e2
    subst e0 e1 e2
    exact ⟨⟨v0, v1, v2, A, n, c, zs⟩, rfl, hz⟩
theorem open_kys {fuel : Nat} {A : Option Addr} {len cap : Nat} {x : DataW H × List MemPlace} (h : DataW.trod en Try.prog w base spare held fuel 36 [.slice A len cap] = some x) : ∃ K : Nat → Kd, Kys w A len K ∧ len ≤ cap := by
  rcases Go.Deep.open_slice Try.underlying36 h with ⟨hcs, _⟩ | ⟨a, l, c, m, n, D, Pl, hcs, hb, hl, hm, hmm, hx, hi⟩
  · simp at hcs
    obtain ⟨rfl, rfl, rfl⟩ := hcs
    exact ⟨fun _ => ⟨⟨#[]⟩, 0, 0, none, 0, 0, []⟩, ⟨Nat.zero_le _, fun h => by omega, fun j hj => by omega⟩, Nat.le_refl _⟩
  · simp at hcs
    obtain ⟨rfl, rfl, rfl⟩ := hcs
    have hlm : len ≤ m := by rw [hmm]; split <;> omega
    have each : ∀ i, i < len → ∃ e : Kd, (∀ k v, (kC e)[k]? = some v → w.cell? (a.add (i * 4 + k)) = some v) ∧ Dv.Rcs w e.A e.n e.c e.ds := by
      intro i hil
      obtain ⟨cs', h1, h2⟩ := hi i (by omega)
      rw [cells68] at h1
      obtain ⟨_, hlen, hcell⟩ := World.cells?_some h1
      obtain ⟨e, he, hf⟩ := key_open hlen h2
      refine ⟨e, fun k v hv => ?_, hf⟩
      have hv' : cs'[k]? = some v := by rw [← he]; exact hv
      have hk : k < 4 := by rw [← hlen]; exact (List.getElem?_eq_some_iff.1 hv').1
      rw [← Go.Deep.add_add, hcell k hk]
      exact hv'
    obtain ⟨F, hF⟩ := choose_below (⟨⟨#[]⟩, 0, 0, none, 0, 0, []⟩ : Kd) each
    have hr : Rws w (some a) len cap 4 (fun j => kC (F j)) := rws_of (by omega) (by decide) (fun j hj => rfl) (fun j hj => kd_one _) (fun j hj i v hv => (hF j hj).1 i v hv)
    refine ⟨F, ⟨hr.big, fun h0 => ?_, fun j hj => (hF j hj).2⟩, hl⟩
    obtain ⟨b, off, e, hlt, hc⟩ := hr.at_.resolve_left (by omega)
    exact ⟨b, off, e, hlt, fun j hj k v hv => hc j hj k v hv⟩
theorem open_strsL {fuel : Nat} {A : Option Addr} {len cap : Nat} {x : DataW H × List MemPlace} (h : DataW.trod en Try.prog w base spare held fuel 35 [.slice A len cap] = some x) : ∃ zs, Strs w A len zs ∧ len ≤ cap := by
  rcases open_strings Try.underlying35 Try.underlying9 (by kernel_rfl) h with ⟨hcs, _⟩ | ⟨x, l, c, zs, hcs, _, hl, hm, hz, _, hcell, hwz⟩
  · simp at hcs
    obtain ⟨rfl, rfl, rfl⟩ := hcs
    exact ⟨[], ⟨rfl, by omega, by simp, by omega⟩, Nat.le_refl _⟩
  · simp at hcs
    obtain ⟨rfl, rfl, rfl⟩ := hcs
    exact ⟨zs.take len, strs_of_row hl hm (by rw [hz]; split <;> omega) hcell hwz, hl⟩
theorem grp_open {fuel : Nat} {cs : List Value} {x : DataW H × List MemPlace} (hl : cs.length = 2) (h : DataW.trod en Try.prog w base spare held fuel 42 cs = some x) : ∃ (A1 : Option Addr) (n1 c1 : Nat) (ms : List ByteArray) (A : Option Addr) (n c : Nat) (K : Nat → Kd), [.slice A1 n1 c1, .slice A n c] = cs ∧ Strs w A1 n1 ms ∧ n1 ≤ c1 ∧ Kys w A n K ∧ n ≤ c := by
  match cs, hl, h with
  | [c0, c1], _, h =>
    obtain ⟨y0, y1, m, h0, h1⟩ := open_cells2 Try.underlying42 (by kernel_rfl) h
    obtain ⟨A1, n1, c1, rfl⟩ := slice_shape Try.underlying35 h0
    obtain ⟨A, n, c, rfl⟩ := slice_shape Try.underlying36 h1
    obtain ⟨ms, hm, hc1⟩ := open_strsL h0
    obtain ⟨K, hK, hc⟩ := open_kys h1
    exact ⟨A1, n1, c1, ms, A, n, c, K, rfl, hm, hc1, hK, hc⟩
end
end Go.Proofs.Ytbkchcpfnoclhaa
