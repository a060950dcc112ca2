/- One-time keys: arguments opened: a list of entries, a list of steps. No condition. -/
import Derived.Test.YtkmocchikgmnbaaR1
import Derived.Test.YtkmocchikgmnbaaG6
import Derived.Lib.SmallJoins
import Derived.ProofKit
import Derived.OpenShut
namespace Go.Proofs.Ytkmocchikgmnbaa
open Go.ChangeShapes Go.WideShapes Go.ChangeAt Go.RowKit Go.Joins Go.Deep
set_option linter.unusedVariables false

section
variable {H : Type} {en : TypeId × Value → H} {P : Program} {w : World} {base : Nat} {spare : Nat → Bool} {held : Bool}
theorem open_cells2 {t : TypeId} {f0 f1 : Field} {c0 c1 : Value} {fuel : Nat} {x : DataW H × List MemPlace} (hs : P.underlying t = some (.struct #[f0, f1])) (hone : oneCellFields P #[f0, f1] = true)
    (hf : DataW.trod en P w base spare held fuel t [c0, c1] = some x) :
    ∃ (y0 y1 : DataW H × List MemPlace) (n : Nat), DataW.trod en P w base spare held n f0.type [c0] = some y0 ∧ DataW.trod en P w base spare held n f1.type [c1] = some y1 := by
  obtain ⟨xs, n, _, _, hl, hlen, hf⟩ := DataW.trod_struct hs hf
  match xs, hlen, hf with
  | [y0, y1], _, hf =>
    have h0 := hf 0 f0 rfl
    have h1 := hf 1 f1 rfl
    obtain ⟨o0, k0⟩ := hone_of hone 0 f0 rfl
    obtain ⟨o1, k1⟩ := hone_of hone 1 f1 rfl
    exact ⟨y0, y1, n, by simpa [Value.cells, o0, k0] using h0, by simpa [Value.cells, o1, k1] using h1⟩
theorem open_cells4 {t : TypeId} {f0 f1 f2 f3 : Field} {c0 c1 c2 c3 : Value} {fuel : Nat} {x : DataW H × List MemPlace} (hs : P.underlying t = some (.struct #[f0, f1, f2, f3])) (hone : oneCellFields P #[f0, f1, f2, f3] = true)
    (hf : DataW.trod en P w base spare held fuel t [c0, c1, c2, c3] = some x) :
    ∃ (y0 y1 y2 y3 : DataW H × List MemPlace) (n : Nat), DataW.trod en P w base spare held n f0.type [c0] = some y0 ∧ DataW.trod en P w base spare held n f1.type [c1] = some y1 ∧ DataW.trod en P w base spare held n f2.type [c2] = some y2 ∧ DataW.trod en P w base spare held n f3.type [c3] = some y3 := by
  obtain ⟨xs, n, _, _, hl, hlen, hf⟩ := DataW.trod_struct hs hf
  match xs, hlen, hf with
  | [y0, y1, y2, y3], _, hf =>
    have h0 := hf 0 f0 rfl
    have h1 := hf 1 f1 rfl
    have h2 := hf 2 f2 rfl
    have h3 := hf 3 f3 rfl
    obtain ⟨o0, k0⟩ := hone_of hone 0 f0 rfl
    obtain ⟨o1, k1⟩ := hone_of hone 1 f1 rfl
    obtain ⟨o2, k2⟩ := hone_of hone 2 f2 rfl
    obtain ⟨o3, k3⟩ := hone_of hone 3 f3 rfl
    exact ⟨y0, y1, y2, y3, n, by simpa [Value.cells, o0, k0] using h0, by simpa [Value.cells, o1, k1] using h1, by simpa [Value.cells, o2, k2] using h2, by simpa [Value.cells, o3, k3] using h3⟩
end
theorem cells45 : Try.prog.cellsOf 45 = 4 := by kernel_rfl
section
variable {H : Type} {en : TypeId × Value → H} {w : World} {base : Nat} {spare : Nat → Bool} {held : Bool}
theorem rc_open {fuel : Nat} {cs : List Value} {x : DataW H × List MemPlace} (hl : cs.length = 4) (h : DataW.trod en Try.prog w base spare held fuel 45 cs = some x) : ∃ p : Rc, enc p = cs ∧ fitR p := by
  match cs, hl, h with
  | [c0, c1, c2, c3], _, h =>
    obtain ⟨y0, y1, y2, y3, m, h0, h1, h2, h3⟩ := open_cells4 Try.underlying45 (by kernel_rfl) h
    obtain ⟨v0, e0, _, w0⟩ := DataW.trod_string Try.underlying9 h0
    unfold maxLen at w0
    obtain ⟨v1, e1, _, w1⟩ := DataW.trod_string Try.underlying9 h1
    unfold maxLen at w1
    obtain ⟨v2, e2, _, w2⟩ := DataW.trod_int Try.underlying3 h2
    have b2 := Go.bounds_i64 w2
    obtain ⟨v3, e3, _, w3⟩ := DataW.trod_int Try.underlying3 h3
    have b3 := Go.bounds_i64 w3
    simp only [List.cons.injEq, and_true] at e0 e1 e2 e3
    subst e0 e1 e2 e3
    exact ⟨⟨v0, v1, v2, v3⟩, rfl, by unfold fitR; simp only; omega⟩
theorem open_rcs {fuel : Nat} {A : Option Addr} {len cap : Nat} {x : DataW H × List MemPlace} (h : DataW.trod en Try.prog w base spare held fuel 22 [.slice A len cap] = some x) : ∃ zs : List Rc, Rcs w A len cap zs := by
  rcases Go.Deep.open_slice Try.underlying22 h with ⟨hcs, _⟩ | ⟨a, l, c, m, n, D, Pl, hcs, hb, hl, hm, hmm, hx, hi⟩
  · simp at hcs
    obtain ⟨rfl, rfl, rfl⟩ := hcs
    exact ⟨[], Rcs.nil w⟩
  · simp at hcs
    obtain ⟨rfl, rfl, rfl⟩ := hcs
    have hlm : len ≤ m := by rw [hmm]; split <;> omega
    have each : ∀ i, i < len → ∃ e : Rc, (∀ k v, (enc e)[k]? = some v → w.cell? (a.add (i * 4 + k)) = some v) ∧ fitR e := by
      intro i hil
      obtain ⟨cs', h1, h2⟩ := hi i (by omega)
      rw [cells45] at h1
      obtain ⟨_, hlen, hcell⟩ := World.cells?_some h1
      obtain ⟨e, he, hf⟩ := rc_open hlen h2
      refine ⟨e, fun k v hv => ?_, hf⟩
      have hv' : cs'[k]? = some v := by rw [← he]; exact hv
      have hk : k < 4 := by rw [← hlen]; exact (List.getElem?_eq_some_iff.1 hv').1
      rw [← Go.Deep.add_add, hcell k hk]
      exact hv'
    obtain ⟨F, hF⟩ := choose_below t0 each
    have hg : ∀ j, j < len → ((List.range len).map F).getD j t0 = F j := by
      intro j hj
      rw [List.getD_eq_getElem?_getD, List.getElem?_eq_getElem (by simpa using hj)]
      simp
    refine ⟨(List.range len).map F, rws_of (by omega) (by decide) (fun j hj => rfl) (fun j hj => enc_one _) (fun j hj i v hv => ?_), by simp, hl, fun p hp => ?_⟩
    · unfold rowR at hv
      rw [hg j hj] at hv
      exact (hF j hj).1 i v hv
    · obtain ⟨j, hj, rfl⟩ := List.mem_map.1 hp
      exact (hF j (by simpa using hj)).2
end
@[ext] structure Sp where
  o : Bool
  k : Int
def sp0 : Sp := ⟨false, 0⟩
def encP (p : Sp) : List Value := [.bool p.o, .int .i64 p.k]
theorem encP_one (p : Sp) : ∀ u ∈ encP p, u.oneCell' = true := by
  intro u hu
  simp only [encP, List.mem_cons, List.not_mem_nil, or_false] at hu
  rcases hu with rfl | rfl <;> rfl
def fitP (p : Sp) : Prop := -9223372036854775808 ≤ p.k ∧ p.k ≤ 9223372036854775807
def rowP (zs : List Sp) (j : Nat) : List Value := encP (zs.getD j sp0)
/-- The slice at A has n records, which are zs. -/
structure Sps (w : World) (A : Option Addr) (n c : Nat) (zs : List Sp) : Prop where
  rws : Rws w A n c 2 (rowP zs)
  len : zs.length = n
  cap : n ≤ c
  fit : ∀ p ∈ zs, fitP p
theorem Sps.below {w w1 : World} {A : Option Addr} {n c : Nat} {zs : List Sp} (h : Sps w A n c zs) (hb : Below w.heap.size w w1) : Sps w1 A n c zs := ⟨h.rws.below hb, h.len, h.cap, h.fit⟩
theorem Sps.nil (w : World) : Sps w none 0 0 [] := ⟨Rws.zero _ _ _ _ _ (fun _ => rfl), rfl, Nat.le_refl _, by simp⟩
theorem Sps.at_ {w : World} {A : Option Addr} {n c : Nat} {zs : List Sp} (h : Sps w A n c zs) {k : Nat} (hk : k < n) :
    ∃ b off, A = some ⟨b, off, none⟩ ∧ b < w.heap.size ∧ w.cell? ⟨b, off + k * 2, none⟩ = some (.bool (zs.getD k sp0).o) ∧ w.cell? ⟨b, off + k * 2 + 1, none⟩ = some (.int .i64 (zs.getD k sp0).k) ∧ fitP (zs.getD k sp0) := by
  obtain ⟨b, off, e, hlt, hr⟩ := h.rws.get hk
  refine ⟨b, off, e, hlt, hr 0 _ rfl, hr 1 _ rfl, h.fit _ ?_⟩
  rw [List.getD_eq_getElem?_getD, List.getElem?_eq_getElem (by rw [h.len]; exact hk)]
  exact List.getElem_mem _
theorem cells42 : Try.prog.cellsOf 42 = 2 := by kernel_rfl
section
variable {H : Type} {en : TypeId × Value → H} {w : World} {base : Nat} {spare : Nat → Bool} {held : Bool}
theorem sp_open {fuel : Nat} {cs : List Value} {x : DataW H × List MemPlace} (hl : cs.length = 2) (h : DataW.trod en Try.prog w base spare held fuel 42 cs = some x) : ∃ p : Sp, encP p = cs ∧ fitP p := by
  match cs, hl, h with
  | [c0, c1], _, h =>
    obtain ⟨y0, y1, m, h0, h1⟩ := open_cells2 Try.underlying42 (by kernel_rfl) h
    obtain ⟨v0, e0, _⟩ := DataW.trod_bool Try.underlying4 h0
    obtain ⟨v1, e1, _, w1⟩ := DataW.trod_int Try.underlying3 h1
    have b1 := Go.bounds_i64 w1
    simp only [List.cons.injEq, and_true] at e0 e1
    subst e0 e1
    exact ⟨⟨v0, v1⟩, rfl, by unfold fitP; simp only; omega⟩
theorem open_sps {fuel : Nat} {A : Option Addr} {len cap : Nat} {x : DataW H × List MemPlace} (h : DataW.trod en Try.prog w base spare held fuel 38 [.slice A len cap] = some x) : ∃ zs : List Sp, Sps w A len cap zs := by
  rcases Go.Deep.open_slice Try.underlying38 h with ⟨hcs, _⟩ | ⟨a, l, c, m, n, D, Pl, hcs, hb, hl, hm, hmm, hx, hi⟩
  · simp at hcs
    obtain ⟨rfl, rfl, rfl⟩ := hcs
    exact ⟨[], Sps.nil w⟩
  · simp at hcs
    obtain ⟨rfl, rfl, rfl⟩ := hcs
    have hlm : len ≤ m := by rw [hmm]; split <;> omega
    have each : ∀ i, i < len → ∃ e : Sp, (∀ k v, (encP e)[k]? = some v → w.cell? (a.add (i * 2 + k)) = some v) ∧ fitP e := by
      intro i hil
      obtain ⟨cs', h1, h2⟩ := hi i (by omega)
      rw [cells42] at h1
      obtain ⟨_, hlen, hcell⟩ := World.cells?_some h1
      obtain ⟨e, he, hf⟩ := sp_open hlen h2
      refine ⟨e, fun k v hv => ?_, hf⟩
      have hv' : cs'[k]? = some v := by rw [← he]; exact hv
      have hk : k < 2 := by rw [← hlen]; exact (List.getElem?_eq_some_iff.1 hv').1
      rw [← Go.Deep.add_add, hcell k hk]
      exact hv'
    obtain ⟨F, hF⟩ := choose_below sp0 each
    have hg : ∀ j, j < len → ((List.range len).map F).getD j sp0 = F j := by
      intro j hj
      rw [List.getD_eq_getElem?_getD, List.getElem?_eq_getElem (by simpa using hj)]
      simp
    refine ⟨(List.range len).map F, rws_of (by omega) (by decide) (fun j hj => rfl) (fun j hj => encP_one _) (fun j hj i v hv => ?_), by simp, hl, fun p hp => ?_⟩
    · unfold rowP at hv
      rw [hg j hj] at hv
      exact (hF j hj).1 i v hv
    · obtain ⟨j, hj, rfl⟩ := List.mem_map.1 hp
      exact (hF j (by simpa using hj)).2
end
theorem cells28 : Try.prog.cellsOf 28 = 2 := by kernel_rfl
end Go.Proofs.Ytkmocchikgmnbaa
