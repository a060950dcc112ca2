/- An argument that is a state, opened. No condition. -/
import Derived.Test.YtbedibiodlgegaaK6
import Derived.Test.YtbedibiodlgegaaKO3
import Derived.ProofKit
import Derived.OpenShut
import Derived.Lib.SmallJoins
namespace Go.Proofs.Ytbedibiodlgegaa
open Go.ChangeShapes Go.WideShapes Go.ChangeAt Go.RowKit Go.Joins Go.Deep
set_option linter.unusedVariables false
set_option linter.unusedSimpArgs false
set_option maxRecDepth 100000

section
variable {H : Type} {en : TypeId × Value → H} {P : Program} {w : World} {base : Nat} {spare : Nat → Bool} {held : Bool}
theorem open_cells3 {t : TypeId} {f0 f1 f2 : Field} {c0 c1 c2 : Value} {fuel : Nat} {x : DataW H × List MemPlace} (hs : P.underlying t = some (.struct #[f0, f1, f2])) (hone : oneCellFields P #[f0, f1, f2] = true)
    (hf : DataW.trod en P w base spare held fuel t [c0, c1, c2] = some x) :
    ∃ (y0 y1 y2 : DataW H × List MemPlace) (n : Nat), DataW.trod en P w base spare held n f0.type [c0] = some y0 ∧ DataW.trod en P w base spare held n f1.type [c1] = some y1 ∧ DataW.trod en P w base spare held n f2.type [c2] = some y2 := by
  obtain ⟨xs, n, _, _, hl, hlen, hf⟩ := DataW.trod_struct hs hf
  match xs, hlen, hf with
  | [y0, y1, y2], _, hf =>
    have h0 := hf 0 f0 rfl
    have h1 := hf 1 f1 rfl
    have h2 := hf 2 f2 rfl
    obtain ⟨o0, k0⟩ := hone_of hone 0 f0 rfl
    obtain ⟨o1, k1⟩ := hone_of hone 1 f1 rfl
    obtain ⟨o2, k2⟩ := hone_of hone 2 f2 rfl
    exact ⟨y0, y1, y2, n, by simpa [Value.cells, o0, k0] using h0, by simpa [Value.cells, o1, k1] using h1, by simpa [Value.cells, o2, k2] using h2⟩
end
theorem cells56 : Try.prog.cellsOf 56 = 3 := by kernel_rfl
section
variable {H : Type} {en : TypeId × Value → H} {w : World} {base : Nat} {spare : Nat → Bool} {held : Bool}
theorem en_open {fuel : Nat} {cs : List Value} {x : DataW H × List MemPlace} (hl : cs.length = 3) (h : DataW.trod en Try.prog w base spare held fuel 56 cs = some x) : ∃ p : En.Rc, En.enc p = cs ∧ En.fitR p := by
  match cs, hl, h with
  | [c0, c1, c2], _, h =>
    obtain ⟨y0, y1, y2, m, h0, h1, h2⟩ := open_cells3 Try.underlying56 (by kernel_rfl) h
    obtain ⟨v0, e0, _, w0⟩ := DataW.trod_int Try.underlying22 h0
    have b0 := Go.bounds_i64 w0
    obtain ⟨v1, e1, _, w1⟩ := DataW.trod_string Try.underlying9 h1
    unfold maxLen at w1
    obtain ⟨v2, e2, _, w2⟩ := DataW.trod_int Try.underlying3 h2
    have b2 := Go.bounds_i64 w2
    simp only [List.cons.injEq, and_true] at e0 e1 e2
    subst e0 e1 e2
    exact ⟨⟨v0, v1, v2⟩, rfl, w1⟩
theorem open_ens {fuel : Nat} {A : Option Addr} {len cap : Nat} {x : DataW H × List MemPlace} (h : DataW.trod en Try.prog w base spare held fuel 40 [.slice A len cap] = some x) : ∃ zs : List En.Rc, En.Rcs w A len cap zs := by
  rcases Go.Deep.open_slice Try.underlying40 h with ⟨hcs, _⟩ | ⟨a, l, c, m, n, D, Pl, hcs, hb, hl, hm, hmm, hx, hi⟩
  · simp at hcs
    obtain ⟨rfl, rfl, rfl⟩ := hcs
    exact ⟨[], En.Rcs.nil w⟩
  · simp at hcs
    obtain ⟨rfl, rfl, rfl⟩ := hcs
    have hlm : len ≤ m := by rw [hmm]; split <;> omega
    have each : ∀ i, i < len → ∃ e : En.Rc, (∀ k v, (En.enc e)[k]? = some v → w.cell? (a.add (i * 3 + k)) = some v) ∧ En.fitR e := by
      intro i hil
      obtain ⟨cs', h1, h2⟩ := hi i (by omega)
      rw [cells56] at h1
      obtain ⟨_, hlen, hcell⟩ := World.cells?_some h1
      obtain ⟨e, he, hf⟩ := en_open hlen h2
      refine ⟨e, fun k v hv => ?_, hf⟩
      have hv' : cs'[k]? = some v := by rw [← he]; exact hv
      have hk : k < 3 := by rw [← hlen]; exact (List.getElem?_eq_some_iff.1 hv').1
      rw [← Go.Deep.add_add, hcell k hk]
      exact hv'
    obtain ⟨F, hF⟩ := choose_below En.t0 each
    have hg : ∀ j, j < len → ((List.range len).map F).getD j En.t0 = F j := by
      intro j hj
      rw [List.getD_eq_getElem?_getD, List.getElem?_eq_getElem (by simpa using hj)]
      simp
    refine ⟨(List.range len).map F, rws_of (by omega) (by decide) (fun j hj => rfl) (fun j hj => En.enc_one _) (fun j hj i v hv => ?_), by simp, hl, fun p hp => ?_⟩
    · unfold En.rowR at hv
      rw [hg j hj] at hv
      exact (hF j hj).1 i v hv
    · obtain ⟨j, hj, rfl⟩ := List.mem_map.1 hp
      exact (hF j (by simpa using hj)).2
end
def toK (p : En.Rc) : Ky.Rc := ⟨p.k, p.key, p.id⟩
theorem enR_of {w : World} {A : Option Addr} {n c : Nat} {zs : List En.Rc} (h : En.Rcs w A n c zs) : EnR w A n c (zs.map toK) := by
  show En.Rcs w A n c ((zs.map toK).map toE)
  rw [List.map_map, show toE ∘ toK = id from rfl, List.map_id]
  exact h
end Go.Proofs.Ytbedibiodlgegaa
