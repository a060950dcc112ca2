/- An argument that is a list of entries, or of steps, opened. No condition. -/
import Derived.Test.YtnhjbknhbeicfaaDoorW15
import Derived.Test.YtnhjbknhbeicfaaDoorG6
import Derived.Lib.SmallJoins
import Derived.ProofKit
import Derived.OpenShut
namespace Go.Proofs.YtnhjbknhbeicfaaDoor
open Go.ChangeShapes Go.WideShapes Go.ChangeAt Go.RowKit Go.Joins Go.Deep
set_option linter.unusedVariables false

/-- A step. -/
structure Sp where
  to : Int
  self : Bool
abbrev enc2 (e : Sp) : List Value := [.int .i64 e.to, .bool e.self]
def rowP (T : Nat → Sp) (j : Nat) : List Value := enc2 (T j)
structure Sts (w : World) (A : Option Addr) (m d : Nat) (T : Nat → Sp) : Prop where
  rws : Rws w A m d 2 (rowP T)
  fit : ∀ j, j < m → True
theorem Sts.below {w w1 : World} {A : Option Addr} {m d : Nat} {T : Nat → Sp} (h : Sts w A m d T) (hb : Below w.heap.size w w1) : Sts w1 A m d T := ⟨h.rws.below hb, h.fit⟩
theorem open_ens_one (e : En) : ∀ u ∈ enc3 e, u.oneCell' = true := by
  intro u hu
  simp only [enc3, List.mem_cons, List.not_mem_nil, or_false] at hu
  rcases hu with rfl | rfl | rfl <;> rfl
theorem open_sts_one (e : Sp) : ∀ u ∈ enc2 e, u.oneCell' = true := by
  intro u hu
  simp only [enc2, List.mem_cons, List.not_mem_nil, or_false] at hu
  rcases hu with rfl | rfl <;> rfl
theorem cells59 : Tryd.prog.cellsOf 59 = 3 := by kernel_rfl
theorem cells52 : Tryd.prog.cellsOf 52 = 2 := by kernel_rfl
section
variable {H : Type} {en : TypeId × Value → H} {P : Program} {w : World} {base : Nat} {spare : Nat → Bool} {held : Bool}
theorem open_cells3 {t : TypeId} {f0 f1 f2 : Field} {c0 c1 c2 : Value} {fuel : Nat} {x : DataW H × List MemPlace} (hs : P.underlying t = some (.struct #[f0, f1, f2])) (hone : oneCellFields P #[f0, f1, f2] = true)
    (hf : DataW.trod en P w base spare held fuel t [c0, c1, c2] = some x) :
    ∃ (y0 y1 y2 : DataW H × List MemPlace) (n : Nat), DataW.trod en P w base spare held n f0.type [c0] = some y0 ∧ DataW.trod en P w base spare held n f1.type [c1] = some y1 ∧ DataW.trod en P w base spare held n f2.type [c2] = some y2 := by
  obtain ⟨xs, n, _, _, hl, hlen, hf⟩ := DataW.trod_struct hs hf
  match xs, hlen, hf with
  | [y0, y1, y2], _, hf =>
    have h0 := hf 0 f0 rfl
    have h1 := hf 1 f1 rfl
    have h2 := hf 2 f2 rfl
    obtain ⟨o0, k0⟩ := hone_of hone 0 f0 rfl
    obtain ⟨o1, k1⟩ := hone_of hone 1 f1 rfl
    obtain ⟨o2, k2⟩ := hone_of hone 2 f2 rfl
    exact ⟨y0, y1, y2, n, by simpa [Value.cells, o0, k0] using h0, by simpa [Value.cells, o1, k1] using h1, by simpa [Value.cells, o2, k2] using h2⟩
theorem open_cells2s {t : TypeId} {f0 f1 : Field} {c0 c1 : Value} {fuel : Nat} {x : DataW H × List MemPlace} (hs : P.underlying t = some (.struct #[f0, f1])) (hone : oneCellFields P #[f0, f1] = true)
    (hf : DataW.trod en P w base spare held fuel t [c0, c1] = some x) :
    ∃ (y0 y1 : DataW H × List MemPlace) (n : Nat), DataW.trod en P w base spare held n f0.type [c0] = some y0 ∧ DataW.trod en P w base spare held n f1.type [c1] = some y1 := by
  obtain ⟨xs, n, _, _, hl, hlen, hf⟩ := DataW.trod_struct hs hf
  match xs, hlen, hf with
  | [y0, y1], _, hf =>
    have h0 := hf 0 f0 rfl
    have h1 := hf 1 f1 rfl
    obtain ⟨o0, k0⟩ := hone_of hone 0 f0 rfl
    obtain ⟨o1, k1⟩ := hone_of hone 1 f1 rfl
    exact ⟨y0, y1, n, by simpa [Value.cells, o0, k0] using h0, by simpa [Value.cells, o1, k1] using h1⟩
end
section
variable {H : Type} {en : TypeId × Value → H} {w : World} {base : Nat} {spare : Nat → Bool} {held : Bool}
theorem en_open {fuel : Nat} {cs : List Value} {x : DataW H × List MemPlace} (hl : cs.length = 3) (h : DataW.trod en Tryd.prog w base spare held fuel 59 cs = some x) : ∃ p : En, enc3 p = cs ∧ i64B p.id := by
  match cs, hl, h with
  | [c0, c1, c2], _, h =>
    obtain ⟨y0, y1, y2, m, h0, h1, h2⟩ := open_cells3 Tryd.underlying59 (by kernel_rfl) h
    obtain ⟨z0, e0, _, _⟩ := DataW.trod_int Tryd.underlying37 h0
    obtain ⟨s1, e1, _, _⟩ := DataW.trod_string Tryd.underlying9 h1
    obtain ⟨z2, e2, _, w2⟩ := DataW.trod_int Tryd.underlying3 h2
    simp only [List.cons.injEq, and_true] at e0 e1 e2
    subst e0 e1 e2
    have := bounds_i64 w2
    exact ⟨⟨z0, s1, z2⟩, rfl, by unfold i64B; simp only; omega⟩
theorem sp_open {fuel : Nat} {cs : List Value} {x : DataW H × List MemPlace} (hl : cs.length = 2) (h : DataW.trod en Tryd.prog w base spare held fuel 52 cs = some x) : ∃ p : Sp, enc2 p = cs ∧ True := by
  match cs, hl, h with
  | [c0, c1], _, h =>
    obtain ⟨y0, y1, m, h0, h1⟩ := open_cells2s Tryd.underlying52 (by kernel_rfl) h
    obtain ⟨z0, e0, _, _⟩ := DataW.trod_int Tryd.underlying3 h0
    obtain ⟨b1, e1, _⟩ := DataW.trod_bool Tryd.underlying4 h1
    simp only [List.cons.injEq, and_true] at e0 e1
    subst e0 e1
    exact ⟨⟨z0, b1⟩, rfl, trivial⟩
theorem open_ens {fuel : Nat} {A : Option Addr} {len cap : Nat} {x : DataW H × List MemPlace} (h : DataW.trod en Tryd.prog w base spare held fuel 34 [.slice A len cap] = some x) : ∃ F : Nat → En, Ens w A len cap F := by
  rcases Go.Deep.open_slice Tryd.underlying34 h with ⟨hcs, _⟩ | ⟨a, l, c, m, n, D, Pl, hcs, hb, hl, hm, hmm, hx, hi⟩
  · simp at hcs
    obtain ⟨rfl, rfl, rfl⟩ := hcs
    exact ⟨fun _ => ⟨0, ⟨#[]⟩, 0⟩, Rws.zero _ _ _ _ _ (fun _ => rfl), fun j hj => absurd hj (Nat.not_lt_zero _)⟩
  · simp at hcs
    obtain ⟨rfl, rfl, rfl⟩ := hcs
    have hlm : len ≤ m := by rw [hmm]; split <;> omega
    have each : ∀ i, i < len → ∃ e : En, (∀ k v, (enc3 e)[k]? = some v → w.cell? (a.add (i * 3 + k)) = some v) ∧ i64B e.id := by
      intro i hil
      obtain ⟨cs', h1, h2⟩ := hi i (by omega)
      rw [cells59] at h1
      obtain ⟨_, hlen, hcell⟩ := World.cells?_some h1
      obtain ⟨e, he, hf⟩ := en_open hlen h2
      refine ⟨e, fun k v hv => ?_, hf⟩
      have hv' : cs'[k]? = some v := by rw [← he]; exact hv
      have hk : k < 3 := by rw [← hlen]; exact (List.getElem?_eq_some_iff.1 hv').1
      rw [← Go.Deep.add_add, hcell k hk]
      exact hv'
    obtain ⟨F, hF⟩ := choose_below (⟨0, ⟨#[]⟩, 0⟩ : En) each
    exact ⟨F, rws_of (by omega) (by decide) (fun j hj => rfl) (fun j hj => open_ens_one _) (fun j hj i v hv => (hF j hj).1 i v hv), fun j hj => (hF j hj).2⟩
theorem open_sts {fuel : Nat} {A : Option Addr} {len cap : Nat} {x : DataW H × List MemPlace} (h : DataW.trod en Tryd.prog w base spare held fuel 50 [.slice A len cap] = some x) : ∃ F : Nat → Sp, Sts w A len cap F := by
  rcases Go.Deep.open_slice Tryd.underlying50 h with ⟨hcs, _⟩ | ⟨a, l, c, m, n, D, Pl, hcs, hb, hl, hm, hmm, hx, hi⟩
  · simp at hcs
    obtain ⟨rfl, rfl, rfl⟩ := hcs
    exact ⟨fun _ => ⟨0, false⟩, Rws.zero _ _ _ _ _ (fun _ => rfl), fun j hj => absurd hj (Nat.not_lt_zero _)⟩
  · simp at hcs
    obtain ⟨rfl, rfl, rfl⟩ := hcs
    have hlm : len ≤ m := by rw [hmm]; split <;> omega
    have each : ∀ i, i < len → ∃ e : Sp, (∀ k v, (enc2 e)[k]? = some v → w.cell? (a.add (i * 2 + k)) = some v) ∧ True := by
      intro i hil
      obtain ⟨cs', h1, h2⟩ := hi i (by omega)
      rw [cells52] at h1
      obtain ⟨_, hlen, hcell⟩ := World.cells?_some h1
      obtain ⟨e, he, hf⟩ := sp_open hlen h2
      refine ⟨e, fun k v hv => ?_, hf⟩
      have hv' : cs'[k]? = some v := by rw [← he]; exact hv
      have hk : k < 2 := by rw [← hlen]; exact (List.getElem?_eq_some_iff.1 hv').1
      rw [← Go.Deep.add_add, hcell k hk]
      exact hv'
    obtain ⟨F, hF⟩ := choose_below (⟨0, false⟩ : Sp) each
    exact ⟨F, rws_of (by omega) (by decide) (fun j hj => rfl) (fun j hj => open_sts_one _) (fun j hj i v hv => (hF j hj).1 i v hv), fun j hj => (hF j hj).2⟩
end
end Go.Proofs.YtnhjbknhbeicfaaDoor
