/- Slices of structs that came in, as rows. No condition on the program. -/
import Derived.Test.YtbkchcpfnoclhaaGreatG3
import Derived.Deep.SlicePairs
import Derived.ChangeSame
import Derived.SliceStrings
namespace Go.Proofs.YtbkchcpfnoclhaaGreat
open Go.RowKit Go.ChangeShapes Go.WideShapes
set_option linter.unusedVariables false

theorem rws_of {w : World} {a : Addr} {len cap sz : Nat} {L : Nat → List Value} (hm : len ≤ maxLen) (hsz : 0 < sz) (hl : ∀ j, j < len → (L j).length = sz) (h1 : ∀ j, j < len → ∀ u ∈ L j, u.oneCell' = true)
    (hc : ∀ j, j < len → ∀ i v, (L j)[i]? = some v → w.cell? (a.add (j * sz + i)) = some v) : Rws w (some a) len cap sz L := by
  refine ⟨hl, h1, hm, (fun h => by cases h), ?_⟩
  rcases Nat.eq_zero_or_pos len with h0 | h0
  · exact .inl h0
  · right
    obtain ⟨b, off, sp⟩ := a
    have hg : (L 0)[0]? = some ((L 0)[0]'(by rw [hl 0 h0]; exact hsz)) := List.getElem?_eq_getElem _
    have hf := hc 0 h0 0 _ hg
    have hsp : sp = none := by simpa [Addr.add] using World.cell?_spot hf
    subst hsp
    rw [Addr.add_lit] at hf
    refine ⟨b, off, rfl, World.block_lt_of_cell? w _ hf, fun j hj i v hv => ?_⟩
    have := hc j hj i v hv
    rw [Addr.add_lit, ← Nat.add_assoc] at this
    exact this
section
variable {H : Type} {en : TypeId × Value → H} {P : Program} {w : World} {base : Nat} {spare : Nat → Bool} {held : Bool}
theorem choose_below {α : Type} {p : Nat → α → Prop} {n : Nat} (d : α) (h : ∀ i, i < n → ∃ a, p i a) : ∃ F : Nat → α, ∀ i, i < n → p i (F i) :=
  ⟨fun i => if hi : i < n then Classical.choose (h i hi) else d, fun i hi => by simp only [hi, dif_pos]; exact Classical.choose_spec (h i hi)⟩
/-- A slice of structs of a string and an integer. -/
theorem open_rows_si {t e : TypeId} {f0 f1 : Field} {k : IntKind} {fuel : Nat} {A : Option Addr} {len cap : Nat} {x : DataW H × List MemPlace} (ht : P.underlying t = some (.slice e)) (he : P.underlying e = some (.struct #[f0, f1]))
    (ce : P.cellsOf e = 2) (o0 : f0.offset = 0) (o1 : f1.offset = 1) (c0 : P.cellsOf f0.type = 1) (c1 : P.cellsOf f1.type = 1) (u0 : P.underlying f0.type = some .string) (u1 : P.underlying f1.type = some (.int k))
    (h : DataW.trod en P w base spare held fuel t [.slice A len cap] = some x) :
    ∃ U : Nat → ByteArray × Int, Rws w A len cap 2 (fun j => [.string (U j).1, .int k (U j).2]) ∧ ∀ j, j < len → (U j).1.size ≤ maxLen ∧ (Lit.int k (U j).2).wf = true := by
  rcases Go.Deep.open_slice_pairs ht he ce o0 o1 c0 c1 h with ⟨hcs, _⟩ | ⟨a, l, c, m, n, V0, V1, D0, D1, P0, P1, hcs, _, hl, hm, hmm, _, hx⟩
  · simp at hcs
    obtain ⟨rfl, rfl, rfl⟩ := hcs
    exact ⟨fun _ => (⟨#[]⟩, 0), Rws.zero _ _ _ _ _ (fun _ => rfl), fun j hj => absurd hj (Nat.not_lt_zero _)⟩
  · simp at hcs
    obtain ⟨rfl, rfl, rfl⟩ := hcs
    have hlm : len ≤ m := by rw [hmm]; split <;> omega
    obtain ⟨U, hU⟩ := choose_below (n := len) (p := fun i (q : ByteArray × Int) => V0 i = .string q.1 ∧ V1 i = .int k q.2 ∧ q.1.size ≤ maxLen ∧ (Lit.int k q.2).wf = true) (⟨#[]⟩, 0) (fun i hi => by
      obtain ⟨_, _, h3, h4⟩ := hx i (by omega)
      obtain ⟨s, e1, _, w1⟩ := DataW.trod_string u0 h3
      obtain ⟨z, e2, _, w2⟩ := DataW.trod_int u1 h4
      exact ⟨(s, z), by simpa using e1, by simpa using e2, w1, w2⟩)
    refine ⟨U, rws_of (by omega) (by decide) (fun j hj => rfl) (fun j hj u hu => by simp at hu; rcases hu with rfl | rfl <;> rfl) (fun j hj i v hv => ?_), fun j hj => (hU j hj).2.2⟩
    obtain ⟨h1, h2, _, _⟩ := hx j (by omega)
    match i, hv with
    | 0, hv => simp at hv; rw [← hv, ← (hU j hj).1]; exact h1
    | 1, hv => simp at hv; rw [← hv, ← (hU j hj).2.1]; exact h2
/-- A slice of structs of two integers. -/
theorem open_rows_ii {t e : TypeId} {f0 f1 : Field} {k k' : IntKind} {fuel : Nat} {A : Option Addr} {len cap : Nat} {x : DataW H × List MemPlace} (ht : P.underlying t = some (.slice e)) (he : P.underlying e = some (.struct #[f0, f1]))
    (ce : P.cellsOf e = 2) (o0 : f0.offset = 0) (o1 : f1.offset = 1) (c0 : P.cellsOf f0.type = 1) (c1 : P.cellsOf f1.type = 1) (u0 : P.underlying f0.type = some (.int k')) (u1 : P.underlying f1.type = some (.int k))
    (h : DataW.trod en P w base spare held fuel t [.slice A len cap] = some x) :
    ∃ U : Nat → Int × Int, Rws w A len cap 2 (fun j => [.int k' (U j).1, .int k (U j).2]) ∧ ∀ j, j < len → (Lit.int k' (U j).1).wf = true ∧ (Lit.int k (U j).2).wf = true := by
  rcases Go.Deep.open_slice_pairs ht he ce o0 o1 c0 c1 h with ⟨hcs, _⟩ | ⟨a, l, c, m, n, V0, V1, D0, D1, P0, P1, hcs, _, hl, hm, hmm, _, hx⟩
  · simp at hcs
    obtain ⟨rfl, rfl, rfl⟩ := hcs
    exact ⟨fun _ => (0, 0), Rws.zero _ _ _ _ _ (fun _ => rfl), fun j hj => absurd hj (Nat.not_lt_zero _)⟩
  · simp at hcs
    obtain ⟨rfl, rfl, rfl⟩ := hcs
    have hlm : len ≤ m := by rw [hmm]; split <;> omega
    obtain ⟨U, hU⟩ := choose_below (n := len) (p := fun i (q : Int × Int) => V0 i = .int k' q.1 ∧ V1 i = .int k q.2 ∧ (Lit.int k' q.1).wf = true ∧ (Lit.int k q.2).wf = true) (0, 0) (fun i hi => by
      obtain ⟨_, _, h3, h4⟩ := hx i (by omega)
      obtain ⟨s, e1, _, w1⟩ := DataW.trod_int u0 h3
      obtain ⟨z, e2, _, w2⟩ := DataW.trod_int u1 h4
      exact ⟨(s, z), by simpa using e1, by simpa using e2, w1, w2⟩)
    refine ⟨U, rws_of (by omega) (by decide) (fun j hj => rfl) (fun j hj u hu => by simp at hu; rcases hu with rfl | rfl <;> rfl) (fun j hj i v hv => ?_), fun j hj => (hU j hj).2.2⟩
    obtain ⟨h1, h2, _, _⟩ := hx j (by omega)
    match i, hv with
    | 0, hv => simp at hv; rw [← hv, ← (hU j hj).1]; exact h1
    | 1, hv => simp at hv; rw [← hv, ← (hU j hj).2.1]; exact h2
end
end Go.Proofs.YtbkchcpfnoclhaaGreat
