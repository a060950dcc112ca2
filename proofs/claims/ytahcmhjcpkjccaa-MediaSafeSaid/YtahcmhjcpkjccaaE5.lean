/- Media: a list of requests, opened and read. No condition. -/
import Derived.Test.YtahcmhjcpkjccaaO2
namespace Go.Proofs.Ytahcmhjcpkjccaa
open Go.ChangeShapes Go.WideShapes Go.ChangeAt Go.RowKit Go.Joins Go.Deep
set_option linter.unusedVariables false

@[ext] structure Ak where
  ow : ByteArray
  sv : ByteArray
  nm : ByteArray
  sz : Int
  nw : Int
def ak0 : Ak := ⟨⟨#[]⟩, ⟨#[]⟩, ⟨#[]⟩, 0, 0⟩
def encA (p : Ak) : List Value := [.string p.ow, .string p.sv, .string p.nm, .int .i64 p.sz, .int .i64 p.nw]
theorem encA_one (p : Ak) : ∀ u ∈ encA p, u.oneCell' = true := by
  intro u hu
  simp only [encA, List.mem_cons, List.not_mem_nil, or_false] at hu
  rcases hu with rfl | rfl | rfl | rfl | rfl <;> rfl
def fitA (p : Ak) : Prop := p.sv.size ≤ 9223372036854775807 ∧ p.nm.size ≤ 9223372036854775807 ∧ p.nw ≤ 9223372036854775807
/-- The slice at A has n requests, which are zs. -/
structure Aks (w : World) (A : Option Addr) (n c : Nat) (zs : List Ak) : Prop where
  rws : Rws w A n c 5 (fun j => encA (zs.getD j ak0))
  len : zs.length = n
  fit : ∀ p ∈ zs, fitA p
theorem Aks.below {w w1 : World} {A : Option Addr} {n c : Nat} {zs : List Ak} (h : Aks w A n c zs) (hb : Below w.heap.size w w1) : Aks w1 A n c zs := ⟨h.rws.below hb, h.len, h.fit⟩
theorem Aks.at_ {w : World} {A : Option Addr} {n c : Nat} {zs : List Ak} (h : Aks w A n c zs) {k : Nat} (hk : k < n) :
    ∃ b off, A = some ⟨b, off, none⟩ ∧ w.cell? ⟨b, off + k * 5, none⟩ = some (.string (zs.getD k ak0).ow) ∧ w.cell? ⟨b, off + k * 5 + 1, none⟩ = some (.string (zs.getD k ak0).sv) ∧ w.cell? ⟨b, off + k * 5 + 2, none⟩ = some (.string (zs.getD k ak0).nm) ∧ w.cell? ⟨b, off + k * 5 + 3, none⟩ = some (.int .i64 (zs.getD k ak0).sz) ∧ w.cell? ⟨b, off + k * 5 + 4, none⟩ = some (.int .i64 (zs.getD k ak0).nw) ∧ fitA (zs.getD k ak0) := by
  obtain ⟨b, off, e, hlt, hr⟩ := h.rws.get hk
  refine ⟨b, off, e, hr 0 _ rfl, hr 1 _ rfl, hr 2 _ rfl, hr 3 _ rfl, hr 4 _ rfl, h.fit _ ?_⟩
  rw [List.getD_eq_getElem?_getD, List.getElem?_eq_getElem (by rw [h.len]; exact hk)]
  exact List.getElem_mem _
section
variable {H : Type} {en : TypeId × Value → H} {w : World} {base : Nat} {spare : Nat → Bool} {held : Bool}
theorem ak_open {fuel : Nat} {cs : List Value} {x : DataW H × List MemPlace} (hl : cs.length = 5) (h : DataW.trod en Try.prog w base spare held fuel 40 cs = some x) : ∃ p : Ak, encA p = cs ∧ fitA p := by
  match cs, hl, h with
  | [c0, c1, c2, c3, c4], _, h =>
    obtain ⟨y0, y1, y2, y3, y4, m, h0, h1, h2, h3, h4⟩ := open_cells5 Try.underlying40 (by kernel_rfl) h
    obtain ⟨s0, e0, _, _⟩ := DataW.trod_string Try.underlying9 h0
    obtain ⟨s1, e1, _, w1⟩ := DataW.trod_string Try.underlying9 h1
    obtain ⟨s2, e2, _, w2⟩ := DataW.trod_string Try.underlying9 h2
    obtain ⟨z3, e3, _, _⟩ := DataW.trod_int Try.underlying3 h3
    obtain ⟨z4, e4, _, w4⟩ := DataW.trod_int Try.underlying3 h4
    simp only [List.cons.injEq, and_true] at e0 e1 e2 e3 e4
    subst e0 e1 e2 e3 e4
    unfold maxLen at w1 w2
    have := (Go.bounds_i64 w4).2
    exact ⟨⟨s0, s1, s2, z3, z4⟩, rfl, by unfold fitA; simp only; omega⟩
theorem open_aks {fuel : Nat} {A : Option Addr} {len cap : Nat} {x : DataW H × List MemPlace} (h : DataW.trod en Try.prog w base spare held fuel 44 [.slice A len cap] = some x) : ∃ zs : List Ak, Aks w A len cap zs := by
  rcases Go.Deep.open_slice Try.underlying44 h with ⟨hcs, _⟩ | ⟨a, l, c, m, n, D, Pl, hcs, hb, hl, hm, hmm, hx, hi⟩
  · simp at hcs
    obtain ⟨rfl, rfl, rfl⟩ := hcs
    exact ⟨[], Rws.zero _ _ _ _ _ (fun _ => rfl), rfl, by simp⟩
  · simp at hcs
    obtain ⟨rfl, rfl, rfl⟩ := hcs
    have hlm : len ≤ m := by rw [hmm]; split <;> omega
    have each : ∀ i, i < len → ∃ e : Ak, (∀ k v, (encA e)[k]? = some v → w.cell? (a.add (i * 5 + k)) = some v) ∧ fitA e := by
      intro i hil
      obtain ⟨cs', h1, h2⟩ := hi i (by omega)
      rw [cells40] at h1
      obtain ⟨_, hlen, hcell⟩ := World.cells?_some h1
      obtain ⟨e, he, hf⟩ := ak_open hlen h2
      refine ⟨e, fun k v hv => ?_, hf⟩
      have hv' : cs'[k]? = some v := by rw [← he]; exact hv
      have hk : k < 5 := by rw [← hlen]; exact (List.getElem?_eq_some_iff.1 hv').1
      rw [← Go.Deep.add_add, hcell k hk]
      exact hv'
    obtain ⟨F, hF⟩ := choose_below ak0 each
    have hg : ∀ j, j < len → ((List.range len).map F).getD j ak0 = F j := by
      intro j hj
      rw [List.getD_eq_getElem?_getD, List.getElem?_eq_getElem (by simpa using hj)]
      simp
    refine ⟨(List.range len).map F, rws_of (by omega) (by decide) (fun j hj => rfl) (fun j hj => encA_one _) (fun j hj i v hv => ?_), by simp, fun p hp => ?_⟩
    · have hv' := hv
      rw [hg j hj] at hv'
      exact (hF j hj).1 i v hv'
    · obtain ⟨j, hj, rfl⟩ := List.mem_map.1 hp
      exact (hF j (by simpa using hj)).2
end
end Go.Proofs.Ytahcmhjcpkjccaa
