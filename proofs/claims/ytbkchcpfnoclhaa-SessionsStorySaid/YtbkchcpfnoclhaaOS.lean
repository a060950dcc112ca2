/- An argument that is a list of steps, opened. No condition. -/
import Derived.Test.YtbkchcpfnoclhaaOA
import Derived.Test.YtbkchcpfnoclhaaSp
namespace Go.Proofs.Ytbkchcpfnoclhaa
open Go.RowKit Go.ChangeShapes Go.WideShapes
set_option linter.unusedVariables false
set_option maxRecDepth 100000

theorem cells50 : Try.prog.cellsOf 50 = 3 := by kernel_rfl
theorem cells4 : Try.prog.cellsOf 4 = 1 := by kernel_rfl
section
variable {H : Type} {en : TypeId × Value → H} {w : World} {base : Nat} {spare : Nat → Bool} {held : Bool}
theorem sp_open {fuel : Nat} {cs : List Value} {x : DataW H × List MemPlace} (hl : cs.length = 3) (h : DataW.trod en Try.prog w base spare held fuel 50 cs = some x) : ∃ p : Sp.Rc, Sp.enc p = cs ∧ Sp.fitR p := by
  match cs, hl, h with
  | [c0, c1, c2], _, h =>
    obtain ⟨xs, n, _, _, hl, hlen, hf⟩ := DataW.trod_struct Try.underlying50 h
    match xs, hlen, hf with
    | [y0, y1], _, hf =>
      have h0 := hf 0 _ rfl
      have h1 := hf 1 _ rfl
      have h0' : DataW.trod en Try.prog w base spare held n 4 [c0] = some y0 := by simpa [cells4] using h0
      have h1' : DataW.trod en Try.prog w base spare held n 26 [c1, c2] = some y1 := by simpa [cells26] using h1
      obtain ⟨v0, e0, _⟩ := DataW.trod_bool Try.underlying4 h0'
      obtain ⟨u, d, e1, w1, w2⟩ := dev_open rfl h1'
      simp only [List.cons.injEq, and_true] at e0 e1
      obtain ⟨rfl, rfl⟩ := e1
      subst e0
      exact ⟨⟨v0, u, d⟩, rfl, ⟨w1, w2⟩⟩
theorem open_sps {fuel : Nat} {A : Option Addr} {len cap : Nat} {x : DataW H × List MemPlace} (h : DataW.trod en Try.prog w base spare held fuel 46 [.slice A len cap] = some x) : ∃ zs : List Sp.Rc, Sp.Rcs w A len cap zs := by
  rcases Go.Deep.open_slice Try.underlying46 h with ⟨hcs, _⟩ | ⟨a, l, c, m, n, D, Pl, hcs, hb, hl, hm, hmm, hx, hi⟩
  · simp at hcs
    obtain ⟨rfl, rfl, rfl⟩ := hcs
    exact ⟨[], Sp.Rcs.nil w⟩
  · simp at hcs
    obtain ⟨rfl, rfl, rfl⟩ := hcs
    have hlm : len ≤ m := by rw [hmm]; split <;> omega
    have each : ∀ i, i < len → ∃ e : Sp.Rc, (∀ k v, (Sp.enc e)[k]? = some v → w.cell? (a.add (i * 3 + k)) = some v) ∧ Sp.fitR e := by
      intro i hil
      obtain ⟨cs', h1, h2⟩ := hi i (by omega)
      rw [cells50] at h1
      obtain ⟨_, hlen, hcell⟩ := World.cells?_some h1
      obtain ⟨e, he, hf⟩ := sp_open hlen h2
      refine ⟨e, fun k v hv => ?_, hf⟩
      have hv' : cs'[k]? = some v := by rw [← he]; exact hv
      have hk : k < 3 := by rw [← hlen]; exact (List.getElem?_eq_some_iff.1 hv').1
      rw [← Go.Deep.add_add, hcell k hk]
      exact hv'
    obtain ⟨F, hF⟩ := choose_below Sp.t0 each
    have hg : ∀ j, j < len → ((List.range len).map F).getD j Sp.t0 = F j := by
      intro j hj
      rw [List.getD_eq_getElem?_getD, List.getElem?_eq_getElem (by simpa using hj)]
      simp
    refine ⟨(List.range len).map F, rws_of (by omega) (by decide) (fun j hj => rfl) (fun j hj => Sp.enc_one _) (fun j hj i v hv => ?_), by simp, hl, fun p hp => ?_⟩
    · unfold Sp.rowR at hv
      rw [hg j hj] at hv
      exact (hF j hj).1 i v hv
    · obtain ⟨j, hj, rfl⟩ := List.mem_map.1 hp
      exact (hF j (by simpa using hj)).2
end
end Go.Proofs.Ytbkchcpfnoclhaa
