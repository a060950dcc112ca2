/- Sessions: Stale, Wants of the reference. Bounds: as holders; at most 900000 shares. -/
import Derived.Test.YtbkchcpfnoclhaaGreatV12
namespace Go.Proofs.YtbkchcpfnoclhaaGreat
set_option maxRecDepth 100000
open Go Go.RowKit
set_option linter.unusedVariables false
set_option linter.unusedSimpArgs false
set_option maxRecDepth 100000

theorem alloc55 (w : World) : (Instr.alloc 36 true (.tuple #[])).run Tryz.prog w = .ok (.pointer (some ⟨w.heap.size, 0, none⟩)) (w.alloc (.cells ([.string ⟨#[]⟩, .string ⟨#[]⟩, .int .i64 0] : List Value).toArray 36)) := by kernel_rfl
theorem smH_pair (u d : ByteArray) (p : Rc) : smH u d p = decide ((p.us, p.dv) = (u, d)) := by
  unfold smH
  rw [Bool.eq_iff_iff]
  simp [Prod.ext_iff]
theorem shP_hsS (u d : ByteArray) (l : List Rc) : (shP u d l).2 = hsS l (u, d) := by
  rw [shP_any]
  unfold hsS
  congr 1
  funext p
  exact smH_pair u d p
theorem shP_hsH (u d : ByteArray) (hl : List Hd.Rc) (ix : Int) : (shP u d (shL hl ix)).2 = hsH hl (u, d) := by
  rw [shP_any]
  unfold hsH shL
  rw [List.any_map]
  congr 1
  funext p
  exact smH_pair u d ⟨p.us, p.dv, ix⟩
theorem shL_at {hl : List Hd.Rc} {ix : Int} {k : Nat} (hk : k < hl.length) : (shL hl ix).getD k t0 = ⟨(hl.getD k Hd.t0).us, (hl.getD k Hd.t0).dv, ix⟩ := by
  unfold shL
  rw [getD_at (by rw [List.length_map]; exact hk), Hd.getD_at hk, List.getElem_map]
theorem shL_len (hl : List Hd.Rc) (ix : Int) : (shL hl ix).length = hl.length := by unfold shL; rw [List.length_map]
theorem stl_no {l : List Rc} {hl : List Hd.Rc} (h : ∀ j, j < l.length → hsH hl ((l.getD j t0).us, (l.getD j t0).dv) = true) : stlB l hl = false := by
  unfold stlB
  refine List.any_eq_false.2 (fun p hp => ?_)
  obtain ⟨j, hj, rfl⟩ := List.mem_iff_getElem.1 hp
  have := h j hj
  rw [getD_at hj] at this
  rw [this]
  simp
theorem stl_yes {l : List Rc} {hl : List Hd.Rc} {k : Nat} (hk : k < l.length) (h : hsH hl ((l.getD k t0).us, (l.getD k t0).dv) = false) : stlB l hl = true := by
  unfold stlB
  rw [getD_at hk] at h
  exact List.any_eq_true.2 ⟨_, List.getElem_mem hk, by rw [h]; rfl⟩
theorem rg_below {w w1 : World} {b o : Nat} {vs : List Value} (h : World.rangeAt w b o vs) (hl : b < w.heap.size) (hb : Below w.heap.size w w1) : World.rangeAt w1 b o vs := fun i v hv => (hb.cell (p := ⟨b, _, none⟩) hl).trans (h i v hv)
end Go.Proofs.YtbkchcpfnoclhaaGreat
