/- Sessions: share, Devices of the reference. Bounds: at most 1000 members, at most 900 devices each. -/
import Derived.Test.YtbkchcpfnoclhaaGreatV9
import Derived.Test.YtbkchcpfnoclhaaGreatIW13
namespace Go.Proofs.YtbkchcpfnoclhaaGreat
set_option maxRecDepth 100000
open Go Go.RowKit
set_option linter.unusedVariables false
set_option linter.unusedSimpArgs false
set_option maxRecDepth 100000

/-- The shares of holders, with an index. -/
def shL (hl : List Hd.Rc) (ix : Int) : List Rc := hl.map (fun h => ⟨h.us, h.dv, ix⟩)
theorem shL_want (hl : List Hd.Rc) (ix : Int) : wantL [] ix hl = shL hl ix := by
  unfold wantL shL
  congr 1
  exact List.filter_eq_self.2 (fun p hp => rfl)
/-- The shares of the first members. -/
def rkN (L : List ByteArray) (f : ByteArray → List ByteArray) (ix : Int) (k : Nat) : List Rc := (L.take k).flatMap (fun u => (nmB (f u)).map (fun d => ⟨u, d, ix⟩))
theorem rkN_succ {L : List ByteArray} {f : ByteArray → List ByteArray} {ix : Int} {k : Nat} (hk : k < L.length) : rkN L f ix (k + 1) = rkN L f ix k ++ (nmB (f (L.getD k ByteArray.empty))).map (fun d => ⟨L.getD k ByteArray.empty, d, ix⟩) := by
  unfold rkN
  rw [List.take_succ_eq_append_getElem hk, List.flatMap_append, List.getD_eq_getElem?_getD, List.getElem?_eq_getElem hk]
  simp
theorem rkN_all (ms : List ByteArray) (f : ByteArray → List ByteArray) (ix : Int) : rkN (nmB ms) f ix (nmB ms).length = shL (holdL ms f) ix := by
  unfold rkN shL holdL
  rw [List.take_length, List.map_flatMap]
  congr 1
  funext u
  rw [List.map_map]
  rfl
theorem rkN_len {L : List ByteArray} {f : ByteArray → List ByteArray} {ix : Int} (hf : ∀ u, (f u).length ≤ 900) : ∀ k, k ≤ L.length → (rkN L f ix k).length ≤ k * 900
  | 0, _ => by simp [rkN]
  | k + 1, h => by
    have h1 := rkN_len (L := L) (ix := ix) hf k (by omega)
    have h2 := hf (L.getD k ByteArray.empty)
    have h3 := nmB_len (f (L.getD k ByteArray.empty))
    rw [rkN_succ (by omega), List.length_append, List.length_map]
    omega
theorem rkN_fit {L : List ByteArray} {f : ByteArray → List ByteArray} {ix : Int} (h1 : ∀ u ∈ L, u.size ≤ 9223372036854775807) (h2 : ∀ u, ∀ d ∈ f u, d.size ≤ 9223372036854775807) (k : Nat) : ∀ p ∈ rkN L f ix k, fitR p := by
  intro p hp
  unfold rkN at hp
  obtain ⟨u, hu, hp⟩ := List.mem_flatMap.1 hp
  obtain ⟨d, hd, rfl⟩ := List.mem_map.1 hp
  exact ⟨h1 u (List.mem_of_mem_take hu), h2 u d ((mem_nmB _ _).1 hd)⟩
/-- The ids of devices, as texts. -/
def idT (ds : List Dv.Rc) : List I.Txt := ds.map (fun d => d.id.data.toList)
theorem idT_tx (ds : List Dv.Rc) : idT ds = tx (ds.map (·.id)) := by unfold idT tx; rw [List.map_map]; rfl
theorem idT_succ {ds : List Dv.Rc} {j : Nat} (h : j < ds.length) : ((idT ds).take (j + 1)).map encStr = ((idT ds).take j).map encStr ++ [.string (ds.getD j Dv.t0).id] := by
  unfold idT
  rw [List.take_succ_eq_append_getElem (by rw [List.length_map]; exact h), List.map_append, List.getElem_map, Dv.getD_at h]
  rfl
theorem gl_succ {t : ByteArray} {ns : List ByteArray} {ix : Int} {j : Nat} (h : j < ns.length) : (ns.map (fun d => (⟨t, d, ix⟩ : Rc))).take (j + 1) = (ns.map (fun d => (⟨t, d, ix⟩ : Rc))).take j ++ [⟨t, ns.getD j ByteArray.empty, ix⟩] := by
  rw [List.take_succ_eq_append_getElem (by rw [List.length_map]; exact h), List.getElem_map, List.getD_eq_getElem?_getD, List.getElem?_eq_getElem h]
  rfl
theorem str_one (w : World) (t : ByteArray) : Src (w.alloc (.cells #[.string t] 9)) (some ⟨w.heap.size, 0, none⟩) 1 1 1 [.string t] :=
  ⟨rfl, (fun e => by cases e), .inr ⟨w.heap.size, 0, rfl, by simp, fun j u hu => by rw [Nat.zero_add]; exact (blk_new w [.string t] 9).cell hu⟩, by simp [Value.oneCell']⟩
theorem kf_none {K : Nat → Kd} {n : Nat} {u : ByteArray} (h : ∀ j, j < n → ¬ (K j).us = u) : dvI K n u = [] := by unfold dvI; rw [kf_no h]
theorem kf_some {K : Nat → Kd} {n k : Nat} {u : ByteArray} (hk : k < n) (h : (K k).us = u) (hn : ∀ j, j < k → ¬ (K j).us = u) : dvI K n u = (K k).ds.map (·.id) := by unfold dvI; rw [kf_at hk h hn]
theorem nmB_nil : nmB [] = [] := List.eq_nil_of_length_eq_zero (Nat.le_zero.1 (nmB_len []))
end Go.Proofs.YtbkchcpfnoclhaaGreat
