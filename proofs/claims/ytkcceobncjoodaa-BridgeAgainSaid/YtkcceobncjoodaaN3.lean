/- Identities of other networks: Bind of the reference. Bound: at most 900000 ghosts with texts of at most 100000 bytes. -/
import Derived.Test.YtkcceobncjoodaaN2
namespace Go.Proofs.Ytkcceobncjoodaa
open Go.RowKit Go.Maps
set_option linter.unusedVariables false
set_option linter.unusedSimpArgs false

theorem run_fromA {A : Option Addr} {n c k : Nat} (hk : k ≤ n) (w : World) : (Instr.sliceAt 32 (.slice A n c) (some (.int .i64 (k : Int))) none none).run Try.prog w = .ok (.slice (if c = k then A else A.map (·.add (k * 3))) (n - k) (c - k)) w := by
  have hrun := run_slice_l (P := Try.prog) w 32 A n c under22 .i64 (k : Int) (by omega) (by omega)
  rw [size22e] at hrun
  rw [run_sliceAt_slice w 32 _ _ _ _ under22, hrun]
  rfl
theorem run_toA {A : Option Addr} {n c k : Nat} (hk : k ≤ c) (w : World) : (Instr.sliceAt 32 (.slice A n c) none (some (.int .i64 (k : Int))) none).run Try.prog w = .ok (.slice A k c) w := by
  have hrun := run_slice_h (P := Try.prog) w 32 A n c under22 .i64 (k : Int) (by omega) (by omega)
  rw [size22e] at hrun
  rw [run_sliceAt_slice w 32 _ _ _ _ under22, hrun]
  show Result.ok (sliced A 0 k c 3) w = _
  congr 1
  cases A <;> simp [sliced, Addr.add]
theorem bdx_same {w w' : World} {A : Option Addr} {n c : Nat} {zs : List Rc} {x : ByteArray} {X : List Rc × ByteArray × Int} (hX : X = (zs, x, 0)) (h : Rcs w' A n c zs) (hb : Below w.heap.size w w') : BdX w X (.returned (.tuple #[.slice A n c, .string x, .int .i64 0])) w' := by
  subst hX
  obtain rfl := h.len
  exact ⟨A, c, rfl, h, hb⟩
theorem one_src (w : World) (p : Rc) : Src (w.alloc (.cells #[.string p.nt, .string p.na, .string p.us] 59)) (some ⟨w.heap.size, 0, none⟩) 1 1 3 (enc p) := blk_src (blk_new w (enc p) 59)
theorem idm_none {zs : List Rc} {nt na : ByteArray} (h : idf zs nt na = none) : ∀ p ∈ zs, idm nt na p = false := by
  unfold idf at h
  rw [Option.map_eq_none_iff, List.find?_eq_none] at h
  exact fun p hp => by simpa using h p hp
theorem prec_flip {p : Rc} {nt na U : ByteArray} (h : idm nt na p = false) : prec ⟨nt, na, U⟩ p = !prec p ⟨nt, na, U⟩ := by
  have h2 := idm_and nt na p
  rw [h] at h2
  unfold prec
  simp only
  rcases tri3 p.nt.toList nt.toList with ⟨a, b, c, d⟩ | ⟨_, b, c, a, d⟩ | ⟨a, b, c, d⟩
  · rw [a, b, c, d]; rfl
  · rw [a, b, c, d]
    rw [b] at h2
    rcases tri3 p.na.toList na.toList with ⟨a', b', c', d'⟩ | ⟨_, b', c', a', d'⟩ | ⟨a', b', c', d'⟩
    · rw [a', d']; rfl
    · rw [b'] at h2; cases h2
    · rw [a', d']; rfl
  · rw [a, b, c, d]; rfl
theorem idx_stop {zs : List Rc} {nt na U : ByteArray} {i : Nat} (hn : ∀ p ∈ zs, idm nt na p = false) (hi : i ≤ zs.length) (h1 : ∀ j, j < i → prec (zs.getD j t0) ⟨nt, na, U⟩ = true) (h2 : i < zs.length → prec (zs.getD i t0) ⟨nt, na, U⟩ = false) : zs.findIdx (prec ⟨nt, na, U⟩) = i := by
  have hb : ∀ j, j < i → (hj : j < zs.length) → prec ⟨nt, na, U⟩ zs[j] = false := fun j hj hl => by
    rw [prec_flip (hn _ (List.getElem_mem _))]
    have := h1 j hj
    rw [getD_at hl] at this
    rw [this]; rfl
  rcases Nat.lt_or_ge i zs.length with hl | hl
  · refine (List.findIdx_eq hl).2 ⟨?_, fun j hj => hb j hj (by omega)⟩
    rw [prec_flip (hn _ (List.getElem_mem _))]
    have := h2 hl
    rw [getD_at hl] at this
    rw [this]; rfl
  · obtain rfl : i = zs.length := by omega
    refine List.findIdx_eq_length.2 fun x hx => ?_
    obtain ⟨j, hj, rfl⟩ := List.getElem_of_mem hx
    exact hb j hj hj
theorem own_belowR {w w' : World} {B : Nat} {v : Value} {n : Nat} {xs : List Value} (h : w.ownsRow B 59 3 v n xs) (hb : Below w.heap.size w w') : w'.ownsRow B 59 3 v n xs :=
  ⟨h.1, h.2.imp id fun ⟨g, cap, cur, e, hB, hg, r⟩ => ⟨g, cap, cur, e, hB, (hb.block g (Blk.lt (T := 59) (cs := cur.toList) ⟨by rw [Array.toArray_toList]; exact hg⟩)).trans hg, r⟩⟩
theorem rbd_end {w w' : World} {v : Value} {zs : List Rc} {nt na U : ByteArray} {X : List Rc × ByteArray × Int} {n i : Nat} (hX : X = (insQ (prec ⟨nt, na, U⟩) ⟨nt, na, U⟩ zs, U, 0)) (hl : zs.length = n) (hn : n ≤ 900000) (hi : i ≤ n) (hF : fitR ⟨nt, na, U⟩) (hfit : ∀ p ∈ zs, fitR p)
    (hid : ∀ p ∈ zs, idm nt na p = false) (h1 : ∀ j, j < i → prec (zs.getD j t0) ⟨nt, na, U⟩ = true) (h2 : i < zs.length → prec (zs.getD i t0) ⟨nt, na, U⟩ = false)
    (ho : w'.ownsRow w.heap.size 59 3 v (i + 1 + (n - i)) ((cl (zs.take i) ++ enc ⟨nt, na, U⟩) ++ cl (zs.drop i))) (hb : Below w.heap.size w w') :
    BdX w X (.returned (.tuple #[v, .string U, .int .i64 0])) w' := by
  subst hX
  obtain ⟨g, cap, cur, rfl, hgB, hgb, hncap, hcapm, hcl, htk⟩ := own_pos ho (by omega)
  have hlen : (zs.take i ++ (⟨nt, na, U⟩ : Rc) :: zs.drop i).length = i + 1 + (n - i) := by simp; omega
  have hI : insQ (prec ⟨nt, na, U⟩) ⟨nt, na, U⟩ zs = zs.take i ++ (⟨nt, na, U⟩ : Rc) :: zs.drop i := by
    unfold insQ
    rw [idx_stop hid (by omega) h1 h2]
  unfold BdX
  simp only
  rw [hI, hlen]
  refine ⟨some ⟨g, 0, none⟩, cap, rfl, ?_, hb⟩
  refine Rcs.ofBlk hgb (by rw [htk, cl_append, cl_cons, List.append_assoc]) hlen hncap (by omega) ?_
  intro q hq
  rcases List.mem_append.1 hq with hq | hq
  · exact hfit q (List.mem_of_mem_take hq)
  · rcases List.mem_cons.1 hq with rfl | hq
    · exact hF
    · exact hfit q (List.mem_of_mem_drop hq)
theorem fidx_some {zs : List Rc} {nt na x : ByteArray} (h : idf zs nt na = some x) : ∃ k, k < zs.length ∧ fidx (idm nt na) zs = (k : Int) ∧ (zs.getD k t0).us = x := by
  rcases fidx_cases (idm nt na) zs with ⟨_, h2⟩ | ⟨k, hk, h1, h2, h3⟩
  · rw [find_none h2] at h; cases h
  · rw [find_at hk h2 h3] at h
    exact ⟨k, hk, h1, by simpa using h⟩
theorem fidx_none {zs : List Rc} {nt na : ByteArray} (h : idf zs nt na = none) : fidx (idm nt na) zs = -1 := by
  refine fidx_no fun j hj => idm_none h _ ?_
  rw [getD_at hj]; exact List.getElem_mem _
end Go.Proofs.Ytkcceobncjoodaa
