/- Sessions: slices.SortFunc at holders. Bound: fewer than 2^62 holders. -/
import Derived.Test.YtbkchcpfnoclhaaGreatV1
import Derived.Test.YtbkchcpfnoclhaaGreatIW13
import Derived.Test.YtbkchcpfnoclhaaGreatShelfF
import Derived.Shelf.GgSortFunc.RowK
import Derived.Shelf.SlSortCmp.InsertionK
import Derived.Sort.Statements
import Derived.Shelf.Abstract
namespace Go.Proofs.YtbkchcpfnoclhaaGreat
set_option maxRecDepth 100000
open Go Go.RowKit
set_option linter.unusedVariables false
set_option linter.unusedSimpArgs false

theorem bytesLess_eqT (x y : ByteArray) : Op.bytesLess x.toList y.toList = decide (x.toList < y.toList) := by
  rw [less_tx, Lib.toList_data, Lib.toList_data]
theorem cmpS_val (a b : ByteArray) : (a.toList < b.toList ∧ cmpS a b = -1) ∨ (a.toList = b.toList ∧ cmpS a b = 0) ∨ (b.toList < a.toList ∧ cmpS a b = 1) := by
  by_cases h1 : a.toList < b.toList
  · exact .inl ⟨h1, cmpS_lt (by rw [bytesLess_eqT]; exact decide_eq_true h1)⟩
  · by_cases h2 : a.toList = b.toList
    · exact .inr (.inl ⟨h2, cmpS_eq (by rw [bytesLess_eqT]; exact decide_eq_false h1) (by rw [h2]; exact beq_self_eq_true _)⟩)
    · exact .inr (.inr ⟨tri h1 h2, cmpS_gt (by rw [bytesLess_eqT]; exact decide_eq_false h1) (beq_eq_false_iff_ne.2 h2)⟩)
namespace Hd
open Go.Shelf Go.Sort
theorem cmpO_neg (p q : Rc) : cmpO p q < 0 ↔ ltR p q := by
  unfold cmpO ltR orI
  rcases cmpS_val p.us q.us with ⟨h1, e1⟩ | ⟨h1, e1⟩ | ⟨h1, e1⟩
  · rw [e1]; simp [h1]
  · rw [e1, if_pos rfl]
    rcases cmpS_val p.dv q.dv with ⟨h3, e3⟩ | ⟨h3, e3⟩ | ⟨h3, e3⟩
    · rw [e3]; simp [h1, h3]
    · rw [e3, h1, h3]; simp [List.lt_irrefl]
    · rw [e3, h1]; simp [List.lt_irrefl, List.lt_asymm h3]
  · rw [e1]; simp [List.lt_asymm h1]; intro h; rw [h] at h1; exact absurd h1 (List.lt_irrefl _)
theorem cmpO_pos (p q : Rc) : 0 < cmpO p q ↔ ltR q p := by
  unfold cmpO ltR orI
  rcases cmpS_val p.us q.us with ⟨h1, e1⟩ | ⟨h1, e1⟩ | ⟨h1, e1⟩
  · rw [e1]; simp [List.lt_asymm h1]; intro h; rw [h] at h1; exact absurd h1 (List.lt_irrefl _)
  · rw [e1, if_pos rfl]
    rcases cmpS_val p.dv q.dv with ⟨h3, e3⟩ | ⟨h3, e3⟩ | ⟨h3, e3⟩
    · rw [e3, h1]; simp [List.lt_irrefl, List.lt_asymm h3]
    · rw [e3, h1, h3]; simp [List.lt_irrefl]
    · rw [e3]; simp [h1, h3]
  · rw [e1]; simp [h1]
theorem ltO (p q : Rc) : ltOf cmpO p q = decide (ltR p q) := by
  unfold ltOf
  rw [decide_eq_decide]
  exact cmpO_neg p q
theorem swoO : Sort.SWO (ltOf cmpO) where
  irrefl x := by rw [ltO]; simpa using ltR_irrefl x
  trans x y z h1 h2 := by
    rw [ltO] at *
    exact decide_eq_true (ltR_trans (of_decide_eq_true h1) (of_decide_eq_true h2))
  ntrans x y z h1 h2 := by
    rw [ltO] at *
    have h1 := of_decide_eq_false h1
    have h2 := of_decide_eq_false h2
    refine decide_eq_false fun h => ?_
    rcases ltR_tri x y with a | a | a
    · exact h1 a
    · rw [a] at h; exact h2 h
    · rcases ltR_tri y z with b | b | b
      · exact h2 b
      · rw [b] at a; exact ltR_asymm a h
      · exact ltR_irrefl x (ltR_trans h (ltR_trans b a))
theorem cmpLays38 (g size : Nat) (w : World) : CmpLays Tryz.prog 18 #[] enc 2 cmpO g 0 size w :=
  fun m os dk _ x y => (compareO x y _).mono fun e w' ⟨he, hg⟩ => ⟨he, hg.grow⟩
theorem agg61 (w : World) : (isAgg 39).run Tryz.prog w = .ok true w := by kernel_rfl
theorem sz61 (w : World) : (Go.sizeOf 39).run Tryz.prog w = .ok 2 w := by kernel_rfl
theorem enc_at (p : Rc) {i : Nat} (h : i < 2) : (enc p)[i]? = some ((enc p)[i]!) := by
  rw [List.getElem!_eq_getElem?_getD, List.getElem?_eq_getElem (by rw [enc_len]; exact h)]; rfl
theorem arr_at (ys : List Rc) {j : Nat} (h : j < ys.length) : ys.toArray[j]! = ys.getD j t0 := by
  simp [List.getD_eq_getElem?_getD, h]
theorem holds_of_blk {w : World} {g n : Nat} {cur : List Value} {ys : List Rc} (h : Blk w g cur 39) (hc : cur.take (n * 2) = cl ys) (hl : ys.length = n) : Sort.HoldsK enc 2 w g 0 ys.toArray := by
  intro j hj
  have hj' : j < n * 2 := by simpa [hl] using hj
  refine ⟨?_, h.free _⟩
  rw [Sort.get_flatK _ _ _ _ (by simpa [hl] using hj'), arr_at ys (by omega), Nat.zero_add]
  refine h.cell ?_
  have e1 : j = j / 2 * 2 + j % 2 := by omega
  have e2 : cur[j]? = (cl ys)[j]? := by rw [← hc, List.getElem?_take_of_lt hj']
  rw [e2]
  conv => lhs; rw [e1]
  rw [cl_get ys _ _ (by omega) (by omega), enc_at _ (by omega)]
  rfl
theorem Rcs.ofHolds {w : World} {g c : Nat} {ys : List Rc} (h : Sort.HoldsK enc 2 w g 0 ys.toArray) (hlt : g < w.heap.size) (hn : ys.length ≤ c) (hm : ys.length ≤ 1000000) (hf : ∀ p ∈ ys, fitR p) : Rcs w (some ⟨g, 0, none⟩) ys.length c ys := by
  refine ⟨⟨fun j _ => rfl, fun j _ => enc_one _, by unfold maxLen; omega, (fun e => by cases e), .inr ⟨g, 0, rfl, hlt, fun j hj i v hv => ?_⟩⟩, rfl, hn, hf⟩
  have hi : i < 2 := (List.getElem?_eq_some_iff.1 hv).1
  have hv' : (enc (ys.getD j t0))[i]? = some v := hv
  rw [enc_at _ hi] at hv'
  have := (h (j * 2 + i) (by simp; omega)).1
  rw [Sort.get_flatK _ _ _ _ (by simp; omega), show (j * 2 + i) / 2 = j by omega, show (j * 2 + i) % 2 = i by omega, arr_at ys hj] at this
  rw [Nat.add_assoc, this]
  exact hv'
theorem grown_sortK (w : World) (g n : Nat) (d : Array Rc) (os : Array Obj) : w.grownBy (sortWorldK enc 2 w g 0 n d os) (some g) := by
  refine ⟨rfl, rfl, rfl, ?_, fun k hk hne => ?_⟩
  · have : (sortWorldK enc 2 w g 0 n d os).heap.size = w.heap.size + os.size := by
      unfold sortWorldK Sort.putRowK Sort.putRow Sort.mapBlock Sort.ahead
      simp
    omega
  · have hkg : g ≠ k := fun e => hne (by rw [e])
    unfold sortWorldK Sort.putRowK Sort.putRow Sort.mapBlock Sort.ahead Sort.grow
    simp only [Array.getElem?_append, Array.size_modify, Array.getElem?_modify]
    simp [hk, hkg]
theorem sort_blk {w : World} {g n : Nat} {d : Array Rc} {os : Array Obj} {cur : List Value} (h : Blk w g cur 39) : ∃ cur', Blk (sortWorldK enc 2 w g 0 n d os) g cur' 39 ∧ cur'.length = cur.length := by
  refine ⟨(Sort.putCells id 0 (Sort.flatK enc 2 d) cur.toArray).toList, ⟨?_⟩, by simp [Sort.putCells]⟩
  have hl := h.lt
  unfold sortWorldK Sort.grow Sort.putRowK Sort.putRow Sort.mapBlock Sort.ahead
  simp only [Array.getElem?_append, Array.size_modify, hl, if_true, Array.getElem?_modify, h.heap, Option.map_some, Sort.onCells, Array.toArray_toList]
/-- slices.SortFunc at keys. -/
theorem sortF_any (g cap : Nat) (ys : List Rc) (w : World) (hH : Sort.HoldsK enc 2 w g 0 ys.toArray) (hg : g < w.heap.size) (hsz : ys.length < 4611686018427387904) :
    Calls Tryz.prog 50 #[.slice (some ⟨g, 0, none⟩) ys.length cap, .func (.func 18) #[] #[]] w fun e w' => e = .returned (.tuple #[]) ∧ ∃ zs : List Rc, zs.Perm ys ∧ (∀ i j, i < j → j < zs.length → ¬ ltR (zs.getD j t0) (zs.getD i t0)) ∧ Sort.HoldsK enc 2 w' g 0 zs.toArray ∧ w.grownBy w' (some g) ∧ ∀ cur, Blk w g cur 39 → ∃ cur', Blk w' g cur' 39 ∧ cur'.length = cur.length := by
  have eg : ∀ args w, (callFunc 18 args).run Tryz.prog w = .ok (.enter 18 args) w := enters_of Tryz.func18 (by kernel_rfl) rfl
  have hcon := AnyQ.slices_SortFunc Tryz.sortF 2 agg61 sz61 enc enc_len enc_one cmpO swoO 18 #[] g 0 cap ys.toArray w eg (cmpLays38 g ys.toArray.size w) hH hg (by simpa using hsz)
  change Calls Tryz.prog 50 _ _ _ at hcon
  rw [List.size_toArray] at hcon
  refine hcon.mono ?_
  rintro e w' ⟨he, d', n, os, hp, hs, rfl⟩
  obtain ⟨h1, h2, h3⟩ := hp
  have hsd : d'.size = ys.length := by simpa using h1
  have e1 : d'.extract 0 ys.length = d' := by rw [← hsd]; simp
  have e2 : ys.toArray.extract 0 ys.length = ys.toArray := by simp
  rw [e1, e2] at h3
  refine ⟨he, d'.toList, h3, fun i j hij hj hlt => ?_, by rw [Array.toArray_toList]; exact holdsK_sortWorldK_c enc 2 w g 0 ys.toArray d' n os hH hg (by simpa using h1), grown_sortK w g n d' os, fun cur hb => sort_blk hb⟩
  have hj' : j < d'.size := by simpa using hj
  have h4 := hs i j (Nat.zero_le _) hij (by omega)
  rw [ltO] at h4
  refine of_decide_eq_false h4 ?_
  rw [getElem!_pos d' j hj', getElem!_pos d' i (by omega)]
  rw [getD_at hj, getD_at (by omega)] at hlt
  simpa using hlt



theorem take_of_holds {w : World} {g n : Nat} {cur : List Value} {zs : List Rc} (h : Blk w g cur 39) (hh : Sort.HoldsK enc 2 w g 0 zs.toArray) (hl : zs.length = n) (hc : n * 2 ≤ cur.length) : cur.take (n * 2) = cl zs := by
  apply List.ext_getElem?
  intro j
  by_cases hj : j < n * 2
  · rw [List.getElem?_take_of_lt hj]
    have h1 := (hh j (by simpa [hl] using hj)).1
    rw [Sort.get_flatK _ _ _ _ (by simpa [hl] using hj), arr_at zs (by omega), Nat.zero_add] at h1
    have h2 := h.cell (List.getElem?_eq_getElem (show j < cur.length by omega))
    rw [h2] at h1
    rw [List.getElem?_eq_getElem (show j < cur.length by omega), h1]
    have e1 : j = j / 2 * 2 + j % 2 := by omega
    conv => rhs; rw [e1]
    rw [cl_get zs _ _ (by omega) (by omega), enc_at _ (by omega)]
    rfl
  · rw [List.getElem?_eq_none (by rw [List.length_take]; omega), List.getElem?_eq_none (by rw [cl_len]; omega)]
/-- slices.SortFunc at a row of keys of the call's own. -/
theorem sortRow44 (B g c : Nat) (n : Nat) (ys : List Rc) (w : World) (h : w.ownsRow B 39 2 (.slice (some ⟨g, 0, none⟩) n c) n (cl ys)) (hB : B ≤ w.heap.size) (hl : ys.length = n) (h0 : 0 < n) (hn : n ≤ 1000000) : Calls Tryz.prog 50 #[.slice (some ⟨g, 0, none⟩) n c, .func (.func 18) #[] #[]] w fun e w' => e = .returned (.tuple #[]) ∧ ∃ (zs : List Rc) (R : List Value), n ≤ c ∧ B ≤ g ∧ zs.Perm ys ∧ (∀ i j, i < j → j < zs.length → ¬ ltR (zs.getD j t0) (zs.getD i t0)) ∧ Blk w' g (cl zs ++ R) 39 ∧ Below B w w' := by
  obtain ⟨g', c', cur, hv, hgB, hb, hnc, hcm, hcl, htk⟩ := own_pos h h0
  simp only [Value.slice.injEq, Option.some.injEq, Addr.mk.injEq, and_true, true_and] at hv
  obtain ⟨rfl, rfl⟩ := hv
  subst hl
  refine (sortF_any g c ys w (holds_of_blk hb htk rfl) hb.lt (by omega)).mono ?_
  rintro e w' ⟨he, zs, hp, hso, hh, hg, hbk⟩
  obtain ⟨cur', hb', hl'⟩ := hbk cur hb
  have ht := take_of_holds (n := ys.length) hb' hh hp.length_eq (by rw [hl', ← hcl]; exact Nat.mul_le_mul_right 2 hnc)
  refine ⟨he, zs, cur'.drop (ys.length * 2), hnc, hgB, hp, hso, ?_, (Below.refl B w).grown hg hB (fun k hk => by cases hk; exact hgB)⟩
  rw [← ht, List.take_append_drop]
  exact hb'
end Hd
end Go.Proofs.YtbkchcpfnoclhaaGreat
