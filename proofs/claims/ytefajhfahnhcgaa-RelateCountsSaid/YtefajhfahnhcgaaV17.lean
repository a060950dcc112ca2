/- Relations: strings.Compare; slices.SortFunc at counts. Bound: a million counts. -/
import Derived.Test.YtefajhfahnhcgaaV16
import Derived.Test.YtefajhfahnhcgaaShelfF
import Derived.Shelf.GgSortFunc.RowK
import Derived.Shelf.SlSortCmp.InsertionK
import Derived.Sort.Statements
import Derived.Sort.Grow
import Derived.Shelf.Abstract
import Derived.Lib.Bytealg
import Derived.Handy
namespace Go.Proofs.Ytefajhfahnhcgaa
open Go Go.RowKit
set_option linter.unusedVariables false
set_option linter.unusedSimpArgs false

set_option maxRecDepth 100000 in
theorem cmpstr51 (a b : ByteArray) (w : World) : Calls Try.prog 51 #[.string a, .string b] w fun e w' => e = .returned (.int .i64 (Lib.compareBytes a.data.toList b.data.toList)) ∧ w' = w := by
  go_enter Try.func51, Try.ntmps51
  go_wp2
  rw [run_callFunc_extern Try.func64 (by kernel_rfl) (by kernel_rfl) (by kernel_rfl) (e := Extern.BytealgCompare.compare) (by kernel_rfl), Lib.run_compareString]
  simp only [Result.andThen]
  rw [Oper.upon_value]
  go_wp2
  go_ret
  exact ⟨rfl, rfl⟩
theorem compare42 (a b : ByteArray) (w : World) : Calls Try.prog 42 #[.string a, .string b] w fun e w' => e = .returned (.int .i64 (Lib.compareBytes a.data.toList b.data.toList)) ∧ w' = w := by
  have HC := Lib.hid (cmpstr51 a b w)
  go_enter Try.func42, Try.ntmps42
  go_wp2_with (first
    | (go_at_call 51; (with_reducible refine HC.out.mono ?_); rintro e w' ⟨rfl, rfl⟩)
    | go_in)
  go_ret
  exact ⟨rfl, rfl⟩
theorem cmpB_neg : ∀ a b : List UInt8, Lib.compareBytes a b < 0 ↔ a < b
  | [], [] => by simp [Lib.compareBytes]
  | [], b :: y => by simp [Lib.compareBytes]
  | a :: x, [] => by simp [Lib.compareBytes]
  | a :: x, b :: y => by
    have ih := cmpB_neg x y
    rw [List.cons_lt_cons_iff]
    unfold Lib.compareBytes
    by_cases h1 : a < b
    · simp [h1]
    · by_cases h2 : b < a
      · have h3 : a ≠ b := fun e => by subst e; exact h1 h2
        simp [h1, h2, h3]
      · have h3 : a = b := UInt8.le_antisymm (UInt8.not_lt.1 h2) (UInt8.not_lt.1 h1)
        subst h3
        simp [h1, ih]
namespace Cn
open Go.Shelf Go.Sort
instance : Inhabited Rc := ⟨t0⟩
def cmpC (p q : Rc) : Int := Lib.compareBytes p.tx.data.toList q.tx.data.toList
def ltC (p q : Rc) : Prop := p.tx.toList < q.tx.toList
instance (p q : Rc) : Decidable (ltC p q) := by unfold ltC; infer_instance
theorem cmpC_neg (p q : Rc) : cmpC p q < 0 ↔ ltC p q := by
  unfold cmpC ltC
  rw [cmpB_neg, Lib.toList_data, Lib.toList_data]
theorem ltO (p q : Rc) : ltOf cmpC p q = decide (ltC p q) := by
  unfold ltOf
  rw [decide_eq_decide]
  exact cmpC_neg p q
theorem swoC : Sort.SWO (ltOf cmpC) where
  irrefl x := by rw [ltO]; exact decide_eq_false (List.lt_irrefl _)
  trans x y z h1 h2 := by
    rw [ltO] at *
    exact decide_eq_true (List.lt_trans (of_decide_eq_true h1) (of_decide_eq_true h2))
  ntrans x y z h1 h2 := by
    rw [ltO] at *
    have h1 := of_decide_eq_false h1
    have h2 := of_decide_eq_false h2
    refine decide_eq_false fun h => ?_
    unfold ltC at *
    by_cases e : x.tx.toList = y.tx.toList
    · rw [e] at h; exact h2 h
    · exact h2 (List.lt_trans (tri h1 e) h)
theorem grow_two (w : World) (a b : Obj) : (w.alloc a).alloc b = Sort.grow (w.drewN 0) #[a, b] := by
  have h : w.heap ++ #[a, b] = (w.heap.push a).push b := by
    apply Array.ext'
    rw [Array.toList_append, Array.toList_push, Array.toList_push, List.append_assoc]; rfl
  show _ = ({ w with heap := w.heap ++ #[a, b] } : World)
  rw [h]
  rfl
/-- What the closure leaves: no old block has changed. -/
theorem compare41 (p q : Rc) (w : World) : Calls Try.prog 41 #[.agg (enc p).toArray, .agg (enc q).toArray] w fun e w' => e = .returned (.int .i64 (cmpC p q)) ∧ w' = (w.alloc (.cells (enc p).toArray 58)).alloc (.cells (enc q).toArray 58) := by
  show Calls Try.prog 41 #[.agg #[.string p.tx, .int .i64 p.n], .agg #[.string q.tx, .int .i64 q.n]] w _
  have HC := Lib.hid (fun u => compare42 p.tx q.tx u)
  go_enter Try.func41, Try.ntmps41
  go_wp2_with (first
    | (go_at_call 42; (with_reducible refine (HC.out _).mono ?_); rintro e w' ⟨rfl, rfl⟩)
    | go_in)
  go_ret
  exact ⟨rfl, rfl⟩
theorem cmpLays41 (g size : Nat) (w : World) : CmpLays Try.prog 41 #[] enc 2 cmpC g 0 size w :=
  fun m os dk _ x y => (compare41 x y _).mono fun e w' ⟨he, hg⟩ => ⟨he, by rw [hg]; exact ⟨0, _, grow_two _ _ _⟩⟩
theorem agg58 (w : World) : (isAgg 58).run Try.prog w = .ok true w := by kernel_rfl
theorem sz58 (w : World) : (Go.sizeOf 58).run Try.prog w = .ok 2 w := by kernel_rfl
theorem enc_at (p : Rc) {i : Nat} (h : i < 2) : (enc p)[i]? = some ((enc p)[i]!) := by
  rw [List.getElem!_eq_getElem?_getD, List.getElem?_eq_getElem (by rw [enc_len]; exact h)]; rfl
theorem arr_at (ys : List Rc) {j : Nat} (h : j < ys.length) : ys.toArray[j]! = ys.getD j t0 := by
  simp [List.getD_eq_getElem?_getD, h]
theorem holds_of_blk {w : World} {g n : Nat} {cur : List Value} {ys : List Rc} (h : Blk w g cur 58) (hc : cur.take (n * 2) = cl ys) (hl : ys.length = n) : Sort.HoldsK enc 2 w g 0 ys.toArray := by
  intro j hj
  have hj' : j < n * 2 := by simpa [hl] using hj
  refine ⟨?_, h.free _⟩
  rw [Sort.get_flatK _ _ _ _ (by simpa [hl] using hj'), arr_at ys (by omega), Nat.zero_add]
  refine h.cell ?_
  have e1 : j = j / 2 * 2 + j % 2 := by omega
  have e2 : cur[j]? = (cl ys)[j]? := by rw [← hc, List.getElem?_take_of_lt hj']
  rw [e2]
  conv => lhs; rw [e1]
  rw [cl_get ys _ _ (by omega) (by omega), enc_at _ (by omega)]
  rfl
theorem Rcs.ofHolds {w : World} {g c : Nat} {ys : List Rc} (h : Sort.HoldsK enc 2 w g 0 ys.toArray) (hlt : g < w.heap.size) (hn : ys.length ≤ c) (hm : ys.length ≤ 1000000) (hf : ∀ p ∈ ys, fitR p) : Rcs w (some ⟨g, 0, none⟩) ys.length c ys := by
  refine ⟨⟨fun j _ => rfl, fun j _ => enc_one _, by unfold maxLen; omega, (fun e => by cases e), .inr ⟨g, 0, rfl, hlt, fun j hj i v hv => ?_⟩⟩, rfl, hn, hf⟩
  have hi : i < 2 := (List.getElem?_eq_some_iff.1 hv).1
  have hv' : (enc (ys.getD j t0))[i]? = some v := hv
  rw [enc_at _ hi] at hv'
  have := (h (j * 2 + i) (by simp; omega)).1
  rw [Sort.get_flatK _ _ _ _ (by simp; omega), show (j * 2 + i) / 2 = j by omega, show (j * 2 + i) % 2 = i by omega, arr_at ys hj] at this
  rw [Nat.add_assoc, this]
  exact hv'
theorem grown_sortK (w : World) (g n : Nat) (d : Array Rc) (os : Array Obj) : w.grownBy (sortWorldK enc 2 w g 0 n d os) (some g) := by
  refine ⟨rfl, rfl, rfl, ?_, fun k hk hne => ?_⟩
  · have : (sortWorldK enc 2 w g 0 n d os).heap.size = w.heap.size + os.size := by
      unfold sortWorldK Sort.putRowK Sort.putRow Sort.mapBlock Sort.ahead
      simp
    omega
  · have hkg : g ≠ k := fun e => hne (by rw [e])
    unfold sortWorldK Sort.putRowK Sort.putRow Sort.mapBlock Sort.ahead Sort.grow
    simp only [Array.getElem?_append, Array.size_modify, Array.getElem?_modify]
    simp [hk, hkg]
theorem sort_blk {w : World} {g n : Nat} {d : Array Rc} {os : Array Obj} {cur : List Value} (h : Blk w g cur 58) : ∃ cur', Blk (sortWorldK enc 2 w g 0 n d os) g cur' 58 ∧ cur'.length = cur.length := by
  refine ⟨(Sort.putCells id 0 (Sort.flatK enc 2 d) cur.toArray).toList, ⟨?_⟩, by simp [Sort.putCells]⟩
  have hl := h.lt
  unfold sortWorldK Sort.grow Sort.putRowK Sort.putRow Sort.mapBlock Sort.ahead
  simp only [Array.getElem?_append, Array.size_modify, hl, if_true, Array.getElem?_modify, h.heap, Option.map_some, Sort.onCells, Array.toArray_toList]
/-- slices.SortFunc at keys. -/
theorem sortF_any (g cap : Nat) (ys : List Rc) (w : World) (hH : Sort.HoldsK enc 2 w g 0 ys.toArray) (hg : g < w.heap.size) (hsz : ys.length < 4611686018427387904) :
    Calls Try.prog 40 #[.slice (some ⟨g, 0, none⟩) ys.length cap, .func (.func 41) #[] #[]] w fun e w' => e = .returned (.tuple #[]) ∧ ∃ zs : List Rc, zs.Perm ys ∧ (∀ i j, i < j → j < zs.length → ¬ ltC (zs.getD j t0) (zs.getD i t0)) ∧ Sort.HoldsK enc 2 w' g 0 zs.toArray ∧ w.grownBy w' (some g) ∧ ∀ cur, Blk w g cur 58 → ∃ cur', Blk w' g cur' 58 ∧ cur'.length = cur.length := by
  have eg : ∀ args w, (callFunc 41 args).run Try.prog w = .ok (.enter 41 args) w := enters_of Try.func41 (by kernel_rfl) rfl
  have hcon := AnyQ.slices_SortFunc Try.sortF 2 agg58 sz58 enc enc_len enc_one cmpC swoC 41 #[] g 0 cap ys.toArray w eg (cmpLays41 g ys.toArray.size w) hH hg (by simpa using hsz)
  change Calls Try.prog 40 _ _ _ at hcon
  rw [List.size_toArray] at hcon
  refine hcon.mono ?_
  rintro e w' ⟨he, d', n, os, hp, hs, rfl⟩
  obtain ⟨h1, h2, h3⟩ := hp
  have hsd : d'.size = ys.length := by simpa using h1
  have e1 : d'.extract 0 ys.length = d' := by rw [← hsd]; simp
  have e2 : ys.toArray.extract 0 ys.length = ys.toArray := by simp
  rw [e1, e2] at h3
  refine ⟨he, d'.toList, h3, fun i j hij hj hlt => ?_, by rw [Array.toArray_toList]; exact holdsK_sortWorldK_c enc 2 w g 0 ys.toArray d' n os hH hg (by simpa using h1), grown_sortK w g n d' os, fun cur hb => sort_blk hb⟩
  have hj' : j < d'.size := by simpa using hj
  have h4 := hs i j (Nat.zero_le _) hij (by omega)
  rw [ltO] at h4
  refine of_decide_eq_false h4 ?_
  rw [getElem!_pos d' j hj', getElem!_pos d' i (by omega)]
  rw [getD_at hj, getD_at (by omega)] at hlt
  simpa using hlt



theorem take_of_holds {w : World} {g n : Nat} {cur : List Value} {zs : List Rc} (h : Blk w g cur 58) (hh : Sort.HoldsK enc 2 w g 0 zs.toArray) (hl : zs.length = n) (hc : n * 2 ≤ cur.length) : cur.take (n * 2) = cl zs := by
  apply List.ext_getElem?
  intro j
  by_cases hj : j < n * 2
  · rw [List.getElem?_take_of_lt hj]
    have h1 := (hh j (by simpa [hl] using hj)).1
    rw [Sort.get_flatK _ _ _ _ (by simpa [hl] using hj), arr_at zs (by omega), Nat.zero_add] at h1
    have h2 := h.cell (List.getElem?_eq_getElem (show j < cur.length by omega))
    rw [h2] at h1
    rw [List.getElem?_eq_getElem (show j < cur.length by omega), h1]
    have e1 : j = j / 2 * 2 + j % 2 := by omega
    conv => rhs; rw [e1]
    rw [cl_get zs _ _ (by omega) (by omega), enc_at _ (by omega)]
    rfl
  · rw [List.getElem?_eq_none (by rw [List.length_take]; omega), List.getElem?_eq_none (by rw [cl_len]; omega)]
/-- slices.SortFunc at a row of keys of the call's own. -/
theorem sortRow40 (B g c : Nat) (n : Nat) (ys : List Rc) (w : World) (h : w.ownsRow B 58 2 (.slice (some ⟨g, 0, none⟩) n c) n (cl ys)) (hB : B ≤ w.heap.size) (hl : ys.length = n) (h0 : 0 < n) (hn : n ≤ 1000000) : Calls Try.prog 40 #[.slice (some ⟨g, 0, none⟩) n c, .func (.func 41) #[] #[]] w fun e w' => e = .returned (.tuple #[]) ∧ ∃ (zs : List Rc) (R : List Value), n ≤ c ∧ B ≤ g ∧ zs.Perm ys ∧ (∀ i j, i < j → j < zs.length → ¬ ltC (zs.getD j t0) (zs.getD i t0)) ∧ Blk w' g (cl zs ++ R) 58 ∧ Below B w w' := by
  obtain ⟨g', c', cur, hv, hgB, hb, hnc, hcm, hcl, htk⟩ := own_pos h h0
  simp only [Value.slice.injEq, Option.some.injEq, Addr.mk.injEq, and_true, true_and] at hv
  obtain ⟨rfl, rfl⟩ := hv
  subst hl
  refine (sortF_any g c ys w (holds_of_blk hb htk rfl) hb.lt (by omega)).mono ?_
  rintro e w' ⟨he, zs, hp, hso, hh, hg, hbk⟩
  obtain ⟨cur', hb', hl'⟩ := hbk cur hb
  have ht := take_of_holds (n := ys.length) hb' hh hp.length_eq (by rw [hl', ← hcl]; exact Nat.mul_le_mul_right 2 hnc)
  refine ⟨he, zs, cur'.drop (ys.length * 2), hnc, hgB, hp, hso, ?_, (Below.refl B w).grown hg hB (fun k hk => by cases hk; exact hgB)⟩
  rw [← ht, List.take_append_drop]
  exact hb'
end Cn
end Go.Proofs.Ytefajhfahnhcgaa
