/- The mainline: slices.SortFunc at places. Bound: fewer than 2^62 places. -/
import Derived.Test.YtoljlpddcpdoiaaW15
import Derived.Test.YtoljlpddcpdoiaaR1
import Derived.Test.YtoljlpddcpdoiaaShelfF
import Derived.Shelf.GgSortFunc.RowK
import Derived.Shelf.SlSortCmp.InsertionK
import Derived.Sort.Statements
import Derived.ChangeKeysEq
import Derived.Shelf.Abstract
namespace Go.Proofs.Ytoljlpddcpdoiaa
open Go Go.RowKit
set_option linter.unusedVariables false
set_option linter.unusedSimpArgs false
namespace Pl
open Go.Shelf Go.Sort
instance : Inhabited Rc := ⟨t0⟩

/-- One place stands before another. -/
def ltP (p q : Rc) : Prop := q.cl0 < p.cl0 ∨ (p.cl0 = q.cl0 ∧ (p.tm < q.tm ∨ (p.tm = q.tm ∧ p.id < q.id)))
instance (p q : Rc) : Decidable (ltP p q) := by unfold ltP; infer_instance
def cmpP (p q : Rc) : Int := ordI p.cl0 p.tm p.id q.cl0 q.tm q.id
theorem orI3 (a b c : Int) : orI [a, b, c] = if a = 0 then (if b = 0 then c else b) else a := by
  unfold orI
  by_cases h1 : a = 0
  · by_cases h2 : b = 0
    · by_cases h3 : c = 0 <;> simp [h1, h2, h3]
    · simp [h1, h2]
  · simp [h1]
theorem cmpI_zero (a b : Int) : cmpI a b = 0 ↔ a = b := by unfold cmpI; split; omega; split <;> omega
theorem cmpI_neg (a b : Int) : cmpI a b < 0 ↔ a < b := by unfold cmpI; split; omega; split <;> omega
theorem cmpP_neg (p q : Rc) : cmpP p q < 0 ↔ ltP p q := by
  unfold cmpP ordI ltP
  rw [orI3]
  by_cases h1 : cmpI q.cl0 p.cl0 = 0
  · rw [if_pos h1]
    have e1 := (cmpI_zero _ _).1 h1
    by_cases h2 : cmpI p.tm q.tm = 0
    · rw [if_pos h2, cmpI_neg]
      have e2 := (cmpI_zero _ _).1 h2
      omega
    · rw [if_neg h2, cmpI_neg]
      have e2 : ¬ p.tm = q.tm := fun h => h2 ((cmpI_zero _ _).2 h)
      omega
  · rw [if_neg h1, cmpI_neg]
    have e1 : ¬ q.cl0 = p.cl0 := fun h => h1 ((cmpI_zero _ _).2 h)
    omega
theorem ltO (p q : Rc) : ltOf cmpP p q = decide (ltP p q) := by
  unfold ltOf
  rw [decide_eq_decide]
  exact cmpP_neg p q
theorem swoP : Sort.SWO (ltOf cmpP) where
  irrefl x := by rw [ltO]; exact decide_eq_false (by unfold ltP; omega)
  trans x y z h1 h2 := by
    rw [ltO] at *
    have h1 := of_decide_eq_true h1
    have h2 := of_decide_eq_true h2
    refine decide_eq_true ?_
    unfold ltP at *
    omega
  ntrans x y z h1 h2 := by
    rw [ltO] at *
    have h1 := of_decide_eq_false h1
    have h2 := of_decide_eq_false h2
    refine decide_eq_false ?_
    unfold ltP at *
    omega
theorem cmpLays29 (g size : Nat) (w : World) : CmpLays Try.prog 29 #[] enc 3 cmpP g 0 size w :=
  fun m os dk _ x y => (order29 x.cl0 x.tm x.id y.cl0 y.tm y.id _).mono fun e w' ⟨he, hg⟩ => ⟨he, hg.grow⟩
theorem agg62 (w : World) : (isAgg 62).run Try.prog w = .ok true w := by kernel_rfl
theorem sz62 (w : World) : (Go.sizeOf 62).run Try.prog w = .ok 3 w := by kernel_rfl
theorem enc_at (p : Rc) {i : Nat} (h : i < 3) : (enc p)[i]? = some ((enc p)[i]!) := by
  rw [List.getElem!_eq_getElem?_getD, List.getElem?_eq_getElem (by rw [enc_len]; exact h)]; rfl
theorem arr_at (ys : List Rc) {j : Nat} (h : j < ys.length) : ys.toArray[j]! = ys.getD j t0 := by
  simp [List.getD_eq_getElem?_getD, h]
theorem holds_of_blk {w : World} {g n : Nat} {cur : List Value} {ys : List Rc} (h : Blk w g cur 62) (hc : cur.take (n * 3) = cl ys) (hl : ys.length = n) : Sort.HoldsK enc 3 w g 0 ys.toArray := by
  intro j hj
  have hj' : j < n * 3 := by simpa [hl] using hj
  refine ⟨?_, h.free _⟩
  rw [Sort.get_flatK _ _ _ _ (by simpa [hl] using hj'), arr_at ys (by omega), Nat.zero_add]
  refine h.cell ?_
  have e1 : j = j / 3 * 3 + j % 3 := by omega
  have e2 : cur[j]? = (cl ys)[j]? := by rw [← hc, List.getElem?_take_of_lt hj']
  rw [e2]
  conv => lhs; rw [e1]
  rw [cl_get ys _ _ (by omega) (by omega), enc_at _ (by omega)]
  rfl
theorem Rcs.ofHolds {w : World} {g c : Nat} {ys : List Rc} (h : Sort.HoldsK enc 3 w g 0 ys.toArray) (hlt : g < w.heap.size) (hn : ys.length ≤ c) (hm : ys.length ≤ 1000000) (hf : ∀ p ∈ ys, fitR p) : Rcs w (some ⟨g, 0, none⟩) ys.length c ys := by
  refine ⟨⟨fun j _ => rfl, fun j _ => enc_one _, by unfold maxLen; omega, (fun e => by cases e), .inr ⟨g, 0, rfl, hlt, fun j hj i v hv => ?_⟩⟩, rfl, hn, hf⟩
  have hi : i < 3 := (List.getElem?_eq_some_iff.1 hv).1
  have hv' : (enc (ys.getD j t0))[i]? = some v := hv
  rw [enc_at _ hi] at hv'
  have := (h (j * 3 + i) (by simp; omega)).1
  rw [Sort.get_flatK _ _ _ _ (by simp; omega), show (j * 3 + i) / 3 = j by omega, show (j * 3 + i) % 3 = i by omega, arr_at ys hj] at this
  rw [Nat.add_assoc, this]
  exact hv'
theorem grown_sortK (w : World) (g n : Nat) (d : Array Rc) (os : Array Obj) : w.grownBy (sortWorldK enc 3 w g 0 n d os) (some g) := by
  refine ⟨rfl, rfl, rfl, ?_, fun k hk hne => ?_⟩
  · have : (sortWorldK enc 3 w g 0 n d os).heap.size = w.heap.size + os.size := by
      unfold sortWorldK Sort.putRowK Sort.putRow Sort.mapBlock Sort.ahead
      simp
    omega
  · have hkg : g ≠ k := fun e => hne (by rw [e])
    unfold sortWorldK Sort.putRowK Sort.putRow Sort.mapBlock Sort.ahead Sort.grow
    simp only [Array.getElem?_append, Array.size_modify, Array.getElem?_modify]
    simp [hk, hkg]
/-- slices.SortFunc at places. -/
theorem sortF_any (g cap : Nat) (ys : List Rc) (w : World) (hH : Sort.HoldsK enc 3 w g 0 ys.toArray) (hg : g < w.heap.size) (hsz : ys.length < 4611686018427387904) :
    Calls Try.prog 28 #[.slice (some ⟨g, 0, none⟩) ys.length cap, .func (.func 29) #[] #[]] w fun e w' => e = .returned (.tuple #[]) ∧ ∃ zs : List Rc, zs.Perm ys ∧ (∀ i j, i < j → j < zs.length → ¬ ltP (zs.getD j t0) (zs.getD i t0)) ∧ Sort.HoldsK enc 3 w' g 0 zs.toArray ∧ w.grownBy w' (some g) := by
  have eg : ∀ args w, (callFunc 29 args).run Try.prog w = .ok (.enter 29 args) w := enters_of Try.func29 (by kernel_rfl) rfl
  have hcon := AnyQ.slices_SortFunc Try.sortF 3 agg62 sz62 enc enc_len enc_one cmpP swoP 29 #[] g 0 cap ys.toArray w eg (cmpLays29 g ys.toArray.size w) hH hg (by simpa using hsz)
  change Calls Try.prog 28 _ _ _ at hcon
  rw [List.size_toArray] at hcon
  refine hcon.mono ?_
  rintro e w' ⟨he, d', n, os, hp, hs, rfl⟩
  obtain ⟨h1, h2, h3⟩ := hp
  have hsd : d'.size = ys.length := by simpa using h1
  have e1 : d'.extract 0 ys.length = d' := by rw [← hsd]; simp
  have e2 : ys.toArray.extract 0 ys.length = ys.toArray := by simp
  rw [e1, e2] at h3
  refine ⟨he, d'.toList, h3, fun i j hij hj hlt => ?_, by rw [Array.toArray_toList]; exact holdsK_sortWorldK_c enc 3 w g 0 ys.toArray d' n os hH hg (by simpa using h1), grown_sortK w g n d' os⟩
  have hj' : j < d'.size := by simpa using hj
  have h4 := hs i j (Nat.zero_le _) hij (by omega)
  rw [ltO] at h4
  refine of_decide_eq_false h4 ?_
  rw [getElem!_pos d' j hj', getElem!_pos d' i (by omega)]
  rw [getD_at hj, getD_at (by omega)] at hlt
  simpa using hlt
end Pl
end Go.Proofs.Ytoljlpddcpdoiaa
