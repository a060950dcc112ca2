/- One-time keys: what a map's range collects; a sorted row of the call's own. No condition. -/
import Derived.Test.YtkmocchikgmnbaaW6
import Derived.Shelf.GgSortFunc.RowK
import Derived.Shelf.SlSortCmp.InsertionK
import Derived.Sort.Statements
import Derived.ChangeKeysEq
namespace Go.Proofs.Ytkmocchikgmnbaa
open Go.RowKit
set_option linter.unusedVariables false
set_option linter.unusedSimpArgs false

/-- The same device. -/
def sd (a b : Rc) : Prop := a.us = b.us ∧ a.dv = b.dv
theorem dev_sd {a b : Rc} : dev a.us a.dv b = true ↔ sd b a := dev_iff
/-- No device twice. -/
def Dis (zs : List Rc) : Prop := zs.Pairwise (fun a b => ¬ sd a b)
theorem Dis.put {zs : List Rc} (h : Dis zs) (p : Rc) : Dis (putL zs p) := by
  unfold Dis putL
  refine List.pairwise_append.2 ⟨h.filter _, by simp, fun a ha b hb => ?_⟩
  rw [List.mem_singleton] at hb
  subst hb
  have h2 := (List.mem_filter.1 ha).2
  intro hs
  rw [dev_sd.2 hs] at h2
  cases h2
theorem dis_puts (zs : List Rc) : Dis (puts zs) := by
  unfold puts
  suffices ∀ acc, Dis acc → Dis (zs.foldl putL acc) from this [] List.Pairwise.nil
  induction zs with
  | nil => intro acc h; exact h
  | cons p r ih => intro acc h; exact ih _ (h.put p)
theorem kO_sd {a b : Rc} (ha : fitR a) (hb : fitR b) : kO a = kO b ↔ sd a b := by
  have := kL_eq hb.1 hb.2 ha
  unfold kO at this ⊢
  rw [this, dev_iff]; rfl
/-- What has been collected of a map. -/
structure Coll (D : DataW Value) (left : Lit → Bool) (ys : List Rc) : Prop where
  got : ∀ y ∈ ys, fitR y ∧ Maps.has D (kO y) = true ∧ ∀ z, D.atKey (kO y) z = .held (mkV y)
  rest : ∀ kl, left kl = true ↔ (Maps.has D kl = true ∧ ∀ y ∈ ys, kO y ≠ kl)
  dist : Dis ys
theorem Coll.start (D : DataW Value) : Coll D (Maps.has D) [] := ⟨by simp, fun kl => by simp, List.Pairwise.nil⟩
theorem Coll.step {D : DataW Value} {left : Lit → Bool} {ys zs : List Rc} (h : Coll D left ys) (hr : Rep D zs) {kl : Lit} {c : Rc} {y : DataW Value × List MemPlace} (hl : left kl = true) (hv : RV (mkV c) = some y) (hat : ∀ zd, D.atKey kl zd = y.1) :
    fitR c ∧ Coll D (fun z => left z && !z.sameKey kl) (ys ++ [c]) := by
  obtain ⟨q, e1, hq, rfl⟩ := RV_inv hv
  obtain rfl := mkV_inj e1
  have h0 := (h.rest kl).1 hl
  obtain ⟨p, hp, rfl⟩ := hr.bwd kl h0.1
  have h1 := (hr.fwd p hp).2 .nil
  rw [hat] at h1
  obtain rfl : c = p := mkV_inj (by simpa using h1)
  refine ⟨hq, ⟨fun y hy => ?_, fun k => ?_, ?_⟩⟩
  · rcases List.mem_append.1 hy with hy | hy
    · exact h.got y hy
    · rw [List.mem_singleton] at hy; subst hy
      exact ⟨hq, h0.1, fun z => (hr.fwd _ hp).2 z⟩
  · by_cases e : k = kO c
    · subst e
      rw [WideAt.sameKey_self (kO_key c)]
      simp only [Bool.not_true, Bool.and_false, Bool.false_eq_true, false_iff, not_and]
      intro _ h3
      exact h3 c (by simp) rfl
    · have hs : k.sameKey (kO c) = false := by
        cases hs : k.sameKey (kO c)
        · rfl
        · exact absurd (WideAt.sameKey_eq hs) e
      rw [hs, Bool.not_false, Bool.and_true, h.rest k]
      constructor
      · rintro ⟨a, b⟩
        refine ⟨a, fun y hy => ?_⟩
        rcases List.mem_append.1 hy with hy | hy
        · exact b y hy
        · rw [List.mem_singleton] at hy; subst hy; exact fun e2 => e e2.symm
      · rintro ⟨a, b⟩
        exact ⟨a, fun y hy => b y (List.mem_append.2 (.inl hy))⟩
  · refine List.pairwise_append.2 ⟨h.dist, by simp, fun a ha b hb => ?_⟩
    rw [List.mem_singleton] at hb; subst hb
    intro hs
    exact h0.2 a ha ((kO_sd (h.got a ha).1 hq).2 hs)
theorem Coll.done {D : DataW Value} {left : Lit → Bool} {ys zs : List Rc} (h : Coll D left ys) (hr : Rep D zs) (hz : Dis zs) (hl : ∀ kl, left kl = false) : ys.Perm zs := by
  have hm : ∀ y, y ∈ ys ↔ y ∈ zs := by
    intro y
    constructor
    · intro hy
      obtain ⟨hf, h1, h2⟩ := h.got y hy
      obtain ⟨p, hp, e⟩ := hr.bwd _ h1
      have h3 := (hr.fwd p hp).2 .nil
      rw [← e, h2] at h3
      obtain rfl : y = p := mkV_inj (by simpa using h3)
      exact hp
    · intro hy
      obtain ⟨h1, h2⟩ := hr.fwd y hy
      have h3 : ¬ (Maps.has D (kO y) = true ∧ ∀ x ∈ ys, kO x ≠ kO y) := fun h4 => by have h5 := hl (kO y); rw [(h.rest _).2 h4] at h5; cases h5
      have h4 : ∃ x ∈ ys, kO x = kO y := Classical.byContradiction fun h5 => h3 ⟨h1, fun x hx e => h5 ⟨x, hx, e⟩⟩
      obtain ⟨x, hx, e⟩ := h4
      have h5 := (h.got x hx).2.2 .nil
      rw [e, h2] at h5
      obtain rfl : y = x := mkV_inj (by simpa using h5)
      exact hx
  have nd : ∀ {l : List Rc}, Dis l → l.Nodup := fun h => h.imp fun {a b} hab e => hab (by subst e; exact ⟨rfl, rfl⟩)
  exact (List.perm_ext_iff_of_nodup (nd h.dist) (nd hz)).2 hm
instance : Inhabited Rc := ⟨t0⟩
theorem enc_at (p : Rc) {i : Nat} (h : i < 4) : (enc p)[i]? = some ((enc p)[i]!) := by
  rw [List.getElem!_eq_getElem?_getD, List.getElem?_eq_getElem (by rw [enc_len]; exact h)]; rfl
theorem arr_at (ys : List Rc) {j : Nat} (h : j < ys.length) : ys.toArray[j]! = ys.getD j t0 := by
  simp [List.getD_eq_getElem?_getD, h]
theorem holds_of_blk {w : World} {g n : Nat} {cur : List Value} {ys : List Rc} (h : Blk w g cur 45) (hc : cur.take (n * 4) = cl ys) (hl : ys.length = n) : Sort.HoldsK enc 4 w g 0 ys.toArray := by
  intro j hj
  have hj' : j < n * 4 := by simpa [hl] using hj
  refine ⟨?_, h.free _⟩
  rw [Sort.get_flatK _ _ _ _ (by simpa [hl] using hj'), arr_at ys (by omega), Nat.zero_add]
  refine h.cell ?_
  have e1 : j = j / 4 * 4 + j % 4 := by omega
  have e2 : cur[j]? = (cl ys)[j]? := by rw [← hc, List.getElem?_take_of_lt hj']
  rw [e2]
  conv => lhs; rw [e1]
  rw [cl_get ys _ _ (by omega) (by omega), enc_at _ (by omega)]
  rfl
theorem Rcs.ofHolds {w : World} {g c : Nat} {ys : List Rc} (h : Sort.HoldsK enc 4 w g 0 ys.toArray) (hlt : g < w.heap.size) (hn : ys.length ≤ c) (hm : ys.length ≤ 1000000) (hf : ∀ p ∈ ys, fitR p) : Rcs w (some ⟨g, 0, none⟩) ys.length c ys := by
  refine ⟨⟨fun j _ => rfl, fun j _ => enc_one _, by unfold maxLen; omega, (fun e => by cases e), .inr ⟨g, 0, rfl, hlt, fun j hj i v hv => ?_⟩⟩, rfl, hn, hf⟩
  have hi : i < 4 := (List.getElem?_eq_some_iff.1 hv).1
  have hv' : (enc (ys.getD j t0))[i]? = some v := hv
  rw [enc_at _ hi] at hv'
  have := (h (j * 4 + i) (by simp; omega)).1
  rw [Sort.get_flatK _ _ _ _ (by simp; omega), show (j * 4 + i) / 4 = j by omega, show (j * 4 + i) % 4 = i by omega, arr_at ys hj] at this
  rw [Nat.add_assoc, this]
  exact hv'
theorem grown_sortK (w : World) (g n : Nat) (d : Array Rc) (os : Array Obj) : w.grownBy (sortWorldK enc 4 w g 0 n d os) (some g) := by
  refine ⟨rfl, rfl, rfl, ?_, fun k hk hne => ?_⟩
  · have : (sortWorldK enc 4 w g 0 n d os).heap.size = w.heap.size + os.size := by
      unfold sortWorldK Sort.putRowK Sort.putRow Sort.mapBlock Sort.ahead
      simp
    omega
  · have hkg : g ≠ k := fun e => hne (by rw [e])
    unfold sortWorldK Sort.putRowK Sort.putRow Sort.mapBlock Sort.ahead Sort.grow
    simp only [Array.getElem?_append, Array.size_modify, Array.getElem?_modify]
    simp [hk, hkg]
end Go.Proofs.Ytkmocchikgmnbaa
