/- The keys of events: their order; slices.SortFunc at keys; the sorted list without repeats. Bound: fewer than 2^62 keys. -/
import Derived.Test.YtbedibiodlgegaaK2
import Derived.Test.YtbedibiodlgegaaShelfF
import Derived.Shelf.GgSortFunc.RowK
import Derived.Shelf.SlSortCmp.InsertionK
import Derived.Sort.Statements
import Derived.ChangeKeysEq
import Derived.Shelf.Abstract
namespace Go.Proofs.Ytbedibiodlgegaa
open Go Go.RowKit
set_option linter.unusedVariables false
set_option linter.unusedSimpArgs false
theorem bytesLess_eq : ∀ (x y : List UInt8), Op.bytesLess x y = decide (x < y)
  | [], [] => by simp [Op.bytesLess]
  | _ :: _, [] => by simp [Op.bytesLess]
  | [], _ :: _ => by simp [Op.bytesLess]
  | a :: x, b :: y => by
    rw [Op.bytesLess, bytesLess_eq x y]
    simp only [List.cons_lt_cons_iff]
    by_cases h1 : a < b <;> by_cases h2 : a = b <;> by_cases h3 : x < y <;> simp [h1, h2, h3]
theorem tri {a b : List UInt8} (h : ¬ a < b) (hne : a ≠ b) : b < a := by
  by_cases h2 : b < a
  · exact h2
  · exact absurd (List.le_antisymm (List.not_lt.1 h2) (List.not_lt.1 h)) hne
theorem cmpS_val (a b : ByteArray) : (a.toList < b.toList ∧ cmpS a b = -1) ∨ (a.toList = b.toList ∧ cmpS a b = 0) ∨ (b.toList < a.toList ∧ cmpS a b = 1) := by
  unfold cmpS
  rw [bytesLess_eq]
  by_cases h1 : a.toList < b.toList
  · exact .inl ⟨h1, by simp [h1]⟩
  · by_cases h2 : a.toList = b.toList
    · exact .inr (.inl ⟨h2, by simp [h2, List.lt_irrefl]⟩)
    · exact .inr (.inr ⟨tri h1 h2, by simp [h1, h2]⟩)
theorem eq_of_toList {a b : ByteArray} (h : a.toList = b.toList) : a = b := by
  rw [Lib.toList_data, Lib.toList_data] at h
  apply ByteArray.ext
  exact Array.toList_inj.1 h
namespace Ky
open Go.Shelf Go.Sort
instance : Inhabited Rc := ⟨t0⟩
instance : DecidableEq Rc := fun a b => if h : a.k = b.k ∧ a.key = b.key ∧ a.id = b.id then isTrue (Rc.ext h.1 h.2.1 h.2.2) else isFalse (fun e => h (by rw [e]; exact ⟨rfl, rfl, rfl⟩))
def ltK (p q : Rc) : Prop := p.k < q.k ∨ (p.k = q.k ∧ p.key.toList < q.key.toList)
instance (p q : Rc) : Decidable (ltK p q) := by unfold ltK; infer_instance
theorem ltK_irrefl (p : Rc) : ¬ ltK p p := by
  rintro (h | ⟨_, h⟩)
  · omega
  · exact List.lt_irrefl _ h
theorem ltK_trans {p q r : Rc} (h : ltK p q) (k : ltK q r) : ltK p r := by
  rcases h with h | ⟨h, h2⟩ <;> rcases k with k | ⟨k, k2⟩
  · exact .inl (by omega)
  · exact .inl (by omega)
  · exact .inl (by omega)
  · exact .inr ⟨by omega, List.lt_trans h2 k2⟩
theorem ltK_asymm {p q : Rc} (h : ltK p q) : ¬ ltK q p := fun k => ltK_irrefl p (ltK_trans h k)
/-- The same key. -/
def sd (p q : Rc) : Prop := p.k = q.k ∧ p.key.toList = q.key.toList
instance (p q : Rc) : Decidable (sd p q) := by unfold sd; infer_instance
theorem ltK_tri (p q : Rc) : ltK p q ∨ sd p q ∨ ltK q p := by
  by_cases h1 : p.k < q.k
  · exact .inl (.inl h1)
  · by_cases h2 : p.k = q.k
    · by_cases h3 : p.key.toList < q.key.toList
      · exact .inl (.inr ⟨h2, h3⟩)
      · by_cases h4 : p.key.toList = q.key.toList
        · exact .inr (.inl ⟨h2, h4⟩)
        · exact .inr (.inr (.inr ⟨h2.symm, tri h3 h4⟩))
    · exact .inr (.inr (.inl (by omega)))
theorem sd_lt {p q r : Rc} (h : sd p q) (k : ltK q r) : ltK p r := by
  obtain ⟨h1, h2⟩ := h
  unfold ltK at k ⊢
  rw [h1, h2]; exact k
theorem lt_sd {p q r : Rc} (k : ltK p q) (h : sd q r) : ltK p r := by
  obtain ⟨h1, h2⟩ := h
  unfold ltK at k ⊢
  rw [← h1, ← h2]; exact k
theorem sd_symm {p q : Rc} (h : sd p q) : sd q p := ⟨h.1.symm, h.2.symm⟩
theorem sd_eq {p q : Rc} (h : sd p q) (hp : p.id = 0) (hq : q.id = 0) : p = q := Rc.ext h.1 (eq_of_toList h.2) (hp.trans hq.symm)
theorem orI2 (a b : Int) : orI [a, b] = if a = 0 then b else a := by
  unfold orI
  by_cases h1 : a = 0
  · by_cases h2 : b = 0 <;> simp [h1, h2]
  · simp [h1]
theorem cmpK_neg (p q : Rc) : cmpK p q < 0 ↔ ltK p q := by
  unfold cmpK ltK
  rw [orI2]
  by_cases h1 : p.k < q.k
  · have : cmpI p.k q.k = -1 := by unfold cmpI; rw [if_pos h1]
    rw [this]; simp [h1]
  · by_cases h2 : p.k = q.k
    · have : cmpI p.k q.k = 0 := by unfold cmpI; rw [if_neg h1, if_neg (by omega)]
      rw [this, if_pos rfl]
      rcases cmpS_val p.key q.key with ⟨h3, e⟩ | ⟨h3, e⟩ | ⟨h3, e⟩
      · rw [e]; simp [h2, h3]
      · rw [e, h3]; simp [h1, List.lt_irrefl]
      · rw [e]; simp [h1, List.lt_asymm h3]
    · have : cmpI p.k q.k = 1 := by unfold cmpI; rw [if_neg h1, if_pos (by omega)]
      rw [this]; simp [h1, h2]
theorem ltO (p q : Rc) : ltOf cmpK p q = decide (ltK p q) := by
  unfold ltOf
  rw [decide_eq_decide]
  exact cmpK_neg p q
theorem swoK : Sort.SWO (ltOf cmpK) where
  irrefl x := by rw [ltO]; simpa using ltK_irrefl x
  trans x y z h1 h2 := by
    rw [ltO] at *
    exact decide_eq_true (ltK_trans (of_decide_eq_true h1) (of_decide_eq_true h2))
  ntrans x y z h1 h2 := by
    rw [ltO] at *
    have h1 := of_decide_eq_false h1
    have h2 := of_decide_eq_false h2
    refine decide_eq_false fun h => ?_
    rcases ltK_tri x y with a | a | a
    · exact h1 a
    · exact h2 (sd_lt (sd_symm a) h)
    · rcases ltK_tri y z with b | b | b
      · exact h2 b
      · exact ltK_asymm a (lt_sd h (sd_symm b))
      · exact ltK_irrefl x (ltK_trans h (ltK_trans b a))
theorem cmpLays45 (g size : Nat) (w : World) : CmpLays Try.prog 45 #[] enc 3 cmpK g 0 size w :=
  fun m os dk _ x y => (compare45 x y _).mono fun e w' ⟨he, hg⟩ => ⟨he, hg.grow⟩
theorem agg64 (w : World) : (isAgg 64).run Try.prog w = .ok true w := by kernel_rfl
theorem sz64 (w : World) : (Go.sizeOf 64).run Try.prog w = .ok 3 w := by kernel_rfl
theorem enc_at (p : Rc) {i : Nat} (h : i < 3) : (enc p)[i]? = some ((enc p)[i]!) := by
  rw [List.getElem!_eq_getElem?_getD, List.getElem?_eq_getElem (by rw [enc_len]; exact h)]; rfl
theorem arr_at (ys : List Rc) {j : Nat} (h : j < ys.length) : ys.toArray[j]! = ys.getD j t0 := by
  simp [List.getD_eq_getElem?_getD, h]
theorem holds_of_blk {w : World} {g n : Nat} {cur : List Value} {ys : List Rc} (h : Blk w g cur 64) (hc : cur.take (n * 3) = cl ys) (hl : ys.length = n) : Sort.HoldsK enc 3 w g 0 ys.toArray := by
  intro j hj
  have hj' : j < n * 3 := by simpa [hl] using hj
  refine ⟨?_, h.free _⟩
  rw [Sort.get_flatK _ _ _ _ (by simpa [hl] using hj'), arr_at ys (by omega), Nat.zero_add]
  refine h.cell ?_
  have e1 : j = j / 3 * 3 + j % 3 := by omega
  have e2 : cur[j]? = (cl ys)[j]? := by rw [← hc, List.getElem?_take_of_lt hj']
  rw [e2]
  conv => lhs; rw [e1]
  rw [cl_get ys _ _ (by omega) (by omega), enc_at _ (by omega)]
  rfl
theorem Rcs.ofHolds {w : World} {g c : Nat} {ys : List Rc} (h : Sort.HoldsK enc 3 w g 0 ys.toArray) (hlt : g < w.heap.size) (hn : ys.length ≤ c) (hm : ys.length ≤ 1000000) (hf : ∀ p ∈ ys, fitR p) : Rcs w (some ⟨g, 0, none⟩) ys.length c ys := by
  refine ⟨⟨fun j _ => rfl, fun j _ => enc_one _, by unfold maxLen; omega, (fun e => by cases e), .inr ⟨g, 0, rfl, hlt, fun j hj i v hv => ?_⟩⟩, rfl, hn, hf⟩
  have hi : i < 3 := (List.getElem?_eq_some_iff.1 hv).1
  have hv' : (enc (ys.getD j t0))[i]? = some v := hv
  rw [enc_at _ hi] at hv'
  have := (h (j * 3 + i) (by simp; omega)).1
  rw [Sort.get_flatK _ _ _ _ (by simp; omega), show (j * 3 + i) / 3 = j by omega, show (j * 3 + i) % 3 = i by omega, arr_at ys hj] at this
  rw [Nat.add_assoc, this]
  exact hv'
theorem grown_sortK (w : World) (g n : Nat) (d : Array Rc) (os : Array Obj) : w.grownBy (sortWorldK enc 3 w g 0 n d os) (some g) := by
  refine ⟨rfl, rfl, rfl, ?_, fun k hk hne => ?_⟩
  · have : (sortWorldK enc 3 w g 0 n d os).heap.size = w.heap.size + os.size := by
      unfold sortWorldK Sort.putRowK Sort.putRow Sort.mapBlock Sort.ahead
      simp
    omega
  · have hkg : g ≠ k := fun e => hne (by rw [e])
    unfold sortWorldK Sort.putRowK Sort.putRow Sort.mapBlock Sort.ahead Sort.grow
    simp only [Array.getElem?_append, Array.size_modify, Array.getElem?_modify]
    simp [hk, hkg]
theorem sort_blk {w : World} {g n : Nat} {d : Array Rc} {os : Array Obj} {cur : List Value} (h : Blk w g cur 64) : ∃ cur', Blk (sortWorldK enc 3 w g 0 n d os) g cur' 64 ∧ cur'.length = cur.length := by
  refine ⟨(Sort.putCells id 0 (Sort.flatK enc 3 d) cur.toArray).toList, ⟨?_⟩, by simp [Sort.putCells]⟩
  have hl := h.lt
  unfold sortWorldK Sort.grow Sort.putRowK Sort.putRow Sort.mapBlock Sort.ahead
  simp only [Array.getElem?_append, Array.size_modify, hl, if_true, Array.getElem?_modify, h.heap, Option.map_some, Sort.onCells, Array.toArray_toList]
/-- slices.SortFunc at keys. -/
theorem sortF_any (g cap : Nat) (ys : List Rc) (w : World) (hH : Sort.HoldsK enc 3 w g 0 ys.toArray) (hg : g < w.heap.size) (hsz : ys.length < 4611686018427387904) :
    Calls Try.prog 44 #[.slice (some ⟨g, 0, none⟩) ys.length cap, .func (.func 45) #[] #[]] w fun e w' => e = .returned (.tuple #[]) ∧ ∃ zs : List Rc, zs.Perm ys ∧ (∀ i j, i < j → j < zs.length → ¬ ltK (zs.getD j t0) (zs.getD i t0)) ∧ Sort.HoldsK enc 3 w' g 0 zs.toArray ∧ w.grownBy w' (some g) ∧ ∀ cur, Blk w g cur 64 → ∃ cur', Blk w' g cur' 64 ∧ cur'.length = cur.length := by
  have eg : ∀ args w, (callFunc 45 args).run Try.prog w = .ok (.enter 45 args) w := enters_of Try.func45 (by kernel_rfl) rfl
  have hcon := AnyQ.slices_SortFunc Try.sortF 3 agg64 sz64 enc enc_len enc_one cmpK swoK 45 #[] g 0 cap ys.toArray w eg (cmpLays45 g ys.toArray.size w) hH hg (by simpa using hsz)
  change Calls Try.prog 44 _ _ _ at hcon
  rw [List.size_toArray] at hcon
  refine hcon.mono ?_
  rintro e w' ⟨he, d', n, os, hp, hs, rfl⟩
  obtain ⟨h1, h2, h3⟩ := hp
  have hsd : d'.size = ys.length := by simpa using h1
  have e1 : d'.extract 0 ys.length = d' := by rw [← hsd]; simp
  have e2 : ys.toArray.extract 0 ys.length = ys.toArray := by simp
  rw [e1, e2] at h3
  refine ⟨he, d'.toList, h3, fun i j hij hj hlt => ?_, by rw [Array.toArray_toList]; exact holdsK_sortWorldK_c enc 3 w g 0 ys.toArray d' n os hH hg (by simpa using h1), grown_sortK w g n d' os, fun cur hb => sort_blk hb⟩
  have hj' : j < d'.size := by simpa using hj
  have h4 := hs i j (Nat.zero_le _) hij (by omega)
  rw [ltO] at h4
  refine of_decide_eq_false h4 ?_
  rw [getElem!_pos d' j hj', getElem!_pos d' i (by omega)]
  rw [getD_at hj, getD_at (by omega)] at hlt
  simpa using hlt



def Srt (zs : List Rc) : Prop := zs.Pairwise ltK
theorem srt_nodup {zs : List Rc} (h : Srt zs) : zs.Nodup := List.nodup_iff_pairwise_ne.2 (List.Pairwise.imp (fun {a b} (hab : ltK a b) (e : a = b) => by subst e; exact ltK_irrefl _ hab) h)
theorem srt_unique {a b : List Rc} (ha : Srt a) (hb : Srt b) (h : ∀ x, x ∈ a ↔ x ∈ b) : a = b :=
  ((List.perm_ext_iff_of_nodup (srt_nodup ha) (srt_nodup hb)).2 h).eq_of_pairwise (le := ltK) (fun x y _ _ h1 h2 => absurd h2 (ltK_asymm h1)) ha hb
/-- A list without its repeats, so far. -/
def cptUp (zs : List Rc) : Nat → List Rc
  | 0 => []
  | m + 1 => cptUp zs m ++ (if m = 0 ∨ zs.getD m t0 ≠ zs.getD (m - 1) t0 then [zs.getD m t0] else [])
theorem cptUp_len (zs : List Rc) : ∀ m, (cptUp zs m).length ≤ m
  | 0 => Nat.le_refl _
  | m + 1 => by
    have := cptUp_len zs m
    rw [cptUp, List.length_append]
    split <;> simp <;> omega
theorem cptUp_take {zs : List Rc} : ∀ {m : Nat}, m ≤ zs.length → (∀ j, 0 < j → j < m → zs.getD j t0 ≠ zs.getD (j - 1) t0) → cptUp zs m = zs.take m
  | 0, _, _ => rfl
  | m + 1, h, h2 => by
    rw [cptUp, cptUp_take (by omega) (fun j hj hj2 => h2 j hj (by omega)), if_pos, List.take_succ_eq_append_getElem (by omega), getD_at (by omega)]
    by_cases e : m = 0
    · exact .inl e
    · exact .inr (h2 m (by omega) (by omega))
theorem cptUp_spec (zs : List Rc) (hs : ∀ i j, i < j → j < zs.length → ¬ ltK (zs.getD j t0) (zs.getD i t0)) (h0 : ∀ p ∈ zs, p.id = 0) : ∀ m, m ≤ zs.length → Srt (cptUp zs m) ∧ (∀ x, x ∈ cptUp zs m ↔ ∃ j, j < m ∧ zs.getD j t0 = x)
  | 0, _ => ⟨List.Pairwise.nil, fun x => ⟨fun h => by simp [cptUp] at h, fun ⟨j, hj, _⟩ => by omega⟩⟩
  | m + 1, h => by
    obtain ⟨h1, h2⟩ := cptUp_spec zs hs h0 m (by omega)
    have hz : ∀ j, j < zs.length → (zs.getD j t0).id = 0 := fun j hj => h0 _ (by rw [getD_at hj]; exact List.getElem_mem _)
    rw [cptUp]
    by_cases hk : m = 0 ∨ zs.getD m t0 ≠ zs.getD (m - 1) t0
    · rw [if_pos hk]
      refine ⟨?_, fun x => ?_⟩
      · unfold Srt
        rw [List.pairwise_append]
        refine ⟨h1, List.pairwise_singleton _ _, fun a ha b hb => ?_⟩
        rw [List.mem_singleton] at hb
        obtain ⟨j, hj, rfl⟩ := (h2 a).1 ha
        subst hb
        have hm : zs.getD m t0 ≠ zs.getD (m - 1) t0 := by
          rcases hk with e | e
          · omega
          · exact e
        have hlt : ltK (zs.getD (m - 1) t0) (zs.getD m t0) := by
          rcases ltK_tri (zs.getD (m - 1) t0) (zs.getD m t0) with a | a | a
          · exact a
          · exact absurd (sd_eq a (hz _ (by omega)) (hz _ (by omega))).symm hm
          · exact absurd a (hs _ _ (by omega) (by omega))
        by_cases e : j = m - 1
        · rw [e]; exact hlt
        · rcases ltK_tri (zs.getD j t0) (zs.getD (m - 1) t0) with a | a | a
          · exact ltK_trans a hlt
          · exact sd_lt a hlt
          · exact absurd a (hs _ _ (by omega) (by omega))
      · rw [List.mem_append, List.mem_singleton, h2]
        constructor
        · rintro (⟨j, hj, e⟩ | e)
          · exact ⟨j, by omega, e⟩
          · exact ⟨m, by omega, e.symm⟩
        · rintro ⟨j, hj, e⟩
          by_cases e2 : j = m
          · subst e2; exact .inr e.symm
          · exact .inl ⟨j, by omega, e⟩
    · rw [if_neg hk, List.append_nil]
      refine ⟨h1, fun x => ?_⟩
      rw [h2]
      have hm : 0 < m ∧ zs.getD m t0 = zs.getD (m - 1) t0 := by
        refine ⟨by omega, Classical.byContradiction fun e => hk (.inr e)⟩
      constructor
      · rintro ⟨j, hj, e⟩; exact ⟨j, by omega, e⟩
      · rintro ⟨j, hj, e⟩
        by_cases e2 : j = m
        · subst e2; exact ⟨j - 1, by omega, by rw [← hm.2]; exact e⟩
        · exact ⟨j, by omega, e⟩
/-- A key put into its place, once. -/
def putK (p : Rc) : List Rc → List Rc
  | [] => [p]
  | q :: r => if ltK q p then q :: putK p r else if sd q p then q :: r else p :: q :: r
theorem mem_putK {p : Rc} (hp : p.id = 0) : ∀ {l : List Rc}, (∀ q ∈ l, q.id = 0) → ∀ x, x ∈ putK p l ↔ x = p ∨ x ∈ l
  | [], _, x => by simp [putK]
  | q :: r, h, x => by
    have hq := h q List.mem_cons_self
    unfold putK
    split
    · rw [List.mem_cons, mem_putK hp (fun y hy => h y (List.mem_cons_of_mem _ hy)), List.mem_cons]
      constructor
      · rintro (a | a | a)
        · exact .inr (.inl a)
        · exact .inl a
        · exact .inr (.inr a)
      · rintro (a | a | a)
        · exact .inr (.inl a)
        · exact .inl a
        · exact .inr (.inr a)
    · split
      · rename_i hs
        have e := sd_eq hs hq hp
        rw [List.mem_cons, ← e]
        constructor
        · intro a; exact .inr a
        · rintro (a | a)
          · exact .inl a
          · exact a
      · simp
theorem putK_srt {p : Rc} (hp : p.id = 0) : ∀ {l : List Rc}, (∀ q ∈ l, q.id = 0) → Srt l → Srt (putK p l)
  | [], _, _ => by simp [putK, Srt]
  | q :: r, h, hs => by
    obtain ⟨h1, h2⟩ := List.pairwise_cons.1 hs
    have hr := fun y hy => h y (List.mem_cons_of_mem q hy)
    unfold putK
    split
    · rename_i hq
      refine List.pairwise_cons.2 ⟨fun x hx => ?_, putK_srt hp hr h2⟩
      rcases (mem_putK hp hr x).1 hx with rfl | hx
      · exact hq
      · exact h1 x hx
    · rename_i hq
      split
      · exact hs
      · rename_i hd
        have hlt : ltK p q := by
          rcases ltK_tri p q with a | a | a
          · exact a
          · exact absurd (sd_symm a) hd
          · exact absurd a hq
        refine List.pairwise_cons.2 ⟨fun x hx => ?_, hs⟩
        rcases List.mem_cons.1 hx with rfl | hx
        · exact hlt
        · exact ltK_trans hlt (h1 x hx)
theorem putK_zero {p : Rc} (hp : p.id = 0) {l : List Rc} (h : ∀ q ∈ l, q.id = 0) : ∀ q ∈ putK p l, q.id = 0 := fun q hq => by
  rcases (mem_putK hp h q).1 hq with rfl | hq
  · exact hp
  · exact h q hq
end Ky
end Go.Proofs.Ytbedibiodlgegaa
