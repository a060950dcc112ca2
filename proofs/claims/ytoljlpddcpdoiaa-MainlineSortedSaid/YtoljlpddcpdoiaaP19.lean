/- The mainline: the order of places; what Order must return. No program. -/
import Derived.Test.YtoljlpddcpdoiaaW18
namespace Go.Proofs.Ytoljlpddcpdoiaa
open Go Go.RowKit Go.Maps
set_option linter.unusedVariables false
set_option linter.unusedSimpArgs false

namespace Pl
theorem ltP_asymm {p q : Rc} (h : ltP p q) : ¬ ltP q p := by unfold ltP at *; omega
theorem ltP_trans {p q r : Rc} (h : ltP p q) (k : ltP q r) : ltP p r := by unfold ltP at *; omega
theorem ltP_tri (p q : Rc) : ltP p q ∨ p = q ∨ ltP q p := by
  have h : p = q ↔ (p.cl0 = q.cl0 ∧ p.tm = q.tm ∧ p.id = q.id) := by
    constructor
    · rintro rfl; exact ⟨rfl, rfl, rfl⟩
    · rintro ⟨h1, h2, h3⟩; exact Rc.ext h1 h2 h3
  rw [h]
  unfold ltP
  omega
def Srt (zs : List Rc) : Prop := zs.Pairwise ltP
theorem srt_unique {a b : List Rc} (ha : Srt a) (hb : Srt b) (h : a.Perm b) : a = b :=
  h.eq_of_pairwise (le := ltP) (fun x y _ _ h1 h2 => absurd h2 (ltP_asymm h1)) ha hb
theorem srt_of {zs : List Rc} (h : ∀ i j, i < j → j < zs.length → ¬ ltP (zs.getD j t0) (zs.getD i t0)) (hd : zs.Nodup) : Srt zs := by
  unfold Srt
  rw [List.pairwise_iff_getElem]
  intro i j hi hj hij
  have h1 := h i j hij hj
  rw [getD_at hj, getD_at hi] at h1
  have h2 := (List.pairwise_iff_getElem.1 (List.nodup_iff_pairwise_ne.1 hd)) i j hi hj hij
  rcases ltP_tri zs[i] zs[j] with a | a | a
  · exact a
  · exact absurd a h2
  · exact absurd a h1
/-- A place put into a list in order. -/
def insP (p : Rc) : List Rc → List Rc
  | [] => [p]
  | q :: r => if ltP q p then q :: insP p r else p :: q :: r
def srtP (l : List Rc) : List Rc := l.foldr insP []
theorem insP_perm (p : Rc) : ∀ l : List Rc, (insP p l).Perm (p :: l)
  | [] => List.Perm.refl _
  | q :: r => by
    unfold insP
    split
    · exact ((insP_perm p r).cons q).trans (List.Perm.swap p q r)
    · exact List.Perm.refl _
theorem insP_srt {p : Rc} : ∀ {l : List Rc}, Srt l → p ∉ l → Srt (insP p l)
  | [], _, _ => by simp [insP, Srt]
  | q :: r, h, hn => by
    unfold insP
    obtain ⟨h1, h2⟩ := List.pairwise_cons.1 h
    have hpq : p ≠ q := fun e => hn (by rw [e]; exact List.mem_cons_self)
    split
    · rename_i hq
      refine List.pairwise_cons.2 ⟨fun x hx => ?_, insP_srt h2 (fun hm => hn (List.mem_cons_of_mem _ hm))⟩
      rcases List.mem_cons.1 ((insP_perm p r).mem_iff.1 hx) with rfl | hx
      · exact hq
      · exact h1 x hx
    · rename_i hq
      have hlt : ltP p q := by
        rcases ltP_tri p q with a | a | a
        · exact a
        · exact absurd a hpq
        · exact absurd a hq
      refine List.pairwise_cons.2 ⟨fun x hx => ?_, h⟩
      rcases List.mem_cons.1 hx with rfl | hx
      · exact hlt
      · exact ltP_trans hlt (h1 x hx)
theorem srtP_perm : ∀ l : List Rc, (srtP l).Perm l
  | [] => List.Perm.refl _
  | p :: r => (insP_perm p _).trans ((srtP_perm r).cons p)
theorem srtP_srt : ∀ {l : List Rc}, l.Nodup → Srt (srtP l)
  | [], _ => List.Pairwise.nil
  | p :: r, h => by
    obtain ⟨h1, h2⟩ := List.nodup_cons.1 h
    exact insP_srt (srtP_srt h2) (fun hm => h1 ((srtP_perm r).mem_iff.1 hm))
theorem srtP_eq {zs l : List Rc} (hp : zs.Perm l) (hd : l.Nodup) (hs : Srt zs) : zs = srtP l := srt_unique hs (srtP_srt hd) (hp.trans (srtP_perm l).symm)
theorem srtP_len (l : List Rc) : (srtP l).length = l.length := (srtP_perm l).length_eq
end Pl
/-- The place of a known id. -/
def plOf (E : Nat → Me) (n : Nat) (ms : List Int) (n1 : Nat) (id : Int) : Option Pl.Rc := match plc E n id with
  | some i => some ⟨clo (wayL E n id) (rk ms) n1, (E i.toNat).tm, id⟩
  | none => none
theorem plOf_id {E : Nat → Me} {n : Nat} {ms : List Int} {n1 : Nat} {id : Int} {p : Pl.Rc} (h : plOf E n ms n1 id = some p) : p.id = id := by
  unfold plOf at h
  split at h
  · simp only [Option.some.injEq] at h; rw [← h]
  · cases h
theorem plOf_some (E : Nat → Me) (n : Nat) (ms : List Int) (n1 : Nat) (id : Int) : (plOf E n ms n1 id).isSome = known E n id := by
  unfold plOf known
  cases plc E n id <;> rfl
def ps (E : Nat → Me) (n : Nat) (ms : List Int) (n1 : Nat) (ss : List Int) : List Pl.Rc := ss.filterMap (plOf E n ms n1)
theorem ps_len (E : Nat → Me) (n : Nat) (ms : List Int) (n1 : Nat) (ss : List Int) : (ps E n ms n1 ss).length ≤ ss.length := List.length_filterMap_le _ _
theorem ps_succ (E : Nat → Me) (n : Nat) (ms : List Int) (n1 : Nat) {ss : List Int} {k : Nat} (h : k < ss.length) : ps E n ms n1 (ss.take (k + 1)) = ps E n ms n1 (ss.take k) ++ (plOf E n ms n1 (ss.getD k 0)).toList := by
  unfold ps
  rw [List.take_succ_eq_append_getElem h, List.filterMap_append, List.getD_eq_getElem?_getD, List.getElem?_eq_getElem h]
  cases hp : plOf E n ms n1 ss[k] <;> simp [hp]
theorem ps_ids (E : Nat → Me) (n : Nat) (ms : List Int) (n1 : Nat) : ∀ ss : List Int, (ps E n ms n1 ss).map (·.id) = ss.filter (known E n)
  | [] => rfl
  | s :: r => by
    have ih := ps_ids E n ms n1 r
    unfold ps at ih ⊢
    cases hp : plOf E n ms n1 s with
    | none =>
      have : known E n s = false := by rw [← plOf_some E n ms n1, hp]; rfl
      rw [List.filterMap_cons_none hp, ih, List.filter_cons, this]; simp
    | some p =>
      have : known E n s = true := by rw [← plOf_some E n ms n1, hp]; rfl
      rw [List.filterMap_cons_some hp, List.map_cons, ih, plOf_id hp, List.filter_cons, this]; simp
theorem ps_nodup {E : Nat → Me} {n : Nat} {ms : List Int} {n1 : Nat} {ss : List Int} (h : ss.Nodup) : (ps E n ms n1 ss).Nodup := by
  have h1 : ((ps E n ms n1 ss).map (·.id)).Nodup := by rw [ps_ids]; exact h.filter _
  exact List.Pairwise.of_map (fun p : Pl.Rc => p.id) (fun a b hab e => hab (by rw [e])) h1
/-- What Order returns. -/
def ordP (E : Nat → Me) (n : Nat) (ms : List Int) (n1 : Nat) (ss : List Int) : List Pl.Rc := Pl.srtP (ps E n ms n1 ss)
def ordL (E : Nat → Me) (n : Nat) (ms : List Int) (n1 : Nat) (zs : List Int) : List Int := (ordP E n ms n1 (Q.M.st zs)).map (·.id)
theorem ordL_perm (E : Nat → Me) (n : Nat) (ms : List Int) (n1 : Nat) (zs : List Int) : (ordL E n ms n1 zs).Perm ((Q.M.st zs).filter (known E n)) := by
  unfold ordL ordP
  rw [← ps_ids E n ms n1]
  exact (Pl.srtP_perm _).map _
theorem mem_ordL {E : Nat → Me} {n : Nat} {ms : List Int} {n1 : Nat} {zs : List Int} {x : Int} : x ∈ ordL E n ms n1 zs ↔ x ∈ zs ∧ known E n x = true := by
  rw [(ordL_perm E n ms n1 zs).mem_iff, List.mem_filter, Q.M.mem_st]
end Go.Proofs.Ytoljlpddcpdoiaa
