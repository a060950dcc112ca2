/- One-time keys: what a right list is; what Upload and Claim give. No program. -/
import Derived.Test.YtkmocchikgmnbaaW9
namespace Go.Proofs.Ytkmocchikgmnbaa
open Go.RowKit
set_option linter.unusedVariables false
set_option linter.unusedSimpArgs false

theorem chk_zero {zs : List Rc} {n : Nat} (h : chk zs n = 0) : ∀ i, i < n → stepM zs i = 0 := by
  intro i hi
  refine Classical.byContradiction fun hne => ?_
  unfold chk at h
  cases hf : ((List.range n).map (stepM zs)).find? (fun r => r != 0) with
  | none =>
    have := List.find?_eq_none.1 hf (stepM zs i) (List.mem_map.2 ⟨i, by simpa using hi, rfl⟩)
    simp at this
    exact hne this
  | some r =>
    have h1 := List.find?_some hf
    rw [hf] at h
    simp at h h1
    exact h1 h
/-- A right entry. -/
structure Ok (p : Rc) : Prop where
  dev : okO p.us p.dv = true
  rng : 0 ≤ p.lf ∧ p.lf ≤ 200 ∧ p.lf ≤ p.nx ∧ p.nx ≤ 1000000000000
theorem fE_zero {p : Rc} : fE p = 0 ↔ Ok p := by
  unfold fE
  constructor
  · intro h
    split at h
    · rename_i h1
      split at h
      · cases h
      · rename_i h2
        unfold rngE at h2
        exact ⟨h1, by omega⟩
    · cases h
  · rintro ⟨h1, h2⟩
    rw [if_pos h1, if_neg (by unfold rngE; omega)]
theorem step_zero {zs : List Rc} {i : Nat} : stepM zs i = 0 ↔ Ok (zs.getD i t0) ∧ (0 < i → ltR (zs.getD (i - 1) t0) (zs.getD i t0)) := by
  unfold stepM
  constructor
  · intro h
    split at h
    · rename_i h1
      split at h
      · cases h
      · rename_i h2
        refine ⟨fE_zero.1 h1, fun hi => ?_⟩
        refine (bef_iff _ _).1 ?_
        cases hb : bef (zs.getD (i - 1) t0) (zs.getD i t0).us (zs.getD i t0).dv
        · exact absurd ⟨hi, hb⟩ h2
        · rfl
    · rename_i h1; exact absurd h h1
  · rintro ⟨h1, h2⟩
    rw [if_pos (fE_zero.2 h1), if_neg]
    rintro ⟨hi, hb⟩
    rw [(bef_iff _ _).2 (h2 hi)] at hb
    cases hb
/-- A right list. -/
structure Right (zs : List Rc) : Prop where
  ok : ∀ p ∈ zs, Ok p
  srt : Srt zs
theorem right_iff {zs : List Rc} : chk zs zs.length = 0 ↔ Right zs := by
  constructor
  · intro h
    have h0 := chk_zero h
    refine ⟨fun p hp => ?_, ?_⟩
    · obtain ⟨i, hi, rfl⟩ := List.getElem_of_mem hp
      have := (step_zero.1 (h0 i hi)).1
      rwa [getD_at hi] at this
    · have h1 : ∀ d i, i + d + 1 < zs.length → ltR (zs.getD i t0) (zs.getD (i + d + 1) t0) := by
        intro d
        induction d with
        | zero => intro i hi; exact (step_zero.1 (h0 (i + 1) hi)).2 (by omega)
        | succ d ih =>
          intro i hi
          exact ltR_trans (ih i (by omega)) ((step_zero.1 (h0 (i + (d + 1) + 1) hi)).2 (by omega))
      unfold Srt
      rw [List.pairwise_iff_getElem]
      intro i j hi hj hij
      have := h1 (j - i - 1) i (by omega)
      rw [show i + (j - i - 1) + 1 = j by omega, getD_at hi, getD_at hj] at this
      exact this
  · rintro ⟨h1, h2⟩
    refine chk_no fun j hj => step_zero.2 ⟨?_, fun h0 => ?_⟩
    · rw [getD_at hj]; exact h1 _ (List.getElem_mem _)
    · rw [getD_at hj, getD_at (by omega)]
      exact (List.pairwise_iff_getElem.1 h2) (j - 1) j (by omega) hj (by omega)
/-- A list without a device twice is what its map holds. -/
theorem puts_id {zs : List Rc} (h : Dis zs) : puts zs = zs := by
  unfold puts
  suffices ∀ (r acc : List Rc), Dis (acc ++ r) → r.foldl putL acc = acc ++ r from this zs [] h
  intro r
  induction r with
  | nil => intro acc _; simp
  | cons p r ih =>
    intro acc hd
    have e : putL acc p = acc ++ [p] := by
      unfold putL
      congr 1
      refine List.filter_eq_self.2 fun q hq => ?_
      have h2 := (List.pairwise_append.1 hd).2.2 q hq p (by simp)
      cases hx : dev p.us p.dv q
      · rfl
      · exact absurd (dev_sd.1 hx) h2
    rw [List.foldl_cons, e, ih (acc ++ [p]) (by simpa using hd)]
    simp
theorem lk_ok {zs : List Rc} (h : Right zs) (u d : ByteArray) : lk zs u d = t0 ∧ (∀ p ∈ zs, dev u d p = false) ∨ (lk zs u d ∈ zs ∧ dev u d (lk zs u d) = true) := by
  unfold lk
  cases hf : zs.find? (dev u d) with
  | none => exact .inl ⟨rfl, fun p hp => by simpa using List.find?_eq_none.1 hf p hp⟩
  | some p => exact .inr ⟨List.mem_of_find?_eq_some hf, List.find?_some hf⟩
theorem lk_rng {zs : List Rc} (h : Right zs) (u d : ByteArray) : 0 ≤ (lk zs u d).lf ∧ (lk zs u d).lf ≤ 200 ∧ (lk zs u d).lf ≤ (lk zs u d).nx ∧ (lk zs u d).nx ≤ 1000000000000 := by
  rcases lk_ok h u d with ⟨e, _⟩ | ⟨hm, _⟩
  · rw [e]; decide
  · exact (h.ok _ hm).rng
/-- The error of Upload. -/
def upE (zs : List Rc) (u d : ByteArray) (k : Int) : Int :=
  if chk zs zs.length = 0 then (if okO u d = true then (if k < 1 ∨ 100 < k then 2 else if 200 < (lk zs u d).lf + k ∨ 1000000000000 < (lk zs u d).nx + k then 29 else 0) else 3) else chk zs zs.length
def upP (zs : List Rc) (u d : ByteArray) (k : Int) : Rc := ⟨u, d, (lk zs u d).nx + k, (lk zs u d).lf + k⟩
/-- The error of Claim. -/
def clE (zs : List Rc) (u d : ByteArray) : Int := if chk zs zs.length = 0 then (if (lk zs u d).lf = 0 then 5 else 0) else chk zs zs.length
def clP (zs : List Rc) (u d : ByteArray) : Rc := ⟨u, d, (lk zs u d).nx, (lk zs u d).lf - 1⟩
/-- A list that is nil, or right and like zs. -/
def OutP (w0 : World) (E : Int) (zs : List Rc) (A : Option Addr) (c : Nat) (ys : List Rc) (w' : World) : Prop :=
  Rcs w' A ys.length c ys ∧ Below w0.heap.size w0 w' ∧ New w0 ys.length A ∧ (E = 0 → ys.Perm zs ∧ Srt ys) ∧ (E ≠ 0 → ys = [])
theorem new_none (w : World) : New w 0 none := fun h => by omega
theorem outP_err {w0 w' : World} {E : Int} {zs : List Rc} (hE : E ≠ 0) (hb : Below w0.heap.size w0 w') : OutP w0 E zs none 0 [] w' := ⟨Rcs.nil w', hb, new_none w0, fun h => absurd h hE, fun _ => rfl⟩
theorem outP_ok {w0 w1 w' : World} {zs ys : List Rc} {A : Option Addr} {c : Nat} (h : Rcs w' A ys.length c ys) (hp : ys.Perm zs) (hs : Srt ys) (h1 : Below w0.heap.size w0 w1) (hb : Below w1.heap.size w1 w') (hn : New w1 ys.length A) : OutP w0 0 zs A c ys w' :=
  ⟨h, h1.trans (hb.mono h1.size), hn.mono h1.size, fun _ => ⟨hp, hs⟩, fun h => absurd rfl h⟩
theorem putL_ne (zs : List Rc) (p : Rc) : putL zs p ≠ [] := by unfold putL; simp
end Go.Proofs.Ytkmocchikgmnbaa
