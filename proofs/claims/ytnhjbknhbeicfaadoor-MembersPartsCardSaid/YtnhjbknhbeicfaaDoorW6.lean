/- The servers of the users of a list of texts, by both. Bound: at most 90000 texts. -/
import Derived.Test.YtnhjbknhbeicfaaDoorW4
import Derived.Test.YtnhjbknhbeicfaaDoorW5
namespace Go.Proofs.YtnhjbknhbeicfaaDoor
open Go.RowKit
set_option linter.unusedVariables false
set_option linter.unusedSimpArgs false

theorem ddp_le (l : List I.Txt) : ∀ acc, (I.ddp acc l).length ≤ acc.length + l.length := by
  induction l with
  | nil => intro acc; exact Nat.le_refl _
  | cons x l ih =>
    intro acc
    have := ih (I.addNew acc x)
    have h2 : (I.addNew acc x).length ≤ acc.length + 1 := by unfold I.addNew; split <;> simp
    have h3 : I.ddp acc (x :: l) = I.ddp (I.addNew acc x) l := rfl
    rw [h3, List.length_cons]; omega
theorem nm_le (l : List I.Txt) : (I.nm l).length ≤ l.length := by
  unfold I.nm
  rw [List.length_mergeSort]
  have := ddp_le l []
  simpa using this
theorem wl_le (n : Nat) (K : Nat → Kc) (m : Int) : (wl n K m).length ≤ n := by
  refine Nat.le_trans (nm_le _) ?_
  unfold wlC
  rw [List.length_map]
  exact Nat.le_trans (List.length_filter_le _ _) (by rw [cores_len]; exact Nat.le_refl _)
def usr (s : ByteArray) : Bool := I.mkd 64 (bys s)
/-- The servers of the users among some texts. -/
def svB (ls : List ByteArray) : List T.Rc := (ls.filter usr).map fun s => ⟨srvA s⟩
theorem svB_len (ls : List ByteArray) : (svB ls).length ≤ ls.length := by unfold svB; rw [List.length_map]; exact List.length_filter_le _ _
theorem svB_snoc (ls : List ByteArray) (s : ByteArray) : svB (ls ++ [s]) = svB ls ++ (if usr s then [⟨srvA s⟩] else []) := by
  unfold svB
  rw [List.filter_append, List.map_append]
  congr 1
  rw [List.filter_cons]
  split <;> rfl
theorem svB_take {ls : List ByteArray} {k : Nat} (h : k < ls.length) : svB (ls.take (k + 1)) = svB (ls.take k) ++ (if usr (ls.getD k ByteArray.empty) then [⟨srvA (ls.getD k ByteArray.empty)⟩] else []) := by
  rw [List.take_succ_eq_append_getElem h, svB_snoc, List.getD_eq_getElem?_getD, List.getElem?_eq_getElem h]; rfl
theorem srvA_size {s : ByteArray} {m : Nat} (h : s.size ≤ m) : (srvA s).size ≤ m := by
  unfold srvA
  split
  · exact srv_size s h
  · exact Nat.zero_le _
theorem svB_fit {ls : List ByteArray} (h : ∀ s ∈ ls, s.size ≤ 9223372036854775807) : ∀ p ∈ svB ls, T.fitR p := by
  intro p hp
  unfold svB at hp
  obtain ⟨s, hs, rfl⟩ := List.mem_map.1 hp
  exact srvA_size (h s (List.mem_filter.1 hs).1)
/-- What Servers answers. -/
def svN (ls : List ByteArray) : List I.Txt := I.nm (txr (svB ls))
/-- The reference's list grows. -/
def Gv (ls : List ByteArray) (k : Nat) (out : List I.Txt) : Prop := I.Srt out ∧ ∀ x, x ∈ out ↔ x ∈ txr (svB (ls.take k))
theorem Gv.skip {ls : List ByteArray} {k : Nat} {out : List I.Txt} (h : Gv ls k out) (hk : k < ls.length) (hu : usr (ls.getD k ByteArray.empty) = false) : Gv ls (k + 1) out := by
  refine ⟨h.1, fun x => ?_⟩
  rw [svB_take hk, hu]
  simpa using h.2 x
theorem Gv.add {ls : List ByteArray} {k : Nat} {out : List I.Txt} (h : Gv ls k out) (hk : k < ls.length) (hu : usr (ls.getD k ByteArray.empty) = true) : Gv ls (k + 1) (putT out (srvA (ls.getD k ByteArray.empty)).data.toList) := by
  refine ⟨put_srt h.1 _, fun x => ?_⟩
  rw [put_mem, svB_take hk, hu, if_pos rfl, txr_snoc, List.mem_append, h.2]
  constructor
  · rintro (rfl | h1)
    · exact .inr (by simp)
    · exact .inl h1
  · rintro (h1 | h1)
    · exact .inr h1
    · exact .inl (by simpa using h1)
theorem Gv.nm {ls : List ByteArray} {out : List I.Txt} (h : Gv ls ls.length out) : out = svN ls := I.nm_eq h.1 fun x => by rw [h.2, List.take_length]
end Go.Proofs.YtnhjbknhbeicfaaDoor
