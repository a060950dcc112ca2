/- Records: lists, rows of a call's own (written by tools/rec.py). No condition. -/
import Derived.Test.YtbkchcpfnoclhaaGreatG5
import Derived.Test.YtbkchcpfnoclhaaGreatRows
import Derived.OwnWalk
import Derived.Laws.CopyOwn
import Derived.Deep.MidRow
import Derived.Deep.RegionLaw
namespace Go.Proofs.YtbkchcpfnoclhaaGreat.Hd
set_option maxRecDepth 100000
open Go.Proofs.YtbkchcpfnoclhaaGreat
open Go.RowKit
set_option linter.unusedVariables false

@[ext] structure Rc where
  us : ByteArray
  dv : ByteArray
def t0 : Rc := ⟨⟨#[]⟩, ⟨#[]⟩⟩
/-- The cells of a record. -/
def enc (p : Rc) : List Value := [.string p.us, .string p.dv]
theorem enc_len (p : Rc) : (enc p).length = 2 := rfl
theorem enc_one (p : Rc) : ∀ u ∈ enc p, u.oneCell' = true := by
  intro u hu
  simp only [enc, List.mem_cons, List.not_mem_nil, or_false] at hu
  rcases hu with rfl | rfl <;> rfl
/-- All strings of a record are strings. -/
def fitR (p : Rc) : Prop := p.us.size ≤ 9223372036854775807 ∧ p.dv.size ≤ 9223372036854775807
def rowR (zs : List Rc) (j : Nat) : List Value := enc (zs.getD j t0)
/-- The cells of records, one behind the other. -/
def cl (zs : List Rc) : List Value := zs.flatMap enc
theorem cl_cons (p : Rc) (zs : List Rc) : cl (p :: zs) = enc p ++ cl zs := rfl
theorem cl_one1 (p : Rc) : enc p = cl [p] := by rw [cl_cons]; exact (List.append_nil _).symm
theorem cl_append (a b : List Rc) : cl (a ++ b) = cl a ++ cl b := List.flatMap_append
theorem cl_snoc (zs : List Rc) (p : Rc) : cl zs ++ enc p = cl (zs ++ [p]) := by rw [cl_append, ← cl_one1]
theorem cl_len : ∀ zs : List Rc, (cl zs).length = zs.length * 2
  | [] => rfl
  | p :: zs => by rw [cl_cons, List.length_append, enc_len, List.length_cons, cl_len zs]; omega
theorem cl_one (zs : List Rc) : ∀ u ∈ cl zs, u.oneCell' = true := by
  intro u hu
  obtain ⟨p, _, hu⟩ := List.mem_flatMap.1 hu
  exact enc_one p u hu
theorem cl_get : ∀ (zs : List Rc) (k i : Nat), k < zs.length → i < 2 → (cl zs)[k * 2 + i]? = (enc (zs.getD k t0))[i]?
  | p :: zs, 0, i, _, hi => by rw [cl_cons, Nat.zero_mul, Nat.zero_add, List.getElem?_append_left (by rw [enc_len]; exact hi)]; rfl
  | p :: zs, k + 1, i, h, hi => by
    rw [cl_cons, List.getElem?_append_right (by rw [enc_len]; omega), enc_len, show (k + 1) * 2 + i - 2 = k * 2 + i by omega, cl_get zs k i (by simpa using h) hi]
    rfl
theorem cl_take (zs : List Rc) (k : Nat) (h : k ≤ zs.length) : (cl zs).take (k * 2) = cl (zs.take k) := by
  have h1 : cl zs = cl (zs.take k) ++ cl (zs.drop k) := by rw [← cl_append, List.take_append_drop]
  have h2 : (cl (zs.take k)).length = k * 2 := by rw [cl_len, List.length_take, Nat.min_eq_left h]
  rw [h1, ← h2, List.take_left]
theorem cl_drop (zs : List Rc) (k : Nat) (h : k ≤ zs.length) : (cl zs).drop (k * 2) = cl (zs.drop k) := by
  have h1 : cl zs = cl (zs.take k) ++ cl (zs.drop k) := by rw [← cl_append, List.take_append_drop]
  have h2 : (cl (zs.take k)).length = k * 2 := by rw [cl_len, List.length_take, Nat.min_eq_left h]
  rw [h1, ← h2, List.drop_left]
theorem flat_take (zs : List Rc) : ∀ n, n ≤ zs.length → flat n (rowR zs) = cl (zs.take n)
  | 0, _ => rfl
  | n + 1, h => by
    rw [flat_succ, flat_take zs n (by omega), List.take_succ_eq_append_getElem (by omega), cl_append]
    have : zs.getD n t0 = zs[n] := by rw [List.getD_eq_getElem?_getD, List.getElem?_eq_getElem (by omega)]; rfl
    show _ ++ rowR zs n = _ ++ cl [zs[n]]
    unfold rowR
    rw [this, cl_one1]
theorem flat_cl (zs : List Rc) : flat zs.length (rowR zs) = cl zs := by rw [flat_take zs _ (Nat.le_refl _), List.take_length]
theorem getD_at {zs : List Rc} {j : Nat} (h : j < zs.length) : zs.getD j t0 = zs[j] := by rw [List.getD_eq_getElem?_getD, List.getElem?_eq_getElem h]; rfl
/-- The slice at A has n records, which are zs. -/
structure Rcs (w : World) (A : Option Addr) (n c : Nat) (zs : List Rc) : Prop where
  rws : Rws w A n c 2 (rowR zs)
  len : zs.length = n
  cap : n ≤ c
  fit : ∀ p ∈ zs, fitR p
theorem Rcs.below {w w1 : World} {A : Option Addr} {n c : Nat} {zs : List Rc} (h : Rcs w A n c zs) (hb : Below w.heap.size w w1) : Rcs w1 A n c zs := ⟨h.rws.below hb, h.len, h.cap, h.fit⟩
theorem Rcs.src {w : World} {A : Option Addr} {n c : Nat} {zs : List Rc} (h : Rcs w A n c zs) : Src w A n c 2 (cl zs) := by
  have := h.rws.src
  rw [← h.len, flat_cl, h.len] at this
  exact this
theorem Rcs.get {w : World} {A : Option Addr} {n c : Nat} {zs : List Rc} (h : Rcs w A n c zs) {k : Nat} (hk : k < n) :
    ∃ b off, A = some ⟨b, off, none⟩ ∧ b < w.heap.size ∧ World.rangeAt w b (off + k * 2) (enc (zs.getD k t0)) ∧ fitR (zs.getD k t0) := by
  obtain ⟨b, off, e, hlt, hr⟩ := h.rws.get hk
  refine ⟨b, off, e, hlt, hr, h.fit _ ?_⟩
  rw [getD_at (by rw [h.len]; exact hk)]
  exact List.getElem_mem _
theorem Rcs.nil (w : World) : Rcs w none 0 0 [] := ⟨Rws.zero _ _ _ _ _ (fun _ => rfl), rfl, Nat.le_refl _, by simp⟩
theorem Rcs.takeSrc {w : World} {A : Option Addr} {n c k : Nat} {zs : List Rc} (h : Rcs w A n c zs) (hk : k ≤ n) : Src w A k c 2 (cl (zs.take k)) := by
  have hl := h.len
  refine ⟨by rw [cl_len, List.length_take, h.len]; omega, fun e => ?_, ?_, cl_one _⟩
  · obtain ⟨h1, h2⟩ := h.src.nil e
    exact ⟨by omega, h2⟩
  · rcases h.src.cell with h1 | ⟨b, off, e, hb, hc⟩
    · exact .inl (by omega)
    · refine .inr ⟨b, off, e, hb, fun j u hu => hc j u ?_⟩
      have hj : j < k * 2 := by
        have := (List.getElem?_eq_some_iff.1 hu).1
        rw [cl_len, List.length_take] at this
        omega
      rw [← cl_take zs k (by omega), List.getElem?_take_of_lt hj] at hu
      exact hu
theorem Rcs.dropSrc {w : World} {A : Option Addr} {n c k : Nat} {zs : List Rc} (h : Rcs w A n c zs) (hk : k ≤ n) : Src w (if c = k then A else A.map (·.add (k * 2))) (n - k) (c - k) 2 (cl (zs.drop k)) := by
  have hcap := h.cap
  have hl := h.len
  refine ⟨by rw [cl_len, List.length_drop, h.len], fun e => ?_, ?_, cl_one _⟩
  · have e' : A = none := by
      cases A with
      | none => rfl
      | some a => split at e <;> cases e
    obtain ⟨h1, h2⟩ := h.src.nil e'
    exact ⟨by omega, by omega⟩
  · rcases Nat.lt_or_ge k n with hlt | hge
    · rcases h.src.cell with h1 | ⟨b, off, e, hb, hc⟩
      · exact .inl (by omega)
      · refine .inr ⟨b, off + k * 2, by rw [if_neg (by omega), e]; simp [Addr.add], hb, fun j u hu => ?_⟩
        rw [← cl_drop zs k (by omega), List.getElem?_drop] at hu
        rw [Nat.add_assoc]
        exact hc _ u hu
    · exact .inl (by omega)
/-- The front of a block of records is a list of records. -/
theorem Rcs.ofBlk {w : World} {g n c : Nat} {cs : List Value} {zs : List Rc} (h : Blk w g cs 39) (hc : cs.take (n * 2) = cl zs) (hl : zs.length = n) (hn : n ≤ c) (hm : n ≤ 9223372036854775807) (hf : ∀ p ∈ zs, fitR p) : Rcs w (some ⟨g, 0, none⟩) n c zs := by
  refine ⟨⟨fun j _ => rfl, fun j _ => enc_one _, by unfold maxLen; omega, (fun e => by cases e), .inr ⟨g, 0, rfl, h.lt, fun j hj i v hv => ?_⟩⟩, hl, hn, hf⟩
  refine h.cell ?_
  have hi : i < 2 := (List.getElem?_eq_some_iff.1 hv).1
  rw [Nat.zero_add, ← List.getElem?_take_of_lt (l := cs) (show j * 2 + i < n * 2 by omega), hc, cl_get zs j i (by omega) hi]
  exact hv
/-- A row of the call's own is a list of records. -/
theorem blk_src {w : World} {g : Nat} {p : Rc} (h : Blk w g (enc p) 39) : Src w (some ⟨g, 0, none⟩) 1 1 2 (enc p) :=
  ⟨rfl, (fun e => by cases e), .inr ⟨g, 0, rfl, h.lt, fun j u hu => by rw [Nat.zero_add]; exact h.cell hu⟩, enc_one p⟩
theorem Rcs.ofOwn {w : World} {B : Nat} {v : Value} {n : Nat} {zs : List Rc} (h : w.ownsRow B 39 2 v n (cl zs)) (hl : zs.length = n) (hm : n ≤ 1000000) (hf : ∀ p ∈ zs, fitR p) : ∃ A c, v = .slice A n c ∧ Rcs w A n c zs ∧ ∀ b off, A = some ⟨b, off, none⟩ → B ≤ b := by
  obtain ⟨A, c, rfl⟩ := own_slice h
  have h' := h
  rw [← flat_cl, hl] at h'
  refine ⟨A, c, rfl, ⟨own_rows h' (fun j _ => rfl) (fun j _ => enc_one _) (by unfold maxLen; omega), hl, ?_, hf⟩, fun b off e => by subst e; exact (h.lt b rfl).1⟩
  rcases h.2 with ⟨hv, h1⟩ | ⟨g, cap, cur, hv, _, _, hnc, _⟩
  · omega
  · simp only [Value.slice.injEq, true_and] at hv
    rw [hv.2]; exact hnc
theorem own_pos {w : World} {B n : Nat} {v : Value} {xs : List Value} (h : w.ownsRow B 39 2 v n xs) (hn : 0 < n) : ∃ g cap cur, v = .slice (some ⟨g, 0, none⟩) n cap ∧ B ≤ g ∧ Blk w g cur 39 ∧ n ≤ cap ∧ cap ≤ maxLen ∧ cap * 2 = cur.length ∧ cur.take (n * 2) = xs := by
  rcases h.2 with ⟨_, h0⟩ | ⟨g, cap, cur, hv, hB, hg, hnc, hcm, hs, ht⟩
  · omega
  · exact ⟨g, cap, cur.toList, hv, hB, ⟨by rw [Array.toArray_toList]; exact hg⟩, hnc, hcm, by rw [Array.length_toList, hs], ht⟩
/-- It survives what leaves its block alone. -/
theorem Rcs.grew {w w1 : World} {A : Option Addr} {n c : Nat} {zs : List Rc} {row : Option Nat} (h : Rcs w A n c zs) (hg : w.grownBy w1 row) (hne : ∀ b off, A = some ⟨b, off, none⟩ → some b ≠ row) : Rcs w1 A n c zs := by
  refine ⟨⟨h.rws.len, h.rws.one, h.rws.big, h.rws.nil, h.rws.at_.imp id fun ⟨b, off, e, hlt, hc⟩ => ⟨b, off, e, Nat.lt_of_lt_of_le hlt hg.size, fun j hj i v hv => ?_⟩⟩, h.len, h.cap, h.fit⟩
  exact (World.cell?_of_block (a := ⟨b, off + j * 2 + i, none⟩) (hg.block b hlt (hne b off e))).trans (hc j hj i v hv)
theorem own_mono {w : World} {B B' : Nat} {e : TypeId} {sz n : Nat} {v : Value} {xs : List Value} (h : w.ownsRow B e sz v n xs) (hB : B' ≤ B) : w.ownsRow B' e sz v n xs :=
  ⟨h.1, h.2.imp id fun ⟨g, cap, cur, e, hg, r⟩ => ⟨g, cap, cur, e, Nat.le_trans hB hg, r⟩⟩
theorem ret_slice {A : Option Addr} {n m c : Nat} (h : n = m) : Ending.returned (.slice A n c) = .returned (.slice A m c) := by rw [h]
theorem splice_at {α : Type} (P R cs : List α) (o : Nat) (h : P.length = o) : splice (P ++ R) o cs = P ++ (cs ++ R.drop cs.length) := by
  subst h
  unfold splice
  rw [List.take_left, List.drop_append]
  simp
theorem set_mid {T : TypeId} {t : Nat} : ∀ (vs pre post : List Value) (w : World) (_ : Blk w t (pre ++ post) T) (_ : vs.length ≤ post.length), Blk (w.setCells t pre.length vs) t (pre ++ (vs ++ post.drop vs.length)) T
  | [], pre, post, w, h, _ => h
  | v :: vs, pre, [], w, h, e => by simp at e
  | v :: vs, pre, p :: post, w, h, e => by
    have h1 := h.set pre.length v
    rw [List.set_append_right _ _ (Nat.le_refl _), Nat.sub_self, List.set_cons_zero, show pre ++ v :: post = (pre ++ [v]) ++ post by simp] at h1
    have h2 := set_mid vs (pre ++ [v]) post _ h1 (by simpa using e)
    rw [List.length_append, List.length_singleton, List.append_assoc, List.singleton_append] at h2
    exact h2
/-- A store into the middle of a block. -/
theorem Blk.setMid {w : World} {t : Nat} {cs : List Value} {T : TypeId} (h : Blk w t cs T) (o : Nat) (vs : List Value) (e : o + vs.length ≤ cs.length) : Blk (w.setCells t o vs) t (splice cs o vs) T := by
  have h1 : cs = cs.take o ++ cs.drop o := (List.take_append_drop _ _).symm
  have h2 : (cs.take o).length = o := by rw [List.length_take]; omega
  have h3 := set_mid vs (cs.take o) (cs.drop o) w (by rw [← h1]; exact h) (by rw [List.length_drop]; omega)
  rw [h2, List.drop_drop] at h3
  exact h3
/-- One record of a row replaced. -/
theorem splice_set {cs : List Value} {zs : List Rc} {n k : Nat} (p : Rc) (h : cs.take (n * 2) = cl zs) (hl : zs.length = n) (hk : k < n) (hc : n * 2 ≤ cs.length) : (splice cs (k * 2) (enc p)).take (n * 2) = cl (zs.set k p) := by
  have e0 : cs = cl (zs.take k) ++ (cl (zs.drop k) ++ cs.drop (n * 2)) := by rw [← List.append_assoc, ← cl_append, List.take_append_drop, ← h, List.take_append_drop]
  have hPl : (cl (zs.take k)).length = k * 2 := by rw [cl_len, List.length_take]; omega
  have hd : zs.drop k = zs.getD k t0 :: zs.drop (k + 1) := by rw [getD_at (by omega)]; exact List.drop_eq_getElem_cons (by omega)
  rw [e0, splice_at _ _ _ _ hPl, hd, cl_cons, List.append_assoc, List.drop_append, enc_len, enc_len, Nat.sub_self, List.drop_zero, List.drop_of_length_le (by rw [enc_len]; exact Nat.le_refl _), List.nil_append]
  rw [← List.append_assoc, ← List.append_assoc]
  have e1 : cl (zs.take k) ++ enc p ++ cl (zs.drop (k + 1)) = cl (zs.set k p) := by
    rw [cl_one1, ← cl_append, ← cl_append, List.append_assoc, List.singleton_append, List.set_eq_take_append_cons_drop, if_pos (by omega)]
  have e2 : (cl (zs.set k p)).length = n * 2 := by rw [cl_len, List.length_set, hl]
  rw [e1, List.take_append_of_le_length (by rw [e2]; exact Nat.le_refl _)]
  exact List.take_of_length_le (by rw [e2]; exact Nat.le_refl _)
end Go.Proofs.YtbkchcpfnoclhaaGreat.Hd
