/- One-time keys: what two devices hold after some uploads and claims. No program. -/
import Derived.Test.YtkmocchikgmnbaaW23
namespace Go.Proofs.Ytkmocchikgmnbaa
open Go.RowKit
set_option linter.unusedVariables false
set_option linter.unusedSimpArgs false

theorem lk_of {ys : List Rc} (hs : Srt ys) {q : Rc} (hq : q ∈ ys) {u d : ByteArray} (hd : dev u d q = true) : lk ys u d = q := by
  unfold lk
  cases hf : ys.find? (dev u d) with
  | none => exact absurd hd (by simpa using List.find?_eq_none.1 hf q hq)
  | some p =>
    have hp := List.mem_of_find?_eq_some hf
    have hpd := List.find?_some hf
    show p = q
    have e1 := dev_iff.1 hpd
    have e2 := dev_iff.1 hd
    have hsd : sd p q := ⟨e1.1.trans e2.1.symm, e1.2.trans e2.2.symm⟩
    obtain ⟨i, hi, rfl⟩ := List.getElem_of_mem hp
    obtain ⟨j, hj, rfl⟩ := List.getElem_of_mem hq
    have hP := List.pairwise_iff_getElem.1 hs.dis
    rcases Nat.lt_trichotomy i j with h | h | h
    · exact absurd hsd (hP i j hi hj h)
    · subst h; rfl
    · exact absurd (sd_symm hsd) (hP j i hj hi h)
theorem mem_putL {zs : List Rc} {p q : Rc} : q ∈ putL zs p ↔ (q ∈ zs ∧ dev p.us p.dv q = false) ∨ q = p := by
  unfold putL
  simp
theorem lk_put_same {zs ys : List Rc} {p : Rc} (hs : Srt ys) (hp : ys.Perm (putL zs p)) : lk ys p.us p.dv = p :=
  lk_of hs (hp.mem_iff.2 (mem_putL.2 (.inr rfl))) (dev_iff.2 ⟨rfl, rfl⟩)
theorem lk_put_other {zs ys : List Rc} {p : Rc} {u d : ByteArray} (hz : Right zs) (hs : Srt ys) (hp : ys.Perm (putL zs p)) (hne : ¬ (p.us = u ∧ p.dv = d)) : lk ys u d = lk zs u d := by
  rcases lk_ok hz u d with ⟨e, hno⟩ | ⟨hm, hd⟩
  · rw [e]
    unfold lk
    rw [List.find?_eq_none.2]
    · rfl
    · intro q hq
      rcases mem_putL.1 (hp.mem_iff.1 hq) with ⟨h1, _⟩ | rfl
      · rw [hno q h1]; decide
      · intro h; exact hne (dev_iff.1 h)
  · refine lk_of hs (hp.mem_iff.2 (mem_putL.2 (.inl ⟨hm, ?_⟩))) hd
    cases hx : dev p.us p.dv (lk zs u d)
    · rfl
    · have e1 := dev_iff.1 hx
      have e2 := dev_iff.1 hd
      exact absurd ⟨e1.1.symm.trans e2.1, e1.2.symm.trans e2.2⟩ hne
theorem right_put {zs ys : List Rc} {p : Rc} (hz : Right zs) (hs : Srt ys) (hp : ys.Perm (putL zs p)) (hok : Ok p) : Right ys :=
  ⟨fun q hq => by
    rcases mem_putL.1 (hp.mem_iff.1 hq) with ⟨h1, _⟩ | rfl
    · exact hz.ok _ h1
    · exact hok, hs⟩
def ann : ByteArray := ⟨#[64, 97, 110, 110, 58, 97]⟩
def nmD (o : Bool) : ByteArray := if o then ⟨#[100, 101, 115, 107]⟩ else ⟨#[112, 104, 111, 110, 101]⟩
theorem okD (o : Bool) : okO ann (nmD o) = true := by cases o <;> kernel_rfl
theorem nmD_ne (o : Bool) : ¬ (ann = ann ∧ nmD o = nmD (!o)) := by cases o <;> (rintro ⟨_, h⟩; cases h)
theorem ann_size : ann.size ≤ 9223372036854775807 := by decide
theorem nmD_size (o : Bool) : (nmD o).size ≤ 9223372036854775807 := by cases o <;> decide
/-- What two devices hold: up keys each, of which cl are claimed. -/
structure St (zs : List Rc) (up cl : Bool → Int) (k : Nat) : Prop where
  right : Right zs
  nx : ∀ o, (lk zs ann (nmD o)).nx = up o
  lf : ∀ o, (lk zs ann (nmD o)).lf = up o - cl o
  le : ∀ o, 0 ≤ cl o ∧ cl o ≤ up o ∧ up o ≤ 100 * k ∧ up o - cl o ≤ 200
  len : zs.length ≤ k
theorem St.start : St [] (fun _ => 0) (fun _ => 0) 0 :=
  ⟨⟨by simp, List.Pairwise.nil⟩, fun _ => rfl, fun _ => rfl, fun _ => by omega, Nat.zero_le _⟩
theorem St.more {zs : List Rc} {up cl : Bool → Int} {k : Nat} (h : St zs up cl k) : St zs up cl (k + 1) :=
  ⟨h.right, h.nx, h.lf, fun o => by have := h.le o; omega, Nat.le_succ_of_le h.len⟩
theorem St.chk {zs : List Rc} {up cl : Bool → Int} {k : Nat} (h : St zs up cl k) : chk zs zs.length = 0 := right_iff.2 h.right
/-- When an upload is accepted. -/
theorem St.upE {zs : List Rc} {up cl : Bool → Int} {k : Nat} (h : St zs up cl k) (hk : k ≤ 60) (o : Bool) (N : Int) : upE zs ann (nmD o) N = if N < 1 ∨ 100 < N then 2 else if 200 < up o - cl o + N then 29 else 0 := by
  have := h.le o
  unfold Ytkmocchikgmnbaa.upE
  rw [if_pos h.chk, if_pos (okD o), h.nx, h.lf]
  by_cases h1 : N < 1 ∨ 100 < N
  · rw [if_pos h1, if_pos h1]
  · rw [if_neg h1, if_neg h1]
    by_cases h2 : 200 < up o - cl o + N
    · rw [if_pos h2, if_pos (.inl h2)]
    · rw [if_neg h2, if_neg (by omega)]
theorem St.clE {zs : List Rc} {up cl : Bool → Int} {k : Nat} (h : St zs up cl k) (o : Bool) : clE zs ann (nmD o) = if cl o < up o then 0 else 5 := by
  have := h.le o
  unfold Ytkmocchikgmnbaa.clE
  rw [if_pos h.chk, h.lf]
  by_cases h1 : cl o < up o
  · rw [if_pos h1, if_neg (by omega)]
  · rw [if_neg h1, if_pos (by omega)]
theorem St.clK {zs : List Rc} {up cl : Bool → Int} {k : Nat} (h : St zs up cl k) (o : Bool) (hlt : cl o < up o) : clK zs ann (nmD o) = cl o := by
  unfold Ytkmocchikgmnbaa.clK
  rw [h.clE, if_pos hlt, if_pos rfl, h.nx, h.lf]
  omega
def upd (f : Bool → Int) (o : Bool) (x : Int) : Bool → Int := fun p => if p = o then x else f p
theorem upd_same (f : Bool → Int) (o : Bool) (x : Int) : upd f o x o = x := if_pos rfl
theorem upd_other (f : Bool → Int) (o : Bool) (x : Int) : upd f o x (!o) = f (!o) := if_neg (by cases o <;> decide)
theorem two_b {P : Bool → Prop} (o : Bool) (h1 : P o) (h2 : P (!o)) : ∀ p, P p := by
  intro p
  cases o <;> cases p <;> assumption
theorem St.upload {zs ys : List Rc} {up cl : Bool → Int} {k : Nat} (h : St zs up cl k) (hk : k ≤ 60) {o : Bool} {N : Int} (h1 : 1 ≤ N) (h2 : N ≤ 100) (h3 : up o - cl o ≤ 200 - N) (hs : Srt ys) (hp : ys.Perm (putL zs (upP zs ann (nmD o) N))) : St ys (upd up o (up o + N)) cl (k + 1) := by
  have hle := h.le o
  have hle2 := h.le (!o)
  have e1 : upP zs ann (nmD o) N = ⟨ann, nmD o, up o + N, up o - cl o + N⟩ := by unfold upP; rw [h.nx, h.lf]
  rw [e1] at hp
  have s1 := lk_put_same hs hp
  have s2 := lk_put_other (u := ann) (d := nmD (!o)) h.right hs hp (nmD_ne o)
  simp only at s1
  refine ⟨right_put h.right hs hp ⟨okD o, by simp only; omega⟩, two_b o ?_ ?_, two_b o ?_ ?_, two_b o ?_ ?_, ?_⟩
  · rw [s1, upd_same]
  · rw [s2, upd_other, h.nx]
  · rw [s1, upd_same]; simp only; omega
  · rw [s2, upd_other, h.lf]
  · rw [upd_same]; omega
  · rw [upd_other]; omega
  · rw [hp.length_eq]; exact Nat.le_trans (putL_len _ _) (Nat.succ_le_succ h.len)
theorem St.claim {zs ys : List Rc} {up cl : Bool → Int} {k : Nat} (h : St zs up cl k) (hk : k ≤ 60) {o : Bool} (h1 : cl o < up o) (hs : Srt ys) (hp : ys.Perm (putL zs (clP zs ann (nmD o)))) : St ys up (upd cl o (cl o + 1)) (k + 1) := by
  have hle := h.le o
  have hle2 := h.le (!o)
  have e1 : clP zs ann (nmD o) = ⟨ann, nmD o, up o, up o - cl o - 1⟩ := by unfold clP; rw [h.nx, h.lf]
  rw [e1] at hp
  have s1 := lk_put_same hs hp
  have s2 := lk_put_other (u := ann) (d := nmD (!o)) h.right hs hp (nmD_ne o)
  simp only at s1
  refine ⟨right_put h.right hs hp ⟨okD o, by simp only; omega⟩, two_b o ?_ ?_, two_b o ?_ ?_, two_b o ?_ ?_, ?_⟩
  · rw [s1]
  · rw [s2, h.nx]
  · rw [s1, upd_same]; simp only; omega
  · rw [s2, upd_other, h.lf]
  · rw [upd_same]; omega
  · rw [upd_other]; omega
  · rw [hp.length_eq]; exact Nat.le_trans (putL_len _ _) (Nat.succ_le_succ h.len)
end Go.Proofs.Ytkmocchikgmnbaa
