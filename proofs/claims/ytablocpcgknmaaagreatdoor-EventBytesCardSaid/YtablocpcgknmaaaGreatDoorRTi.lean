/- Plain mathematics of identifiers and of sorted lists of names: no program. -/
import Derived.Test.YtablocpcgknmaaaGreatDoorRows
import Derived.WalkKit
import Derived.WalkSpells
import Derived.WalkLawsBesides
import Derived.Lib.Hide
import Derived.Outline
import Derived.Lib.Bytealg
import Derived.Lib.Strings
import Derived.BigGuard
import Derived.RegionTactic
import Derived.BigRegion
import Derived.Below
import Derived.Deep.QuietTactic
import Derived.BigQuiet
import Derived.Sort.EncStr
namespace Go.Proofs.YtablocpcgknmaaaGreatDoor.I
open Go.Lib (hid)
set_option linter.unusedVariables false

/-- A small letter or a digit. -/
def letB (c : Int) : Bool := decide ((97 ≤ c ∧ c ≤ 122) ∨ (48 ≤ c ∧ c ≤ 57))
def locB (c : Int) : Bool := letB c || decide (c = 95 ∨ c = 46 ∨ c = 45 ∨ c = 61)
def srvB (c : Int) : Bool := letB c || decide (c = 46 ∨ c = 45)
def isPart (p : Int → Bool) (l : List Int) : Bool := decide (1 ≤ l.length ∧ l.length ≤ 32) && l.all p
def isLoc (l : List Int) : Bool := isPart locB l
def isSrv (l : List Int) : Bool := isPart srvB l && (letB (l.getD 0 0) && letB (l.getD (l.length - 1) 0))
/-- The place of the first colon, or the length. -/
def col (l : List Int) : Nat := l.findIdx (· == 58)
/-- An identifier with the mark m. -/
def mkd (m : Int) (l : List Int) : Bool := decide (1 ≤ l.length ∧ l.getD 0 0 = m ∧ col l < l.length) && (isLoc ((l.take (col l)).drop 1) && isSrv (l.drop (col l + 1)))

theorem col_le (l : List Int) : col l ≤ l.length := List.findIdx_le_length
theorem col_cons {c : Int} (l : List Int) (h : c ≠ 58) : col (c :: l) = col l + 1 := by
 unfold col
 rw [List.findIdx_cons]
 have : (c == 58) = false := by simpa using h
 rw [this]; rfl
theorem isPart_len {p : Int → Bool} {l : List Int} (h : isPart p l = true) : 1 ≤ l.length ∧ l.length ≤ 32 := by
 unfold isPart at h
 rw [Bool.and_eq_true, decide_eq_true_iff] at h
 exact h.1
theorem isPart_snoc (p : Int → Bool) (l : List Int) (c : Int) : (l ++ [c]).all p = (l.all p && p c) := by simp
theorem mkd_iff {m : Int} {l : List Int} : mkd m l = true ↔ (1 ≤ l.length ∧ l.getD 0 0 = m ∧ col l < l.length) ∧ isLoc ((l.take (col l)).drop 1) = true ∧ isSrv (l.drop (col l + 1)) = true := by
 unfold mkd
 rw [Bool.and_eq_true, Bool.and_eq_true, decide_eq_true_iff]
/- Names. -/
abbrev Txt := List UInt8
def addNew (acc : List Txt) (x : Txt) : List Txt := if x ∈ acc then acc else acc ++ [x]
def ddp (acc l : List Txt) : List Txt := l.foldl addNew acc
def nm (l : List Txt) : List Txt := (ddp [] l).mergeSort fun x y => decide (x ≤ y)
/-- Strictly increasing. -/
def Srt (o : List Txt) : Prop := o.Pairwise (· < ·)
/-- The place of a text in a list, or -1. -/
def fnd (l : List Txt) (s : Txt) : Int := match l.findIdx? (· == s) with | none => -1 | some i => (i : Int)
end Go.Proofs.YtablocpcgknmaaaGreatDoor.I

namespace Go.Proofs.YtablocpcgknmaaaGreatDoor
open Go.Lib (hid)
open Go.RowKit
set_option linter.unusedVariables false

theorem ret_i64 {a b : Int} (h : a = b) : Ending.returned (.int .i64 a) = .returned (.int .i64 b) := by rw [h]
theorem ret_bool {a b : Bool} (h : a = b) : Ending.returned (.bool a) = .returned (.bool b) := by rw [h]
/-- The bytes of a text, as numbers. -/
def bys (s : ByteArray) : List Int := s.data.toList.map fun c => (c.toNat : Int)
theorem bys_len (s : ByteArray) : (bys s).length = s.size := by unfold bys; rw [List.length_map, Array.length_toList]; rfl
theorem bys_getE (s : ByteArray) (k : Nat) (h : k < s.size) : (bys s)[k]'(by rw [bys_len]; exact h) = (s[k].toNat : Int) := by
 unfold bys
 rw [List.getElem_map]
 rfl
theorem bys_getD (s : ByteArray) (k : Nat) (h : k < s.size) : (bys s).getD k 0 = (s[k].toNat : Int) := by
 rw [List.getD_eq_getElem?_getD, List.getElem?_eq_getElem (by rw [bys_len]; exact h), Option.getD_some, bys_getE s k h]
theorem bys_snoc (s : ByteArray) (k : Nat) (h : k < s.size) : (bys s).take (k + 1) = (bys s).take k ++ [(s[k].toNat : Int)] := by
 rw [List.take_succ_eq_append_getElem (by rw [bys_len]; exact h), bys_getE s k h]
theorem bys_all (s : ByteArray) : (bys s).take s.size = bys s := List.take_of_length_le (by rw [bys_len]; exact Nat.le_refl _)
theorem letter_any (c : Int) (w : World) : Calls Tryz.prog 213 #[.int .u8 c] w fun e w' => e = .returned (.bool (I.letB c)) ∧ w = w' := by
 rcases (show c < 48 ∨ (48 ≤ c ∧ c ≤ 57 ∧ c < 97) ∨ (48 ≤ c ∧ 57 < c ∧ c < 97) ∨ (97 ≤ c ∧ c ≤ 122) ∨ (97 ≤ c ∧ 122 < c ∧ 48 ≤ c ∧ 57 < c) by omega) with h | ⟨h, h2, h3⟩ | ⟨h, h2, h3⟩ | ⟨h, h2⟩ | ⟨h, h2, h3, h4⟩
 ·have h' : c < 97 := by omega
  have HF : Hid (I.letB c = false) := hid (by unfold I.letB; simp; omega)
  go_enter Tryz.func213, Tryz.ntmps213
  go_wp2
  go_ret
  exact ⟨ret_bool (by rw [HF.out]; try (simp; omega)), rfl⟩
 ·have HF : Hid (I.letB c = true) := hid (by unfold I.letB; simp; omega)
  go_enter Tryz.func213, Tryz.ntmps213
  go_wp2
  go_ret
  exact ⟨ret_bool (by rw [HF.out]; try (simp; omega)), rfl⟩
 ·have HF : Hid (I.letB c = false) := hid (by unfold I.letB; simp; omega)
  go_enter Tryz.func213, Tryz.ntmps213
  go_wp2
  go_ret
  exact ⟨ret_bool (by rw [HF.out]; try (simp; omega)), rfl⟩
 ·have HF : Hid (I.letB c = true) := hid (by unfold I.letB; simp; omega)
  go_enter Tryz.func213, Tryz.ntmps213
  go_wp2
  go_ret
  exact ⟨ret_bool (by rw [HF.out]; try (simp; omega)), rfl⟩
 ·have HF : Hid (I.letB c = false) := hid (by unfold I.letB; simp; omega)
  go_enter Tryz.func213, Tryz.ntmps213
  go_wp2
  go_ret
  exact ⟨ret_bool (by rw [HF.out]; try (simp; omega)), rfl⟩
theorem srv_any (c : Int) (w : World) : Calls Tryz.prog 214 #[.int .u8 c] w fun e w' => e = .returned (.bool (I.srvB c)) ∧ w = w' := by
 cases hl : I.letB c
 ·have HL := hid hl
  by_cases h46 : c = 46
  ·subst h46
   clear hl
   go_enter Tryz.func214, Tryz.ntmps214
   go_wp2_with (go_at_call 213; refine (letter_any _ _).mono ?_; rintro e w' ⟨rfl, rfl⟩; rw [HL.out])
   go_ret
   exact ⟨rfl, rfl⟩
  ·have e1 : (c == 46) = false := beq_eq_false_iff_ne.2 h46
   have H1 := hid h46
   clear h46 hl
   cases e2 : c == 45
   ·have H2 := hid e2
    go_enter Tryz.func214, Tryz.ntmps214
    go_wp2_with (go_at_call 213; refine (letter_any _ _).mono ?_; rintro e w' ⟨rfl, rfl⟩; rw [HL.out])
    go_ret
    exact ⟨ret_bool (by unfold I.srvB; rw [HL.out]; have := beq_eq_false_iff_ne.1 H2.out; have := H1.out; simp; omega), rfl⟩
   ·obtain rfl := beq_iff_eq.1 e2
    clear e1 e2
    go_enter Tryz.func214, Tryz.ntmps214
    go_wp2_with (go_at_call 213; refine (letter_any _ _).mono ?_; rintro e w' ⟨rfl, rfl⟩; rw [HL.out])
    go_ret
    exact ⟨rfl, rfl⟩
 ·have HL := hid hl
  clear hl
  go_enter Tryz.func214, Tryz.ntmps214
  go_wp2_with (go_at_call 213; refine (letter_any _ _).mono ?_; rintro e w' ⟨rfl, rfl⟩; rw [HL.out])
  go_ret
  exact ⟨ret_bool (by unfold I.srvB; rw [HL.out]; rfl), rfl⟩
end Go.Proofs.YtablocpcgknmaaaGreatDoor

namespace Go.Proofs.YtablocpcgknmaaaGreatDoor
open Go.Lib (hid)
open Go.RowKit
set_option linter.unusedVariables false

theorem loc_cases {c : Int} (h : I.locB c = true) : I.letB c = true ∨ (I.letB c = false ∧ (c == 95) = true) ∨ (I.letB c = false ∧ (c == 95) = false ∧ (c == 46) = true) ∨ (I.letB c = false ∧ (c == 95) = false ∧ (c == 46) = false ∧ (c == 45) = true) ∨ (I.letB c = false ∧ (c == 95) = false ∧ (c == 46) = false ∧ (c == 45) = false ∧ (c == 61) = true) := by
 unfold I.locB at h
 cases hl : I.letB c
 ·rw [hl] at h
  simp only [Bool.false_or, decide_eq_true_iff] at h
  simp only [beq_iff_eq, beq_eq_false_iff_ne]
  simp
  omega
 ·exact .inl rfl
theorem loc_false {c : Int} (h : I.locB c = false) : I.letB c = false ∧ (c == 95) = false ∧ (c == 46) = false ∧ (c == 45) = false ∧ (c == 61) = false := by
 unfold I.locB at h
 rw [Bool.or_eq_false_iff, decide_eq_false_iff_not] at h
 simp only [beq_eq_false_iff_ne]
 refine ⟨h.1, ?_⟩
 have := h.2
 omega
theorem loc_any (c : Int) (w : World) : Calls Tryz.prog 212 #[.int .u8 c] w fun e w' => e = .returned (.bool (I.locB c)) ∧ w = w' := by
 cases h : I.locB c
 ·obtain ⟨h1, h2, h3, h4, h5⟩ := loc_false h
  have H := hid h
  clear h
  go_enter Tryz.func212, Tryz.ntmps212
  go_wp2_with (go_at_call 213; refine (letter_any _ _).mono ?_; rintro e w' ⟨rfl, rfl⟩)
  go_ret
  exact ⟨rfl, rfl⟩
 ·have H := hid h
  rcases loc_cases h with h1 | ⟨h1, h2⟩ | ⟨h1, h2, h3⟩ | ⟨h1, h2, h3, h4⟩ | ⟨h1, h2, h3, h4, h5⟩
  all_goals
   clear h
   go_enter Tryz.func212, Tryz.ntmps212
   go_wp2_with (go_at_call 213; refine (letter_any _ _).mono ?_; rintro e w' ⟨rfl, rfl⟩)
   go_ret
   exact ⟨rfl, rfl⟩
theorem part_bad {p : Int → Bool} {s : ByteArray} {k : Nat} (h : k < s.size) (hc : p (s[k].toNat : Int) = false) : (bys s).all p = false := by
 rw [List.all_eq_false]
 refine ⟨(s[k].toNat : Int), ?_, by rw [hc]; simp⟩
 rw [← bys_getE s k h]; exact List.getElem_mem _
theorem part_eq {p : Int → Bool} {s : ByteArray} {b : Bool} (h0 : 1 ≤ s.size) (h1 : s.size ≤ 32) (h : (bys s).all p = b) : I.isPart p (bys s) = b := by
 unfold I.isPart
 rw [h, bys_len, decide_eq_true (by omega : 1 ≤ s.size ∧ s.size ≤ 32), Bool.true_and]
theorem part_no {p : Int → Bool} {s : ByteArray} (h : ¬ (1 ≤ s.size ∧ s.size ≤ 32)) : I.isPart p (bys s) = false := by
 unfold I.isPart
 rw [bys_len, decide_eq_false h, Bool.false_and]

set_option maxHeartbeats 400000 in
theorem partSrv_any (s : ByteArray) (hs : s.size ≤ 9223372036854775807) (w : World) :
  Calls Tryz.prog 211 #[.string s, .func (.func 214) #[] #[]] w fun e w' => e = .returned (.bool (I.isPart I.srvB (bys s))) ∧ w = w' := by
 by_cases h0 : s.size < 1
 ·have HF := hid (part_no (p := I.srvB) (s := s) (by omega))
  go_enter Tryz.func211, Tryz.ntmps211
  go_wp2
  go_ret
  exact ⟨ret_bool HF.out.symm, rfl⟩
 ·by_cases h1 : 32 < s.size
  ·have HF := hid (part_no (p := I.srvB) (s := s) (by omega))
   have h0 : 1 ≤ s.size := by omega
   go_enter Tryz.func211, Tryz.ntmps211
   go_wp2
   go_ret
   exact ⟨ret_bool HF.out.symm, rfl⟩
  ·have h0 : 1 ≤ s.size := by omega
   have h1 : s.size ≤ 32 := by omega
   go_enter Tryz.func211, Tryz.ntmps211
   go_wp2
   go_loop [5, 16] (fun _ i => ∃ k : Nat, k ≤ s.size ∧ i = .int .i64 k ∧ Hid (((bys s).take k).all I.srvB = true)) (fun _ i => s.size - (intOf i).toNat)
   case atStart => exact ⟨0, Nat.zero_le _, rfl, hid (by rw [List.take_zero]; rfl)⟩
   case round =>
    obtain ⟨k, hk, rfl, HO⟩ := hrel
    by_cases hlt : k < s.size
    ·have hsn := hid (bys_snoc s k hlt)
     cases hc : I.srvB (s[k].toNat : Int)
     ·have HB := hid (part_eq h0 h1 (part_bad hlt hc))
      go_wp2_with (go_at_call 214; refine (srv_any _ _).mono ?_; rintro e w' ⟨rfl, rfl⟩)
      go_ret
      exact ⟨ret_bool HB.out.symm, rfl⟩
     ·have HC := hid hc
      go_wp2_with (go_at_call 214; refine (srv_any _ _).mono ?_; rintro e w' ⟨rfl, rfl⟩)
      go_round
      case rel => exact ⟨k + 1, by omega, by go_num, hid (by rw [hsn.out, I.isPart_snoc, HO.out, HC.out]; rfl)⟩
      case measure => simp [intOf]; omega
    ·have HF := hid (part_eq h0 h1 (show (bys s).all I.srvB = true by rw [← bys_all, ← HO.out]; congr 2; omega))
     go_wp2
     go_ret
     exact ⟨ret_bool HF.out.symm, rfl⟩

set_option maxHeartbeats 400000 in
theorem partLoc_any (s : ByteArray) (hs : s.size ≤ 9223372036854775807) (w : World) :
  Calls Tryz.prog 211 #[.string s, .func (.func 212) #[] #[]] w fun e w' => e = .returned (.bool (I.isPart I.locB (bys s))) ∧ w = w' := by
 by_cases h0 : s.size < 1
 ·have HF := hid (part_no (p := I.locB) (s := s) (by omega))
  go_enter Tryz.func211, Tryz.ntmps211
  go_wp2
  go_ret
  exact ⟨ret_bool HF.out.symm, rfl⟩
 ·by_cases h1 : 32 < s.size
  ·have HF := hid (part_no (p := I.locB) (s := s) (by omega))
   have h0 : 1 ≤ s.size := by omega
   go_enter Tryz.func211, Tryz.ntmps211
   go_wp2
   go_ret
   exact ⟨ret_bool HF.out.symm, rfl⟩
  ·have h0 : 1 ≤ s.size := by omega
   have h1 : s.size ≤ 32 := by omega
   go_enter Tryz.func211, Tryz.ntmps211
   go_wp2
   go_loop [5, 16] (fun _ i => ∃ k : Nat, k ≤ s.size ∧ i = .int .i64 k ∧ Hid (((bys s).take k).all I.locB = true)) (fun _ i => s.size - (intOf i).toNat)
   case atStart => exact ⟨0, Nat.zero_le _, rfl, hid (by rw [List.take_zero]; rfl)⟩
   case round =>
    obtain ⟨k, hk, rfl, HO⟩ := hrel
    by_cases hlt : k < s.size
    ·have hsn := hid (bys_snoc s k hlt)
     cases hc : I.locB (s[k].toNat : Int)
     ·have HB := hid (part_eq h0 h1 (part_bad hlt hc))
      go_wp2_with (go_at_call 212; refine (loc_any _ _).mono ?_; rintro e w' ⟨rfl, rfl⟩)
      go_ret
      exact ⟨ret_bool HB.out.symm, rfl⟩
     ·have HC := hid hc
      go_wp2_with (go_at_call 212; refine (loc_any _ _).mono ?_; rintro e w' ⟨rfl, rfl⟩)
      go_round
      case rel => exact ⟨k + 1, by omega, by go_num, hid (by rw [hsn.out, I.isPart_snoc, HO.out, HC.out]; rfl)⟩
      case measure => simp [intOf]; omega
    ·have HF := hid (part_eq h0 h1 (show (bys s).all I.locB = true by rw [← bys_all, ← HO.out]; congr 2; omega))
     go_wp2
     go_ret
     exact ⟨ret_bool HF.out.symm, rfl⟩

theorem isLocal_any (s : ByteArray) (hs : s.size ≤ 9223372036854775807) (w : World) :
  Calls Tryz.prog 195 #[.string s] w fun e w' => e = .returned (.bool (I.isLoc (bys s))) ∧ w = w' := by
 have HF := hid (show I.isPart I.locB (bys s) = I.isLoc (bys s) from rfl)
 go_enter Tryz.func195, Tryz.ntmps195
 go_wp2_with (go_at_call 211; refine (partLoc_any _ hs _).mono ?_; rintro e w' ⟨rfl, rfl⟩)
 go_ret
 exact ⟨ret_bool HF.out, rfl⟩
theorem isServer_any (s : ByteArray) (hs : s.size ≤ 9223372036854775807) (w : World) :
  Calls Tryz.prog 196 #[.string s] w fun e w' => e = .returned (.bool (I.isSrv (bys s))) ∧ w = w' := by
 cases hp : I.isPart I.srvB (bys s)
 ·have HF := hid (show I.isSrv (bys s) = false by unfold I.isSrv; rw [hp]; rfl)
  go_enter Tryz.func196, Tryz.ntmps196
  go_wp2_with (go_at_call 211; refine (partSrv_any _ hs _).mono ?_; rintro e w' ⟨rfl, rfl⟩)
  go_ret
  exact ⟨ret_bool HF.out.symm, rfl⟩
 ·have hl := I.isPart_len hp
  rw [bys_len] at hl
  obtain ⟨h0, h1⟩ := hl
  have c0 : (0 : Int) ≤ (s.size : Int) - 1 := by omega
  have c1 : (s.size : Int) - 1 < (s.size : Int) := by omega
  have c2 : ((s.size : Int) - 1).toNat = s.size - 1 := by omega
  have c3 : s.size - 1 < s.size := by omega
  have c4 : 0 < s.size := by omega
  have HF := hid (show I.isSrv (bys s) = (I.letB (s[0].toNat : Int) && I.letB (s[s.size - 1].toNat : Int)) by
   unfold I.isSrv; rw [hp, bys_len, bys_getD s 0 c4, bys_getD s _ c3]; rfl)
  cases ha : I.letB (s[0].toNat : Int)
  ·have HA := hid ha
   go_enter Tryz.func196, Tryz.ntmps196
   go_wp2_with (first | (go_at_call 211; refine (partSrv_any _ hs _).mono ?_; rintro e w' ⟨rfl, rfl⟩) | (go_at_call 213; refine (letter_any _ _).mono ?_; rintro e w' ⟨rfl, rfl⟩))
   go_ret
   exact ⟨ret_bool (by rw [HF.out, HA.out]; rfl), rfl⟩
  ·have HA := hid ha
   go_enter Tryz.func196, Tryz.ntmps196
   go_wp2_with (first | (go_at_call 211; refine (partSrv_any _ hs _).mono ?_; rintro e w' ⟨rfl, rfl⟩) | (go_at_call 213; refine (letter_any _ _).mono ?_; rintro e w' ⟨rfl, rfl⟩))
   go_ret
   exact ⟨ret_bool (by rw [HF.out, HA.out]; rfl), rfl⟩
end Go.Proofs.YtablocpcgknmaaaGreatDoor

namespace Go.Proofs.YtablocpcgknmaaaGreatDoor
open Go.Lib (hid)
open Go.RowKit
set_option linter.unusedVariables false
set_option maxRecDepth 100000

theorem indexByte_col (l : List UInt8) : Lib.indexByte l 58 = if I.col (l.map fun c => (c.toNat : Int)) < l.length then (I.col (l.map fun c => (c.toNat : Int)) : Int) else -1 := by
 induction l with
 | nil => rfl
 | cons b l ih =>
  rw [List.map_cons, Lib.indexByte]
  by_cases hb : b = 58
  ·subst hb
   rw [if_pos (by rfl), I.col, List.findIdx_cons]
   rfl
  ·have hb' : (b == 58) = false := by simpa using hb
   have hc : (b.toNat : Int) ≠ 58 := by
    intro h
    apply hb
    apply UInt8.toNat_inj.1
    have : b.toNat = 58 := by omega
    rw [this]; rfl
   rw [hb', if_neg (by simp), I.col_cons _ hc, ih, List.length_cons]
   by_cases hl : I.col (l.map fun c => (c.toNat : Int)) < l.length
   ·have e : ((I.col (l.map fun c => (c.toNat : Int)) : Int) == -1) = false := beq_eq_false_iff_ne.2 (by omega)
    rw [if_pos hl, e, if_neg (by decide : ¬ (false = true)), if_pos (by omega)]
    omega
   ·rw [if_neg hl, show ((-1 : Int) == -1) = true from rfl, if_pos rfl, if_neg (by omega)]
theorem len_data (s : ByteArray) : s.data.toList.length = s.size := by rw [Array.length_toList]; rfl
theorem indexByte_bys (s : ByteArray) : Lib.indexByte s.data.toList 58 = if I.col (bys s) < s.size then (I.col (bys s) : Int) else -1 := by
 rw [indexByte_col, len_data]; rfl

theorem indexByte_any (s : ByteArray) (c : Int) (hc : c = 58) (w : World) : Calls Tryz.prog 219 #[.string s, .int .u8 c] w fun e w' => e = .returned (.int .i64 (Lib.indexByte s.data.toList 58)) ∧ w = w' := by
 subst hc
 go_enter Tryz.func219, Tryz.ntmps219
 go_wp2
 rw [run_callFunc_extern Tryz.func223 (by kernel_rfl) (by kernel_rfl) (by kernel_rfl) (e := Extern.BytealgIndexByte.indexByte) (by kernel_rfl), Lib.run_indexByteString]
 simp only [Result.andThen]
 rw [Oper.upon_value]
 go_wp2
 go_ret
 exact ⟨rfl, rfl⟩
theorem sindex_any (s : ByteArray) (w : World) : Calls Tryz.prog 218 #[.string s, .string ⟨#[58]⟩] w fun e w' => e = .returned (.int .i64 (Lib.indexByte s.data.toList 58)) ∧ w = w' := by
 cases he : ([58] : List UInt8) == s.toList
 ·go_enter Tryz.func218, Tryz.ntmps218
  go_wp2_with (go_at_call 219; refine (indexByte_any _ _ rfl _).mono ?_; rintro e w' ⟨rfl, rfl⟩)
  go_ret
  exact ⟨rfl, rfl⟩
 ·have HF := hid (show Lib.indexByte s.data.toList 58 = 0 by
   have := eq_of_beq he
   rw [Lib.toList_data] at this
   rw [← this]; rfl)
  go_enter Tryz.func218, Tryz.ntmps218
  go_wp2
  go_ret
  exact ⟨ret_i64 HF.out.symm, rfl⟩
theorem cut_hit (s : ByteArray) (w : World) (h : I.col (bys s) < s.size) (hs : s.size ≤ 9223372036854775807) :
  Calls Tryz.prog 210 #[.string s, .string ⟨#[58]⟩] w fun e w' => e = .returned (.tuple #[.string (s.extract 0 (I.col (bys s))), .string (s.extract (I.col (bys s) + 1) s.size), .bool true]) ∧ Below w.heap.size w w' := by
 have HF := hid (show Lib.indexByte s.data.toList 58 = (I.col (bys s) : Int) by
  rw [indexByte_bys, if_pos h])
 generalize I.col (bys s) = k at *
 have c1 : (0 : Int) ≤ ↑k := by omega
 have c2 : (↑k : Int) ≤ ↑s.size := by omega
 have c3 : (0 : Int) ≤ ↑k + 1 := by omega
 have c4 : (↑k + 1 : Int) ≤ ↑s.size := by omega
 go_enter Tryz.func210, Tryz.ntmps210
 go_wp2_with (go_at_call 218; refine (sindex_any _ _).mono ?_; rintro e w' ⟨rfl, rfl⟩; rw [HF.out])
 go_region
 go_wp2
 go_ret3
 exact ⟨rfl, (Below.refl _ _).drew⟩
theorem cut_miss (s : ByteArray) (w : World) (h : ¬ I.col (bys s) < s.size) :
  Calls Tryz.prog 210 #[.string s, .string ⟨#[58]⟩] w fun e w' => e = .returned (.tuple #[.string s, .string ⟨#[]⟩, .bool false]) ∧ Below w.heap.size w w' := by
 have HF := hid (show Lib.indexByte s.data.toList 58 = -1 by
  rw [indexByte_bys, if_neg h])
 clear h
 go_enter Tryz.func210, Tryz.ntmps210
 go_wp2_with (go_at_call 218; refine (sindex_any _ _).mono ?_; rintro e w' ⟨rfl, rfl⟩; rw [HF.out])
 go_ret3
 exact ⟨rfl, Below.refl _ _⟩
theorem scut_hit (s : ByteArray) (w : World) (h : I.col (bys s) < s.size) (hs : s.size ≤ 9223372036854775807) :
  Calls Tryz.prog 194 #[.string s, .string ⟨#[58]⟩] w fun e w' => e = .returned (.tuple #[.string (s.extract 0 (I.col (bys s))), .string (s.extract (I.col (bys s) + 1) s.size), .bool true]) ∧ Below w.heap.size w w' := by
 have C := hid (cut_hit s w h hs)
 clear h
 generalize s.extract 0 (I.col (bys s)) = x at *
 generalize s.extract (I.col (bys s) + 1) s.size = y at *
 go_enter Tryz.func194, Tryz.ntmps194
 go_wp2_with (go_at_call 210; refine C.out.mono ?_; rintro e w1 ⟨rfl, hb1⟩)
 go_ret3
 exact ⟨rfl, hb1⟩
theorem scut_miss (s : ByteArray) (w : World) (h : ¬ I.col (bys s) < s.size) :
  Calls Tryz.prog 194 #[.string s, .string ⟨#[58]⟩] w fun e w' => e = .returned (.tuple #[.string s, .string ⟨#[]⟩, .bool false]) ∧ Below w.heap.size w w' := by
 have C := hid (cut_miss s w h)
 clear h
 go_enter Tryz.func194, Tryz.ntmps194
 go_wp2_with (go_at_call 210; refine C.out.mono ?_; rintro e w1 ⟨rfl, hb1⟩)
 go_ret3
 exact ⟨rfl, hb1⟩
end Go.Proofs.YtablocpcgknmaaaGreatDoor

namespace Go.Proofs.YtablocpcgknmaaaGreatDoor
open Go.Lib (hid)
open Go.RowKit
set_option linter.unusedVariables false

theorem bys_extract (s : ByteArray) (a b : Nat) : bys (s.extract a b) = ((bys s).take b).drop a := by
 unfold bys
 rw [ByteArray.data_extract, Array.toList_extract, List.extract_eq_take_drop, List.map_take, List.map_drop, List.drop_take]
theorem bys_from (s : ByteArray) (a : Nat) : bys (s.extract a s.size) = (bys s).drop a := by
 rw [bys_extract, List.take_of_length_le (by rw [bys_len]; exact Nat.le_refl _)]
theorem size_extract_le (s : ByteArray) (a b : Nat) {m : Nat} (h : s.size ≤ m) : (s.extract a b).size ≤ m := by
 rw [ByteArray.size_extract]; omega
/-- The two parts of an identifier. -/
def locP (s : ByteArray) : ByteArray := s.extract 1 (I.col (bys s))
def srvP (s : ByteArray) : ByteArray := s.extract (I.col (bys s) + 1) s.size
theorem mkd_cons {m : Int} {t : List Int} (h : m ≠ 58) : I.mkd m (m :: t) = (decide (I.col t < t.length) && (I.isLoc (t.take (I.col t)) && I.isSrv (t.drop (I.col t + 1)))) := by
 unfold I.mkd
 rw [I.col_cons _ h]
 simp
theorem bys_head {s : ByteArray} {m : Int} (h0 : 0 < s.size) (h : (s[0].toNat : Int) = m) : bys s = m :: bys (s.extract 1 s.size) := by
 rw [bys_from]
 have hl := bys_len s
 cases hb : bys s with
 | nil => rw [hb] at hl; simp at hl; omega
 | cons c t =>
  have := bys_getD s 0 h0
  rw [hb] at this
  simp at this
  simp [this, h]
/-- All that the walks of parts and marked want of a text that begins with the mark. -/
structure Beg (s t : ByteArray) (m : Int) : Prop where
 eq : bys s = m :: bys t
 col : I.col (bys s) = I.col (bys t) + 1
 mkq : I.mkd m (bys s) = (decide (I.col (bys t) < t.size) && (I.isLoc (bys (t.extract 0 (I.col (bys t)))) && I.isSrv (bys (t.extract (I.col (bys t) + 1) t.size))))
 sz : t.size + 1 = s.size
 loc : t.extract 0 (I.col (bys t)) = locP s
 srv : t.extract (I.col (bys t) + 1) t.size = srvP s
theorem beg {s : ByteArray} {m : Int} (hm : m ≠ 58) (h0 : 0 < s.size) (h : (s[0].toNat : Int) = m) : Beg s (s.extract 1 s.size) m := by
 have e := bys_head h0 h
 have hsz : (s.extract 1 s.size).size = s.size - 1 := by rw [ByteArray.size_extract]; omega
 have hc : I.col (bys s) = I.col (bys (s.extract 1 s.size)) + 1 := by conv => lhs; rw [e, I.col_cons _ hm]
 have hcl := I.col_le (bys (s.extract 1 s.size))
 rw [bys_len, hsz] at hcl
 have hm' : I.mkd m (bys s) = I.mkd m (m :: bys (s.extract 1 s.size)) := by rw [← e]
 have hx : ∀ a b, (s.extract 1 s.size).extract a b = s.extract (1 + a) (min (1 + b) s.size) := fun a b => ByteArray.extract_extract
 obtain ⟨t, ht⟩ : ∃ t, t = s.extract 1 s.size := ⟨_, rfl⟩
 rw [← ht] at e hsz hc hcl hm' hx
 rw [← ht]
 refine ⟨e, hc, ?_, by omega, ?_, ?_⟩
 ·rw [hm', mkd_cons hm, bys_len, bys_extract t 0, List.drop_zero, bys_from]
 ·unfold locP
  rw [hx, hc, show min (1 + I.col (bys t)) s.size = I.col (bys t) + 1 by omega]
 ·unfold srvP
  rw [hx, hc, hsz, show min (1 + (s.size - 1)) s.size = s.size by omega, show 1 + (I.col (bys t) + 1) = I.col (bys t) + 1 + 1 by omega]
abbrev no3 : Ending := .returned (.tuple #[.string ⟨#[]⟩, .string ⟨#[]⟩, .bool false])
set_option maxHeartbeats 800000 in
set_option maxRecDepth 100000 in
theorem parts_no (s : ByteArray) (m : Int) (hm : m ≠ 58) (hs : s.size ≤ 9223372036854775807) (hk : I.mkd m (bys s) = false) (w : World) :
  Calls Tryz.prog 146 #[.string s, .int .u8 m] w fun e w' => e = .returned (.tuple #[.string ⟨#[]⟩, .string ⟨#[]⟩, .bool false]) ∧ Below w.heap.size w w' := by
 by_cases h0 : s.size = 0
 ·have e0 : ((s.size : Int) == 0) = true := beq_iff_eq.2 (by omega)
  clear h0 hk
  go_enter Tryz.func146, Tryz.ntmps146
  go_wp2
  go_ret3
  exact ⟨rfl, Below.refl _ _⟩
 ·have e0 : ((s.size : Int) == 0) = false := beq_eq_false_iff_ne.2 (by omega)
  have hp : 0 < s.size := by omega
  clear h0
  by_cases h1 : (s[0].toNat : Int) = m
  ·have e1 : ((s[0].toNat : Int) != m) = false := by rw [bne_eq_false_iff_eq]; exact h1
   have B := beg hm hp h1
   have hsx : (s.extract 1 s.size).size ≤ 9223372036854775807 := size_extract_le _ _ _ hs
   have hmk := B.mkq
   rw [hk] at hmk
   have HP := hid hp
   have q1 : (1 : Int) ≤ (s.size : Int) := by omega
   clear h1 B hk
   obtain ⟨t, ht⟩ : ∃ t, s.extract 1 s.size = t := ⟨_, rfl⟩
   rw [ht] at hmk hsx
   have HT := hid ht
   clear ht
   by_cases hc : I.col (bys t) < t.size
   ·have C := hid (scut_hit t w hc hsx)
    rw [decide_eq_true hc, Bool.true_and] at hmk
    have CL := hid (isLocal_any (t.extract 0 (I.col (bys t))) (size_extract_le _ _ _ hsx))
    have CS := hid (isServer_any (t.extract (I.col (bys t) + 1) t.size) (size_extract_le _ _ _ hsx))
    clear hc
    generalize t.extract 0 (I.col (bys t)) = x at *
    generalize t.extract (I.col (bys t) + 1) t.size = y at *
    cases hx : I.isLoc (bys x)
    ·clear hmk
     go_enter Tryz.func146, Tryz.ntmps146
     go_wp2_with (first
      | (go_at_call 194; rw [HT.out]; refine C.out.mono ?_; rintro e w1 ⟨rfl, hb1⟩; have HB := hid hb1; clear hb1)
      | (go_at_call 195; refine (CL.out _).mono ?_; rintro e w' ⟨rfl, rfl⟩))
     go_ret3
     exact ⟨rfl, HB.out⟩
    ·rw [hx, Bool.true_and] at hmk
     have hy := hmk.symm
     clear hmk
     go_enter Tryz.func146, Tryz.ntmps146
     go_wp2_with (first
      | (go_at_call 194; rw [HT.out]; refine C.out.mono ?_; rintro e w1 ⟨rfl, hb1⟩; have HB := hid hb1; clear hb1)
      | (go_at_call 195; refine (CL.out _).mono ?_; rintro e w' ⟨rfl, rfl⟩)
      | (go_at_call 196; refine (CS.out _).mono ?_; rintro e w' ⟨rfl, rfl⟩))
     go_ret3
     exact ⟨rfl, HB.out⟩
   ·have C := hid (scut_miss t w hc)
    clear hc hmk
    go_enter Tryz.func146, Tryz.ntmps146
    go_wp2_with (go_at_call 194; rw [HT.out]; refine C.out.mono ?_; rintro e w1 ⟨rfl, hb1⟩; have HB := hid hb1; clear hb1)
    go_ret3
    exact ⟨rfl, HB.out⟩
  ·have e1 : ((s[0].toNat : Int) != m) = true := by rw [bne_iff_ne]; exact h1
   clear h1 hk
   go_enter Tryz.func146, Tryz.ntmps146
   go_wp2
   go_ret3
   exact ⟨rfl, Below.refl _ _⟩

set_option maxHeartbeats 800000 in
set_option maxRecDepth 100000 in
theorem parts_yes (s : ByteArray) (m : Int) (hm : m ≠ 58) (hs : s.size ≤ 9223372036854775807) (hk : I.mkd m (bys s) = true) (w : World) :
  Calls Tryz.prog 146 #[.string s, .int .u8 m] w fun e w' => e = .returned (.tuple #[.string (locP s), .string (srvP s), .bool true]) ∧ Below w.heap.size w w' := by
 obtain ⟨k1, k2, k3⟩ := (I.mkd_iff.1 hk).1
 rw [bys_len] at k1
 have hp : 0 < s.size := k1
 rw [bys_getD s 0 hp] at k2
 have e0 : ((s.size : Int) == 0) = false := beq_eq_false_iff_ne.2 (by omega)
 have e1 : ((s[0].toNat : Int) != m) = false := by rw [bne_eq_false_iff_eq]; exact k2
 have B := beg hm hp k2
 have hsx : (s.extract 1 s.size).size ≤ 9223372036854775807 := size_extract_le _ _ _ hs
 have hmk := B.mkq
 rw [hk] at hmk
 have q1 : (1 : Int) ≤ (s.size : Int) := by omega
 have HL := hid B.loc
 have HS := hid B.srv
 have HP := hid hp
 clear k1 k2 k3 B hk hm
 obtain ⟨t, ht⟩ : ∃ t, s.extract 1 s.size = t := ⟨_, rfl⟩
 rw [ht] at hmk hsx HL HS
 have HT := hid ht
 clear ht
 rw [eq_comm, Bool.and_eq_true, Bool.and_eq_true, decide_eq_true_iff] at hmk
 obtain ⟨hc, hx, hy⟩ := hmk
 have C := hid (scut_hit t w hc hsx)
 have CL := hid (isLocal_any (t.extract 0 (I.col (bys t))) (size_extract_le _ _ _ hsx))
 have CS := hid (isServer_any (t.extract (I.col (bys t) + 1) t.size) (size_extract_le _ _ _ hsx))
 clear hc
 generalize t.extract 0 (I.col (bys t)) = x at *
 generalize t.extract (I.col (bys t) + 1) t.size = y at *
 go_enter Tryz.func146, Tryz.ntmps146
 go_wp2_with (first
  | (go_at_call 194; rw [HT.out]; refine C.out.mono ?_; rintro e w1 ⟨rfl, hb1⟩; have HB := hid hb1; clear hb1)
  | (go_at_call 195; refine (CL.out _).mono ?_; rintro e w' ⟨rfl, rfl⟩)
  | (go_at_call 196; refine (CS.out _).mono ?_; rintro e w' ⟨rfl, rfl⟩))
 go_ret3
 exact ⟨by rw [← HL.out, ← HS.out]; rfl, HB.out⟩
end Go.Proofs.YtablocpcgknmaaaGreatDoor

namespace Go.Proofs.YtablocpcgknmaaaGreatDoor
open Go.Lib (hid)
open Go.RowKit
set_option linter.unusedVariables false

/-- The error of a test. -/
def err (b : Bool) : Int := if b then 0 else 3
theorem err_t : err true = 0 := rfl
theorem err_f : err false = 3 := rfl
end Go.Proofs.YtablocpcgknmaaaGreatDoor

namespace Go.Proofs.YtablocpcgknmaaaGreatDoor
open Go.Lib (hid)
open Go.RowKit
set_option linter.unusedVariables false

theorem below_dn {B : Nat} {w w' : World} (h : Below B w w') (n : Nat) : Below B w (w'.drewN n) := ⟨h.os, h.tape, h.output, h.size, h.block⟩
/-- The slice of strings at a has len elements, which are ls; it lies below block B. -/
def StrsB (B : Nat) (w : World) (a : Option Addr) (len : Nat) (ls : List ByteArray) : Prop :=
 ls.length = len ∧ len ≤ 9223372036854775807 ∧ (∀ s ∈ ls, s.size ≤ 9223372036854775807) ∧
  (0 < len → ∃ b off, a = some ⟨b, off, none⟩ ∧ b < B ∧ ∀ i, i < len → w.cell? ⟨b, off + i, none⟩ = some (.string (ls.getD i ByteArray.empty)))
abbrev Strs (w : World) (a : Option Addr) (len : Nat) (ls : List ByteArray) : Prop := StrsB w.heap.size w a len ls
theorem StrsB.below {B B' : Nat} {w w' : World} {a : Option Addr} {len : Nat} {ls : List ByteArray} (h : StrsB B w a len ls) (hb : Below B' w w') (hB : B ≤ B') : StrsB B w' a len ls := by
 obtain ⟨h1, h2, h3, h4⟩ := h
 refine ⟨h1, h2, h3, fun h0 => ?_⟩
 obtain ⟨b, off, e, hl, hc⟩ := h4 h0
 exact ⟨b, off, e, hl, fun i hi => (hb.cell (p := ⟨b, off + i, none⟩) (Nat.lt_of_lt_of_le hl hB)).trans (hc i hi)⟩
theorem StrsB.mono {B B' : Nat} {w : World} {a : Option Addr} {len : Nat} {ls : List ByteArray} (h : StrsB B w a len ls) (hB : B ≤ B') : StrsB B' w a len ls := by
 obtain ⟨h1, h2, h3, h4⟩ := h
 refine ⟨h1, h2, h3, fun h0 => ?_⟩
 obtain ⟨b, off, e, hl, hc⟩ := h4 h0
 exact ⟨b, off, e, Nat.lt_of_lt_of_le hl hB, hc⟩
theorem Strs.below {w w' : World} {a : Option Addr} {len : Nat} {ls : List ByteArray} (h : Strs w a len ls) (hb : Below w.heap.size w w') : Strs w' a len ls :=
 (StrsB.below h hb (Nat.le_refl _)).mono hb.size
theorem StrsB.str {B : Nat} {w : World} {a : Option Addr} {len : Nat} {ls : List ByteArray} (h : StrsB B w a len ls) {k : Nat} (hk : k < len) :
  ∃ b off, a = some ⟨b, off, none⟩ ∧ ∃ t : ByteArray, t = ls.getD k ByteArray.empty ∧ t.size ≤ 9223372036854775807 ∧ b < B ∧ w.cell? ⟨b, off + k, none⟩ = some (.string t) := by
 obtain ⟨hl, _, hb, hc⟩ := h
 obtain ⟨b, off, ha, hlt, hc⟩ := hc (by omega)
 have hm : ls.getD k ByteArray.empty ∈ ls := by
  rw [List.getD_eq_getElem?_getD, List.getElem?_eq_getElem (by omega)]; simp
 exact ⟨b, off, ha, _, rfl, hb _ hm, hlt, hc k hk⟩
theorem StrsB.drop {B : Nat} {w : World} {a : Option Addr} {len cap : Nat} {ls : List ByteArray} (h : StrsB B w a len ls) (hc : len ≤ cap) (k : Nat) (hk : k ≤ len) :
  StrsB B w (if cap = k then a else a.map (·.add (k * 1))) (len - k) (ls.drop k) := by
 obtain ⟨h1, h2, h3, h4⟩ := h
 refine ⟨by rw [List.length_drop, h1], by omega, fun s hs => h3 s (List.mem_of_mem_drop hs), fun h0 => ?_⟩
 obtain ⟨b, off, rfl, hl, hx⟩ := h4 (by omega)
 rw [if_neg (by omega)]
 refine ⟨b, off + k, by simp [Addr.add], hl, fun i hi => ?_⟩
 rw [show off + k + i = off + (k + i) by omega, hx (k + i) (by omega), List.getD_eq_getElem?_getD, List.getD_eq_getElem?_getD, List.getElem?_drop]
theorem StrsB.take {B : Nat} {w : World} {a : Option Addr} {len : Nat} {ls : List ByteArray} (h : StrsB B w a len ls) (k : Nat) (hk : k ≤ len) : StrsB B w a k (ls.take k) := by
 obtain ⟨h1, h2, h3, h4⟩ := h
 refine ⟨by rw [List.length_take, h1]; omega, by omega, fun s hs => h3 s (List.mem_of_mem_take hs), fun h0 => ?_⟩
 obtain ⟨b, off, e, hl, hx⟩ := h4 (by omega)
 refine ⟨b, off, e, hl, fun i hi => ?_⟩
 rw [hx i (by omega), List.getD_eq_getElem?_getD, List.getD_eq_getElem?_getD, List.getElem?_take, if_pos hi]

/-- The texts. -/
def tx (ls : List ByteArray) : List I.Txt := ls.map fun s => s.data.toList
theorem tx_len (ls : List ByteArray) : (tx ls).length = ls.length := by unfold tx; simp
theorem tx_get {ls : List ByteArray} {k : Nat} (h : k < ls.length) : (tx ls).getD k [] = (ls.getD k ByteArray.empty).data.toList := by
 unfold tx
 rw [List.getD_eq_getElem?_getD, List.getD_eq_getElem?_getD, List.getElem?_map, List.getElem?_eq_getElem h]
 rfl
theorem beq_tx (s t : ByteArray) : (s.toList == t.toList) = decide (s.data.toList = t.data.toList) := by
 rw [Lib.toList_data, Lib.toList_data]
 by_cases h : s.data.toList = t.data.toList
 ·rw [h]; simp
 ·rw [decide_eq_false h]; simpa using h
theorem tx_ne {l1 l2 : List ByteArray} {k : Nat} (h1 : k < l1.length) (h2 : k < l2.length) (h : ((l1.getD k ByteArray.empty).toList == (l2.getD k ByteArray.empty).toList) = false) : tx l1 ≠ tx l2 := by
 intro e
 rw [beq_tx, decide_eq_false_iff_not] at h
 rw [← tx_get h1, ← tx_get h2, e] at h
 exact h rfl
theorem tx_eq {l1 l2 : List ByteArray} (hl : l1.length = l2.length) (h : ∀ k, k < l1.length → ((l1.getD k ByteArray.empty).toList == (l2.getD k ByteArray.empty).toList) = true) : tx l1 = tx l2 := by
 apply List.ext_getElem (by rw [tx_len, tx_len, hl])
 intro k h1 h2
 rw [tx_len] at h1 h2
 have := h k h1
 rw [beq_tx, decide_eq_true_iff, ← tx_get h1, ← tx_get h2, List.getD_eq_getElem?_getD, List.getD_eq_getElem?_getD, List.getElem?_eq_getElem (by rw [tx_len]; exact h1), List.getElem?_eq_getElem (by rw [tx_len]; exact h2)] at this
 exact this

set_option maxHeartbeats 400000 in
theorem same_any (a1 : Option Addr) (n1 c1 : Nat) (l1 : List ByteArray) (a2 : Option Addr) (n2 c2 : Nat) (l2 : List ByteArray) (w : World) (h1 : Strs w a1 n1 l1) (h2 : Strs w a2 n2 l2) :
  Calls Tryz.prog 59 #[.slice a1 n1 c1, .slice a2 n2 c2] w fun e w' => e = .returned (.bool (decide (tx l1 = tx l2))) ∧ Below w.heap.size w w' := by
 have H1 := hid h1
 have H2 := hid h2
 have hm1 := h1.2.1
 have hm2 := h2.2.1
 have HL1 := hid h1.1
 have HL2 := hid h2.1
 clear h1 h2
 by_cases hn : n1 = n2
 ·subst hn
  have HN := hid (show l1.length = l2.length by rw [HL1.out, HL2.out])
  go_enter Tryz.func59, Tryz.ntmps59
  go_wp2
  go_loopw [5] (fun i wr => ∃ k : Nat, k ≤ n1 ∧ i = .int .i64 k ∧ Hid (∀ j, j < k → ((l1.getD j ByteArray.empty).toList == (l2.getD j ByteArray.empty).toList) = true) ∧ Hid (Below w.heap.size w wr)) (fun i _ => n1 - (intOf i).toNat)
  case atStart => exact ⟨0, Nat.zero_le _, rfl, hid (fun j hj => by omega), hid (Below.refl _ _)⟩
  case round =>
   obtain ⟨k, hk, rfl, HO, HB⟩ := hrel
   by_cases hlt : k < n1
   ·obtain ⟨b1, o1, rfl, t1, ht1, _, hb1, hc1⟩ := (H1.out.below HB.out).str hlt
    obtain ⟨b2, o2, rfl, t2, ht2, _, hb2, hc2⟩ := (H2.out.below HB.out).str hlt
    have HT1 := hid ht1
    have HT2 := hid ht2
    clear ht1 ht2
    cases he : t1.toList == t2.toList
    ·have HE := hid he
     have HF := hid (tx_ne (k := k) (by rw [HL1.out]; exact hlt) (by rw [HL2.out]; exact hlt) (by rw [← HT1.out, ← HT2.out]; exact he))
     go_wp2
     go_quiet (fail)
     go_wp2
     go_ret
     exact ⟨ret_bool (by rw [decide_eq_false HF.out]), below_dn HB.out _⟩
    ·have HE := hid he
     go_wp2
     go_quiet (fail)
     go_wp2
     go_roundw
     case rel => exact ⟨k + 1, by omega, by go_num, hid (fun j hj => by
       rcases Nat.lt_or_ge j k with h | h
       ·exact HO.out j h
       ·rw [show j = k by omega, ← HT1.out, ← HT2.out]; exact HE.out), hid (below_dn HB.out _)⟩
     case measure => simp [intOf]; omega
   ·have HF := hid (tx_eq HN.out (fun j hj => HO.out j (by have := HL1.out; omega)))
    go_wp2
    go_ret
    exact ⟨ret_bool (by rw [decide_eq_true HF.out]), HB.out⟩
 ·have e1 : ((n1 : Int) != (n2 : Int)) = true := by rw [bne_iff_ne]; omega
  have HF := hid (show tx l1 ≠ tx l2 by intro e; apply hn; rw [← HL1.out, ← HL2.out, ← tx_len, ← tx_len, e])
  clear hn
  go_enter Tryz.func59, Tryz.ntmps59
  go_wp2
  go_ret
  exact ⟨ret_bool (by rw [decide_eq_false HF.out]), Below.refl _ _⟩
end Go.Proofs.YtablocpcgknmaaaGreatDoor

namespace Go.Proofs.YtablocpcgknmaaaGreatDoor
open Go.Lib (hid)
open Go.RowKit
set_option linter.unusedVariables false

theorem verdict_any (b : Bool) (w : World) : Calls Tryz.prog 147 #[.bool b] w fun e w' => e = .returned (.int .i64 (err b)) ∧ w = w' := by
 cases b
 all_goals
  go_enter Tryz.func147, Tryz.ntmps147
  go_wp2
  go_ret
  exact ⟨rfl, rfl⟩
theorem user_any (s : ByteArray) (hs : s.size ≤ 9223372036854775807) (w : World) : Calls Tryz.prog 91 #[.string s] w fun e w' => e = .returned (.int .i64 (err (I.mkd 64 (bys s)))) ∧ Below w.heap.size w w' := by
 cases h : I.mkd 64 (bys s)
 ·have C := hid (parts_no s 64 (by decide) hs h)
  clear h
  go_enter Tryz.func91, Tryz.ntmps91
  go_wp2_with (first
   | (go_at_call 146; refine (C.out _).mono ?_; rintro e w1 ⟨rfl, hb1⟩; have HB := hid hb1; clear hb1)
   | (go_at_call 147; refine (verdict_any _ _).mono ?_; rintro e w' ⟨rfl, rfl⟩))
  go_ret
  exact ⟨rfl, HB.out⟩
 ·have C := hid (parts_yes s 64 (by decide) hs h)
  clear h
  generalize locP s = x at *
  generalize srvP s = y at *
  go_enter Tryz.func91, Tryz.ntmps91
  go_wp2_with (first
   | (go_at_call 146; refine (C.out _).mono ?_; rintro e w1 ⟨rfl, hb1⟩; have HB := hid hb1; clear hb1)
   | (go_at_call 147; refine (verdict_any _ _).mono ?_; rintro e w' ⟨rfl, rfl⟩))
  go_ret
  exact ⟨rfl, HB.out⟩
end Go.Proofs.YtablocpcgknmaaaGreatDoor

namespace Go.Proofs.YtablocpcgknmaaaGreatDoor
open Go.Lib (hid)
open Go.RowKit
set_option linter.unusedVariables false

theorem room_any (s : ByteArray) (hs : s.size ≤ 9223372036854775807) (w : World) : Calls Tryz.prog 90 #[.string s] w fun e w' => e = .returned (.int .i64 (err (I.mkd 33 (bys s)))) ∧ Below w.heap.size w w' := by
 cases h : I.mkd 33 (bys s)
 ·have C := hid (parts_no s 33 (by decide) hs h)
  clear h
  go_enter Tryz.func90, Tryz.ntmps90
  go_wp2_with (first
   | (go_at_call 146; refine (C.out _).mono ?_; rintro e w1 ⟨rfl, hb1⟩; have HB := hid hb1; clear hb1)
   | (go_at_call 147; refine (verdict_any _ _).mono ?_; rintro e w' ⟨rfl, rfl⟩))
  go_ret
  exact ⟨rfl, HB.out⟩
 ·have C := hid (parts_yes s 33 (by decide) hs h)
  clear h
  generalize locP s = x at *
  generalize srvP s = y at *
  go_enter Tryz.func90, Tryz.ntmps90
  go_wp2_with (first
   | (go_at_call 146; refine (C.out _).mono ?_; rintro e w1 ⟨rfl, hb1⟩; have HB := hid hb1; clear hb1)
   | (go_at_call 147; refine (verdict_any _ _).mono ?_; rintro e w' ⟨rfl, rfl⟩))
  go_ret
  exact ⟨rfl, HB.out⟩
/-- Whether a text identifies a user or a room; its parts, or nothing. -/
def anyB (s : ByteArray) : Bool := I.mkd 64 (bys s) || I.mkd 33 (bys s)
def locA (s : ByteArray) : ByteArray := if anyB s then locP s else ⟨#[]⟩
def srvA (s : ByteArray) : ByteArray := if anyB s then srvP s else ⟨#[]⟩
theorem any_cases (s : ByteArray) : (I.mkd 64 (bys s) = true ∧ locA s = locP s ∧ srvA s = srvP s) ∨ (I.mkd 64 (bys s) = false ∧ I.mkd 33 (bys s) = true ∧ locA s = locP s ∧ srvA s = srvP s) ∨ (I.mkd 64 (bys s) = false ∧ I.mkd 33 (bys s) = false ∧ locA s = ⟨#[]⟩ ∧ srvA s = ⟨#[]⟩) := by
 unfold locA srvA anyB
 cases h1 : I.mkd 64 (bys s) <;> cases h2 : I.mkd 33 (bys s) <;> simp
theorem ofAny_any (s : ByteArray) (hs : s.size ≤ 9223372036854775807) (w : World) : Calls Tryz.prog 186 #[.string s] w fun e w' => e = .returned (.tuple #[.string (locA s), .string (srvA s)]) ∧ Below w.heap.size w w' := by
 rcases any_cases s with ⟨h1, h2, h3⟩ | ⟨h1, h4, h2, h3⟩ | ⟨h1, h4, h2, h3⟩
 ·have C := hid (parts_yes s 64 (by decide) hs h1)
  rw [h2, h3]
  clear h1 h2 h3
  generalize locP s = x at *
  generalize srvP s = y at *
  go_enter Tryz.func186, Tryz.ntmps186
  go_wp2_with (go_at_call 146; refine (C.out _).mono ?_; rintro e w1 ⟨rfl, hb1⟩; have HB := hid hb1; clear hb1)
  go_ret2
  exact ⟨rfl, HB.out⟩
 ·have C := hid (parts_no s 64 (by decide) hs h1)
  have C2 := hid (parts_yes s 33 (by decide) hs h4)
  rw [h2, h3]
  clear h1 h2 h3 h4
  generalize locP s = x at *
  generalize srvP s = y at *
  go_enter Tryz.func186, Tryz.ntmps186
  go_wp2_with (first
   | (go_at_call 146; (with_reducible refine (C.out _).mono ?_); rintro e w1 ⟨rfl, hb1⟩; have HB := hid hb1; clear hb1)
   | (go_at_call 146; (with_reducible refine (C2.out _).mono ?_); rintro e w2 ⟨rfl, hb2⟩; have HB2 := hid (HB.out.trans (hb2.mono HB.out.size)); clear hb2))
  go_ret2
  exact ⟨rfl, HB2.out⟩
 ·have C := hid (parts_no s 64 (by decide) hs h1)
  have C2 := hid (parts_no s 33 (by decide) hs h4)
  rw [h2, h3]
  clear h1 h2 h3 h4
  go_enter Tryz.func186, Tryz.ntmps186
  go_wp2_with (first
   | (go_at_call 146; (with_reducible refine (C.out _).mono ?_); rintro e w1 ⟨rfl, hb1⟩; have HB := hid hb1; clear hb1)
   | (go_at_call 146; (with_reducible refine (C2.out _).mono ?_); rintro e w2 ⟨rfl, hb2⟩; have HB2 := hid (HB.out.trans (hb2.mono HB.out.size)); clear hb2))
  go_ret2
  exact ⟨rfl, HB2.out⟩
end Go.Proofs.YtablocpcgknmaaaGreatDoor
