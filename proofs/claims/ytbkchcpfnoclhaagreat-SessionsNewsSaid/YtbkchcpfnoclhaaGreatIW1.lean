/- The walks of identifiers' small functions: letters, the two tests of a byte, isPart, isServer, isLocal, and the reference's. -/
import Derived.Test.YtbkchcpfnoclhaaGreatRows
import Derived.Test.YtbkchcpfnoclhaaGreatI0
import Derived.WalkKit
import Derived.WalkSpells
import Derived.WalkLawsBesides
import Derived.Lib.Hide
import Derived.Outline
namespace Go.Proofs.YtbkchcpfnoclhaaGreat
open Go.RowKit
set_option linter.unusedVariables false

theorem ret_i64 {a b : Int} (h : a = b) : Ending.returned (.int .i64 a) = .returned (.int .i64 b) := by rw [h]
theorem ret_bool {a b : Bool} (h : a = b) : Ending.returned (.bool a) = .returned (.bool b) := by rw [h]
/-- The bytes of a text, as numbers. -/
def bys (s : ByteArray) : List Int := s.data.toList.map fun c => (c.toNat : Int)
theorem bys_len (s : ByteArray) : (bys s).length = s.size := by unfold bys; rw [List.length_map, Array.length_toList]; rfl
theorem bys_getE (s : ByteArray) (k : Nat) (h : k < s.size) : (bys s)[k]'(by rw [bys_len]; exact h) = (s[k].toNat : Int) := by
  unfold bys
  rw [List.getElem_map]
  rfl
theorem bys_getD (s : ByteArray) (k : Nat) (h : k < s.size) : (bys s).getD k 0 = (s[k].toNat : Int) := by
  rw [List.getD_eq_getElem?_getD, List.getElem?_eq_getElem (by rw [bys_len]; exact h), Option.getD_some, bys_getE s k h]
theorem bys_snoc (s : ByteArray) (k : Nat) (h : k < s.size) : (bys s).take (k + 1) = (bys s).take k ++ [(s[k].toNat : Int)] := by
  rw [List.take_succ_eq_append_getElem (by rw [bys_len]; exact h), bys_getE s k h]
theorem bys_all (s : ByteArray) : (bys s).take s.size = bys s := List.take_of_length_le (by rw [bys_len]; exact Nat.le_refl _)
theorem byte_lt (s : ByteArray) (k : Nat) (h : k < s.size) : 0 ≤ (s[k].toNat : Int) ∧ (s[k].toNat : Int) ≤ 255 := ⟨by omega, by have := s[k].toNat_lt; omega⟩

theorem letter_any (c : Int) (w : World) : Calls Tryz.prog 55 #[.int .u8 c] w fun e w' => e = .returned (.bool (I.letB c)) ∧ w = w' := by
  rcases (show c < 48 ∨ (48 ≤ c ∧ c ≤ 57 ∧ c < 97) ∨ (48 ≤ c ∧ 57 < c ∧ c < 97) ∨ (97 ≤ c ∧ c ≤ 122) ∨ (97 ≤ c ∧ 122 < c ∧ 48 ≤ c ∧ 57 < c) by omega) with h | ⟨h, h2, h3⟩ | ⟨h, h2, h3⟩ | ⟨h, h2⟩ | ⟨h, h2, h3, h4⟩
  · have h' : c < 97 := by omega
    have HF : Hid (I.letB c = false) := Lib.hid (by unfold I.letB; simp; omega)
    go_enter Tryz.func55, Tryz.ntmps55
    go_wp2
    go_ret
    exact ⟨ret_bool (by rw [HF.out]; try (simp; omega)), rfl⟩
  · have HF : Hid (I.letB c = true) := Lib.hid (by unfold I.letB; simp; omega)
    go_enter Tryz.func55, Tryz.ntmps55
    go_wp2
    go_ret
    exact ⟨ret_bool (by rw [HF.out]; try (simp; omega)), rfl⟩
  · have HF : Hid (I.letB c = false) := Lib.hid (by unfold I.letB; simp; omega)
    go_enter Tryz.func55, Tryz.ntmps55
    go_wp2
    go_ret
    exact ⟨ret_bool (by rw [HF.out]; try (simp; omega)), rfl⟩
  · have HF : Hid (I.letB c = true) := Lib.hid (by unfold I.letB; simp; omega)
    go_enter Tryz.func55, Tryz.ntmps55
    go_wp2
    go_ret
    exact ⟨ret_bool (by rw [HF.out]; try (simp; omega)), rfl⟩
  · have HF : Hid (I.letB c = false) := Lib.hid (by unfold I.letB; simp; omega)
    go_enter Tryz.func55, Tryz.ntmps55
    go_wp2
    go_ret
    exact ⟨ret_bool (by rw [HF.out]; try (simp; omega)), rfl⟩
theorem rletter_any (c : Int) (w : World) : Calls Tryz.prog 57 #[.int .u8 c] w fun e w' => e = .returned (.bool (I.letB c)) ∧ w = w' := by
  rcases (show c < 48 ∨ (48 ≤ c ∧ c ≤ 57 ∧ c < 97) ∨ (48 ≤ c ∧ 57 < c ∧ c < 97) ∨ (97 ≤ c ∧ c ≤ 122) ∨ (97 ≤ c ∧ 122 < c ∧ 48 ≤ c ∧ 57 < c) by omega) with h | ⟨h, h2, h3⟩ | ⟨h, h2, h3⟩ | ⟨h, h2⟩ | ⟨h, h2, h3, h4⟩
  · have h' : c < 97 := by omega
    have HF : Hid (I.letB c = false) := Lib.hid (by unfold I.letB; simp; omega)
    go_enter Tryz.func57, Tryz.ntmps57
    go_wp2
    go_ret
    exact ⟨ret_bool (by rw [HF.out]; try (simp; omega)), rfl⟩
  · have HF : Hid (I.letB c = true) := Lib.hid (by unfold I.letB; simp; omega)
    go_enter Tryz.func57, Tryz.ntmps57
    go_wp2
    go_ret
    exact ⟨ret_bool (by rw [HF.out]; try (simp; omega)), rfl⟩
  · have HF : Hid (I.letB c = false) := Lib.hid (by unfold I.letB; simp; omega)
    go_enter Tryz.func57, Tryz.ntmps57
    go_wp2
    go_ret
    exact ⟨ret_bool (by rw [HF.out]; try (simp; omega)), rfl⟩
  · have HF : Hid (I.letB c = true) := Lib.hid (by unfold I.letB; simp; omega)
    go_enter Tryz.func57, Tryz.ntmps57
    go_wp2
    go_ret
    exact ⟨ret_bool (by rw [HF.out]; try (simp; omega)), rfl⟩
  · have HF : Hid (I.letB c = false) := Lib.hid (by unfold I.letB; simp; omega)
    go_enter Tryz.func57, Tryz.ntmps57
    go_wp2
    go_ret
    exact ⟨ret_bool (by rw [HF.out]; try (simp; omega)), rfl⟩

theorem srv_any (c : Int) (w : World) : Calls Tryz.prog 56 #[.int .u8 c] w fun e w' => e = .returned (.bool (I.srvB c)) ∧ w = w' := by
  cases hl : I.letB c
  · have HL := Lib.hid hl
    by_cases h46 : c = 46
    · subst h46
      clear hl
      go_enter Tryz.func56, Tryz.ntmps56
      go_wp2_with (go_at_call 55; refine (letter_any _ _).mono ?_; rintro e w' ⟨rfl, rfl⟩; rw [HL.out])
      go_ret
      exact ⟨rfl, rfl⟩
    · have e1 : (c == 46) = false := beq_eq_false_iff_ne.2 h46
      have H1 := Lib.hid h46
      clear h46 hl
      cases e2 : c == 45
      · have H2 := Lib.hid e2
        go_enter Tryz.func56, Tryz.ntmps56
        go_wp2_with (go_at_call 55; refine (letter_any _ _).mono ?_; rintro e w' ⟨rfl, rfl⟩; rw [HL.out])
        go_ret
        exact ⟨ret_bool (by unfold I.srvB; rw [HL.out]; have := beq_eq_false_iff_ne.1 H2.out; have := H1.out; simp; omega), rfl⟩
      · obtain rfl := beq_iff_eq.1 e2
        clear e1 e2
        go_enter Tryz.func56, Tryz.ntmps56
        go_wp2_with (go_at_call 55; refine (letter_any _ _).mono ?_; rintro e w' ⟨rfl, rfl⟩; rw [HL.out])
        go_ret
        exact ⟨rfl, rfl⟩
  · have HL := Lib.hid hl
    clear hl
    go_enter Tryz.func56, Tryz.ntmps56
    go_wp2_with (go_at_call 55; refine (letter_any _ _).mono ?_; rintro e w' ⟨rfl, rfl⟩; rw [HL.out])
    go_ret
    exact ⟨ret_bool (by unfold I.srvB; rw [HL.out]; rfl), rfl⟩
end Go.Proofs.YtbkchcpfnoclhaaGreat
