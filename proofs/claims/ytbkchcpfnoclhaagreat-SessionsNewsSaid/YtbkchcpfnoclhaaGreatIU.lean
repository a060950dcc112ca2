/- ids.Room, LocalOf, Server of the program, LocalOf and ServerOf of the reference, for every text. -/
import Derived.Test.YtbkchcpfnoclhaaGreatIW8
namespace Go.Proofs.YtbkchcpfnoclhaaGreat
open Go.RowKit
set_option linter.unusedVariables false

theorem room_any (s : ByteArray) (hs : s.size ≤ 9223372036854775807) (w : World) : Calls Tryz.prog 11 #[.string s] w fun e w' => e = .returned (.int .i64 (err (I.mkd 33 (bys s)))) ∧ Below w.heap.size w w' := by
  cases h : I.mkd 33 (bys s)
  · have C := Lib.hid (parts_no s 33 (by decide) hs h)
    clear h
    go_enter Tryz.func11, Tryz.ntmps11
    go_wp2_with (first
      | (go_at_call 27; refine (C.out _).mono ?_; rintro e w1 ⟨rfl, hb1⟩; have HB := Lib.hid hb1; clear hb1)
      | (go_at_call 28; refine (verdict_any _ _).mono ?_; rintro e w' ⟨rfl, rfl⟩))
    go_ret
    exact ⟨rfl, HB.out⟩
  · have C := Lib.hid (parts_yes s 33 (by decide) hs h)
    clear h
    generalize locP s = x at *
    generalize srvP s = y at *
    go_enter Tryz.func11, Tryz.ntmps11
    go_wp2_with (first
      | (go_at_call 27; refine (C.out _).mono ?_; rintro e w1 ⟨rfl, hb1⟩; have HB := Lib.hid hb1; clear hb1)
      | (go_at_call 28; refine (verdict_any _ _).mono ?_; rintro e w' ⟨rfl, rfl⟩))
    go_ret
    exact ⟨rfl, HB.out⟩
/-- Whether a text identifies a user or a room; its parts, or nothing. -/
def anyB (s : ByteArray) : Bool := I.mkd 64 (bys s) || I.mkd 33 (bys s)
def locA (s : ByteArray) : ByteArray := if anyB s then locP s else ⟨#[]⟩
def srvA (s : ByteArray) : ByteArray := if anyB s then srvP s else ⟨#[]⟩
theorem any_cases (s : ByteArray) : (I.mkd 64 (bys s) = true ∧ locA s = locP s ∧ srvA s = srvP s) ∨ (I.mkd 64 (bys s) = false ∧ I.mkd 33 (bys s) = true ∧ locA s = locP s ∧ srvA s = srvP s) ∨ (I.mkd 64 (bys s) = false ∧ I.mkd 33 (bys s) = false ∧ locA s = ⟨#[]⟩ ∧ srvA s = ⟨#[]⟩) := by
  unfold locA srvA anyB
  cases h1 : I.mkd 64 (bys s) <;> cases h2 : I.mkd 33 (bys s) <;> simp
end Go.Proofs.YtbkchcpfnoclhaaGreat
