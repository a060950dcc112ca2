/- ids.Room, LocalOf, Server of the program, LocalOf and ServerOf of the reference, for every text. -/
import Derived.Test.YtkcceobncjoodaaIW8
namespace Go.Proofs.Ytkcceobncjoodaa
open Go.RowKit
set_option linter.unusedVariables false

theorem server_any (s : ByteArray) (hs : s.size ≤ 9223372036854775807) (w : World) : Calls Try.prog 25 #[.string s] w fun e w' => e = .returned (.int .i64 (err (I.isSrv (bys s)))) ∧ w = w' := by
  go_enter Try.func25, Try.ntmps25
  go_wp2_with (first
    | (go_at_call 49; refine (isServer_any _ hs _).mono ?_; rintro e w' ⟨rfl, rfl⟩)
    | (go_at_call 48; refine (verdict_any _ _).mono ?_; rintro e w' ⟨rfl, rfl⟩))
  go_ret
  exact ⟨rfl, rfl⟩
theorem room_any (s : ByteArray) (hs : s.size ≤ 9223372036854775807) (w : World) : Calls Try.prog 50 #[.string s] w fun e w' => e = .returned (.int .i64 (err (I.mkd 33 (bys s)))) ∧ Below w.heap.size w w' := by
  cases h : I.mkd 33 (bys s)
  · have C := Lib.hid (parts_no s 33 (by decide) hs h)
    clear h
    go_enter Try.func50, Try.ntmps50
    go_wp2_with (first
      | (go_at_call 55; refine (C.out _).mono ?_; rintro e w1 ⟨rfl, hb1⟩; have HB := Lib.hid hb1; clear hb1)
      | (go_at_call 48; refine (verdict_any _ _).mono ?_; rintro e w' ⟨rfl, rfl⟩))
    go_ret
    exact ⟨rfl, HB.out⟩
  · have C := Lib.hid (parts_yes s 33 (by decide) hs h)
    clear h
    generalize locP s = x at *
    generalize srvP s = y at *
    go_enter Try.func50, Try.ntmps50
    go_wp2_with (first
      | (go_at_call 55; refine (C.out _).mono ?_; rintro e w1 ⟨rfl, hb1⟩; have HB := Lib.hid hb1; clear hb1)
      | (go_at_call 48; refine (verdict_any _ _).mono ?_; rintro e w' ⟨rfl, rfl⟩))
    go_ret
    exact ⟨rfl, HB.out⟩
/-- Whether a text identifies a user or a room; its parts, or nothing. -/
def anyB (s : ByteArray) : Bool := I.mkd 64 (bys s) || I.mkd 33 (bys s)
def locA (s : ByteArray) : ByteArray := if anyB s then locP s else ⟨#[]⟩
def srvA (s : ByteArray) : ByteArray := if anyB s then srvP s else ⟨#[]⟩
theorem any_cases (s : ByteArray) : (I.mkd 64 (bys s) = true ∧ locA s = locP s ∧ srvA s = srvP s) ∨ (I.mkd 64 (bys s) = false ∧ I.mkd 33 (bys s) = true ∧ locA s = locP s ∧ srvA s = srvP s) ∨ (I.mkd 64 (bys s) = false ∧ I.mkd 33 (bys s) = false ∧ locA s = ⟨#[]⟩ ∧ srvA s = ⟨#[]⟩) := by
  unfold locA srvA anyB
  cases h1 : I.mkd 64 (bys s) <;> cases h2 : I.mkd 33 (bys s) <;> simp
theorem ofAny_any (s : ByteArray) (hs : s.size ≤ 9223372036854775807) (w : World) : Calls Try.prog 57 #[.string s] w fun e w' => e = .returned (.tuple #[.string (locA s), .string (srvA s)]) ∧ Below w.heap.size w w' := by
  rcases any_cases s with ⟨h1, h2, h3⟩ | ⟨h1, h4, h2, h3⟩ | ⟨h1, h4, h2, h3⟩
  · have C := Lib.hid (parts_yes s 64 (by decide) hs h1)
    rw [h2, h3]
    clear h1 h2 h3
    generalize locP s = x at *
    generalize srvP s = y at *
    go_enter Try.func57, Try.ntmps57
    go_wp2_with (go_at_call 55; refine (C.out _).mono ?_; rintro e w1 ⟨rfl, hb1⟩; have HB := Lib.hid hb1; clear hb1)
    go_ret2
    exact ⟨rfl, HB.out⟩
  · have C := Lib.hid (parts_no s 64 (by decide) hs h1)
    have C2 := Lib.hid (parts_yes s 33 (by decide) hs h4)
    rw [h2, h3]
    clear h1 h2 h3 h4
    generalize locP s = x at *
    generalize srvP s = y at *
    go_enter Try.func57, Try.ntmps57
    go_wp2_with (first
      | (go_at_call 55; (with_reducible refine (C.out _).mono ?_); rintro e w1 ⟨rfl, hb1⟩; have HB := Lib.hid hb1; clear hb1)
      | (go_at_call 55; (with_reducible refine (C2.out _).mono ?_); rintro e w2 ⟨rfl, hb2⟩; have HB2 := Lib.hid (HB.out.trans (hb2.mono HB.out.size)); clear hb2))
    go_ret2
    exact ⟨rfl, HB2.out⟩
  · have C := Lib.hid (parts_no s 64 (by decide) hs h1)
    have C2 := Lib.hid (parts_no s 33 (by decide) hs h4)
    rw [h2, h3]
    clear h1 h2 h3 h4
    go_enter Try.func57, Try.ntmps57
    go_wp2_with (first
      | (go_at_call 55; (with_reducible refine (C.out _).mono ?_); rintro e w1 ⟨rfl, hb1⟩; have HB := Lib.hid hb1; clear hb1)
      | (go_at_call 55; (with_reducible refine (C2.out _).mono ?_); rintro e w2 ⟨rfl, hb2⟩; have HB2 := Lib.hid (HB.out.trans (hb2.mono HB.out.size)); clear hb2))
    go_ret2
    exact ⟨rfl, HB2.out⟩
theorem localOf_any (s : ByteArray) (hs : s.size ≤ 9223372036854775807) (w : World) : Calls Try.prog 34 #[.string s] w fun e w' => e = .returned (.string (locA s)) ∧ Below w.heap.size w w' := by
  have C := Lib.hid (ofAny_any s hs)
  generalize locA s = x at *
  generalize srvA s = y at *
  go_enter Try.func34, Try.ntmps34
  go_wp2_with (go_at_call 57; refine (C.out _).mono ?_; rintro e w1 ⟨rfl, hb1⟩; have HB := Lib.hid hb1; clear hb1)
  go_ret
  exact ⟨rfl, HB.out⟩
theorem rlocalOf_any (s : ByteArray) (hs : s.size ≤ 9223372036854775807) (w : World) : Calls Try.prog 36 #[.string s] w fun e w' => e = .returned (.string (locA s)) ∧ w = w' := by
  have C := Lib.hid (colon_any s hs)
  have M := Lib.hid (fun m hm => marked_any s m hm hs)
  rcases any_cases s with ⟨h1, h2, h3⟩ | ⟨h1, h4, h2, h3⟩ | ⟨h1, h4, h2, h3⟩
  · rw [h2]
    obtain ⟨k1, k2, k3⟩ := (I.mkd_iff.1 h1).1
    rw [bys_len] at k1 k3
    rw [bys_getD s 0 k1] at k2
    have k4 := (beg (by decide) k1 k2).col
    unfold locP
    have c1 : (1 : Int) ≤ (I.col (bys s) : Int) := by omega
    have c2 : (I.col (bys s) : Int) ≤ (s.size : Int) := by omega
    have c3 : (0 : Int) ≤ (I.col (bys s) : Int) + 1 := by omega
    have c4 : (I.col (bys s) : Int) + 1 ≤ (s.size : Int) := by omega
    clear k4 k3 k2 k1 h2 h3
    generalize I.col (bys s) = k at *
    go_enter Try.func36, Try.ntmps36
    go_wp2_with (first
      | (go_at_call 44; refine (M.out _ (by decide) _).mono ?_; rintro e w' ⟨rfl, rfl⟩)
      | (go_at_call 45; refine (C.out _).mono ?_; rintro e w' ⟨rfl, rfl⟩))
    go_ret
    exact ⟨rfl, rfl⟩
  · rw [h2]
    obtain ⟨k1, k2, k3⟩ := (I.mkd_iff.1 h4).1
    rw [bys_len] at k1 k3
    rw [bys_getD s 0 k1] at k2
    have k4 := (beg (by decide) k1 k2).col
    unfold locP
    have c1 : (1 : Int) ≤ (I.col (bys s) : Int) := by omega
    have c2 : (I.col (bys s) : Int) ≤ (s.size : Int) := by omega
    have c3 : (0 : Int) ≤ (I.col (bys s) : Int) + 1 := by omega
    have c4 : (I.col (bys s) : Int) + 1 ≤ (s.size : Int) := by omega
    clear k4 k3 k2 k1 h2 h3
    generalize I.col (bys s) = k at *
    go_enter Try.func36, Try.ntmps36
    go_wp2_with (first
      | (go_at_call 44; refine (M.out _ (by decide) _).mono ?_; rintro e w' ⟨rfl, rfl⟩)
      | (go_at_call 45; refine (C.out _).mono ?_; rintro e w' ⟨rfl, rfl⟩))
    go_ret
    exact ⟨rfl, rfl⟩
  · rw [h2]
    clear h2 h3
    go_enter Try.func36, Try.ntmps36
    go_wp2_with (go_at_call 44; refine (M.out _ (by decide) _).mono ?_; rintro e w' ⟨rfl, rfl⟩)
    go_ret
    exact ⟨rfl, rfl⟩
theorem rserverOf_any (s : ByteArray) (hs : s.size ≤ 9223372036854775807) (w : World) : Calls Try.prog 22 #[.string s] w fun e w' => e = .returned (.string (srvA s)) ∧ w = w' := by
  have C := Lib.hid (colon_any s hs)
  have M := Lib.hid (fun m hm => marked_any s m hm hs)
  rcases any_cases s with ⟨h1, h2, h3⟩ | ⟨h1, h4, h2, h3⟩ | ⟨h1, h4, h2, h3⟩
  · rw [h3]
    obtain ⟨k1, k2, k3⟩ := (I.mkd_iff.1 h1).1
    rw [bys_len] at k1 k3
    rw [bys_getD s 0 k1] at k2
    have k4 := (beg (by decide) k1 k2).col
    unfold srvP
    have c1 : (1 : Int) ≤ (I.col (bys s) : Int) := by omega
    have c2 : (I.col (bys s) : Int) ≤ (s.size : Int) := by omega
    have c3 : (0 : Int) ≤ (I.col (bys s) : Int) + 1 := by omega
    have c4 : (I.col (bys s) : Int) + 1 ≤ (s.size : Int) := by omega
    clear k4 k3 k2 k1 h2 h3
    generalize I.col (bys s) = k at *
    go_enter Try.func22, Try.ntmps22
    go_wp2_with (first
      | (go_at_call 44; refine (M.out _ (by decide) _).mono ?_; rintro e w' ⟨rfl, rfl⟩)
      | (go_at_call 45; refine (C.out _).mono ?_; rintro e w' ⟨rfl, rfl⟩))
    go_ret
    exact ⟨rfl, rfl⟩
  · rw [h3]
    obtain ⟨k1, k2, k3⟩ := (I.mkd_iff.1 h4).1
    rw [bys_len] at k1 k3
    rw [bys_getD s 0 k1] at k2
    have k4 := (beg (by decide) k1 k2).col
    unfold srvP
    have c1 : (1 : Int) ≤ (I.col (bys s) : Int) := by omega
    have c2 : (I.col (bys s) : Int) ≤ (s.size : Int) := by omega
    have c3 : (0 : Int) ≤ (I.col (bys s) : Int) + 1 := by omega
    have c4 : (I.col (bys s) : Int) + 1 ≤ (s.size : Int) := by omega
    clear k4 k3 k2 k1 h2 h3
    generalize I.col (bys s) = k at *
    go_enter Try.func22, Try.ntmps22
    go_wp2_with (first
      | (go_at_call 44; refine (M.out _ (by decide) _).mono ?_; rintro e w' ⟨rfl, rfl⟩)
      | (go_at_call 45; refine (C.out _).mono ?_; rintro e w' ⟨rfl, rfl⟩))
    go_ret
    exact ⟨rfl, rfl⟩
  · rw [h3]
    clear h2 h3
    go_enter Try.func22, Try.ntmps22
    go_wp2_with (go_at_call 44; refine (M.out _ (by decide) _).mono ?_; rintro e w' ⟨rfl, rfl⟩)
    go_ret
    exact ⟨rfl, rfl⟩
end Go.Proofs.Ytkcceobncjoodaa
