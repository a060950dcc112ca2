/- The walks of marked, User, Room, ServerOf, LocalOf of both, for every text. -/
import Derived.Test.YtgiamnbnlececaaW5
namespace Go.Proofs.Ytgiamnbnlececaa
open Go.RowKit
set_option linter.unusedVariables false

theorem mkd_eq (s : ByteArray) (m : Int) (h0 : 0 < s.size) (h : (s[0].toNat : Int) = m) : I.mkd m (bys s) = (decide (I.col (bys s) < s.size) && (I.isLoc (bys (locP s)) && I.isSrv (bys (srvP s)))) := by
  unfold I.mkd locP srvP
  rw [bys_extract, bys_from, bys_getD s 0 h0, bys_len]
  congr 1
  apply decide_eq_decide.2
  constructor
  · exact fun h => h.2.2
  · exact fun h' => ⟨h0, h, h'⟩
theorem loc_size (s : ByteArray) {m : Nat} (h : s.size ≤ m) : (locP s).size ≤ m := size_extract_le _ _ _ h
theorem srv_size (s : ByteArray) {m : Nat} (h : s.size ≤ m) : (srvP s).size ≤ m := size_extract_le _ _ _ h
set_option maxHeartbeats 800000 in
theorem marked_any (s : ByteArray) (m : Int) (hm : m ≠ 58) (hs : s.size ≤ 9223372036854775807) (w : World) :
    Calls Try.prog 31 #[.string s, .int .u8 m] w fun e w' => e = .returned (.bool (I.mkd m (bys s))) ∧ w = w' := by
  by_cases h0 : s.size < 1
  · have HF := Lib.hid (show I.mkd m (bys s) = false from mkd_other (.inl (List.eq_nil_of_length_eq_zero (by rw [bys_len]; omega))))
    go_enter Try.func31, Try.ntmps31
    go_wp2
    go_ret
    exact ⟨ret_bool HF.out.symm, rfl⟩
  · have hp : 0 < s.size := by omega
    have q1 : (1 : Int) ≤ (s.size : Int) := by omega
    have q2 : 1 ≤ s.size := by omega
    have C := Lib.hid (colon_any s hs)
    by_cases h1 : (s[0].toNat : Int) = m
    · have e1 : ((s[0].toNat : Int) != m) = false := by rw [bne_eq_false_iff_eq]; exact h1
      have HF := Lib.hid (mkd_eq s m hp h1)
      have hc1 := (beg hm hp h1).col
      have HLp := Lib.hid (show s.extract 1 (I.col (bys s)) = locP s from rfl)
      have HSp := Lib.hid (show s.extract (I.col (bys s) + 1) s.size = srvP s from rfl)
      have CL := Lib.hid (rlocal_any (locP s) (loc_size s hs))
      have CS := Lib.hid (rserver_any (srvP s) (srv_size s hs))
      have k1 : 1 ≤ I.col (bys s) := by omega
      have HP := Lib.hid hp
      generalize I.col (bys s) = k at *
      clear h0 h1 hc1
      by_cases hk : k < s.size
      · have k2 : (k : Int) ≤ (s.size : Int) := by omega
        have k3 : (1 : Int) ≤ (k : Int) := by omega
        have k4 : (0 : Int) ≤ (k : Int) + 1 := by omega
        have k5 : (k : Int) + 1 ≤ (s.size : Int) := by omega
        have HF2 := Lib.hid (show I.mkd m (bys s) = (I.isLoc (bys (locP s)) && I.isSrv (bys (srvP s))) by rw [HF.out, decide_eq_true hk, Bool.true_and])
        clear HF
        generalize locP s = x at *
        generalize srvP s = y at *
        cases hx : I.isLoc (bys x)
        · have HX := Lib.hid (show I.mkd m (bys s) = false by rw [HF2.out, hx, Bool.false_and])
          go_enter Try.func31, Try.ntmps31
          go_wp2_with (first
            | (go_at_call 33; refine (C.out _).mono ?_; rintro e w' ⟨rfl, rfl⟩)
            | (go_at_call 42; rw [HLp.out]; refine (CL.out _).mono ?_; rintro e w' ⟨rfl, rfl⟩))
          go_ret
          exact ⟨ret_bool HX.out.symm, rfl⟩
        · cases hy : I.isSrv (bys y)
          · have HX := Lib.hid (show I.mkd m (bys s) = false by rw [HF2.out, hx, hy, Bool.true_and])
            go_enter Try.func31, Try.ntmps31
            go_wp2_with (first
              | (go_at_call 33; refine (C.out _).mono ?_; rintro e w' ⟨rfl, rfl⟩)
              | (go_at_call 42; rw [HLp.out]; refine (CL.out _).mono ?_; rintro e w' ⟨rfl, rfl⟩)
              | (go_at_call 10; rw [HSp.out]; refine (CS.out _).mono ?_; rintro e w' ⟨rfl, rfl⟩; rw [hy, err_f]))
            go_ret
            exact ⟨ret_bool HX.out.symm, rfl⟩
          · have HX := Lib.hid (show I.mkd m (bys s) = true by rw [HF2.out, hx, hy, Bool.true_and])
            go_enter Try.func31, Try.ntmps31
            go_wp2_with (first
              | (go_at_call 33; refine (C.out _).mono ?_; rintro e w' ⟨rfl, rfl⟩)
              | (go_at_call 42; rw [HLp.out]; refine (CL.out _).mono ?_; rintro e w' ⟨rfl, rfl⟩)
              | (go_at_call 10; rw [HSp.out]; refine (CS.out _).mono ?_; rintro e w' ⟨rfl, rfl⟩; rw [hy, err_t]))
            go_ret
            exact ⟨ret_bool HX.out.symm, rfl⟩
      · have HX := Lib.hid (show I.mkd m (bys s) = false by rw [HF.out, decide_eq_false hk, Bool.false_and])
        clear HF
        go_enter Try.func31, Try.ntmps31
        go_wp2_with (go_at_call 33; refine (C.out _).mono ?_; rintro e w' ⟨rfl, rfl⟩)
        go_ret
        exact ⟨ret_bool HX.out.symm, rfl⟩
    · have e1 : ((s[0].toNat : Int) != m) = true := by rw [bne_iff_ne]; exact h1
      have HF := Lib.hid (show I.mkd m (bys s) = false from mkd_other (.inr (by rw [bys_getD s 0 hp]; exact h1)))
      clear h1 h0
      go_enter Try.func31, Try.ntmps31
      go_wp2
      go_ret
      exact ⟨ret_bool HF.out.symm, rfl⟩

theorem verdict_any (b : Bool) (w : World) : Calls Try.prog 27 #[.bool b] w fun e w' => e = .returned (.int .i64 (err b)) ∧ w = w' := by
  cases b
  all_goals
    go_enter Try.func27, Try.ntmps27
    go_wp2
    go_ret
    exact ⟨rfl, rfl⟩
theorem server_any (s : ByteArray) (hs : s.size ≤ 9223372036854775807) (w : World) : Calls Try.prog 9 #[.string s] w fun e w' => e = .returned (.int .i64 (err (I.isSrv (bys s)))) ∧ w = w' := by
  go_enter Try.func9, Try.ntmps9
  go_wp2_with (first
    | (go_at_call 28; refine (isServer_any _ hs _).mono ?_; rintro e w' ⟨rfl, rfl⟩)
    | (go_at_call 27; refine (verdict_any _ _).mono ?_; rintro e w' ⟨rfl, rfl⟩))
  go_ret
  exact ⟨rfl, rfl⟩

theorem user_any (s : ByteArray) (hs : s.size ≤ 9223372036854775807) (w : World) : Calls Try.prog 12 #[.string s] w fun e w' => e = .returned (.int .i64 (err (I.mkd 64 (bys s)))) ∧ Below w.heap.size w w' := by
  cases h : I.mkd 64 (bys s)
  · have C := Lib.hid (parts_no s 64 (by decide) hs h)
    clear h
    go_enter Try.func12, Try.ntmps12
    go_wp2_with (first
      | (go_at_call 30; refine (C.out _).mono ?_; rintro e w1 ⟨rfl, hb1⟩; have HB := Lib.hid hb1; clear hb1)
      | (go_at_call 27; refine (verdict_any _ _).mono ?_; rintro e w' ⟨rfl, rfl⟩))
    go_ret
    exact ⟨rfl, HB.out⟩
  · have C := Lib.hid (parts_yes s 64 (by decide) hs h)
    clear h
    generalize locP s = x at *
    generalize srvP s = y at *
    go_enter Try.func12, Try.ntmps12
    go_wp2_with (first
      | (go_at_call 30; refine (C.out _).mono ?_; rintro e w1 ⟨rfl, hb1⟩; have HB := Lib.hid hb1; clear hb1)
      | (go_at_call 27; refine (verdict_any _ _).mono ?_; rintro e w' ⟨rfl, rfl⟩))
    go_ret
    exact ⟨rfl, HB.out⟩
theorem ruser_any (s : ByteArray) (hs : s.size ≤ 9223372036854775807) (w : World) : Calls Try.prog 13 #[.string s] w fun e w' => e = .returned (.int .i64 (err (I.mkd 64 (bys s)))) ∧ w = w' := by
  cases h : I.mkd 64 (bys s)
  all_goals
    have H := Lib.hid h
    go_enter Try.func13, Try.ntmps13
    go_wp2_with (go_at_call 31; refine (marked_any _ _ (by decide) hs _).mono ?_; rintro e w' ⟨rfl, rfl⟩)
    go_ret
    exact ⟨rfl, rfl⟩

theorem room_any (s : ByteArray) (hs : s.size ≤ 9223372036854775807) (w : World) : Calls Try.prog 14 #[.string s] w fun e w' => e = .returned (.int .i64 (err (I.mkd 33 (bys s)))) ∧ Below w.heap.size w w' := by
  cases h : I.mkd 33 (bys s)
  · have C := Lib.hid (parts_no s 33 (by decide) hs h)
    clear h
    go_enter Try.func14, Try.ntmps14
    go_wp2_with (first
      | (go_at_call 30; refine (C.out _).mono ?_; rintro e w1 ⟨rfl, hb1⟩; have HB := Lib.hid hb1; clear hb1)
      | (go_at_call 27; refine (verdict_any _ _).mono ?_; rintro e w' ⟨rfl, rfl⟩))
    go_ret
    exact ⟨rfl, HB.out⟩
  · have C := Lib.hid (parts_yes s 33 (by decide) hs h)
    clear h
    generalize locP s = x at *
    generalize srvP s = y at *
    go_enter Try.func14, Try.ntmps14
    go_wp2_with (first
      | (go_at_call 30; refine (C.out _).mono ?_; rintro e w1 ⟨rfl, hb1⟩; have HB := Lib.hid hb1; clear hb1)
      | (go_at_call 27; refine (verdict_any _ _).mono ?_; rintro e w' ⟨rfl, rfl⟩))
    go_ret
    exact ⟨rfl, HB.out⟩
theorem rroom_any (s : ByteArray) (hs : s.size ≤ 9223372036854775807) (w : World) : Calls Try.prog 15 #[.string s] w fun e w' => e = .returned (.int .i64 (err (I.mkd 33 (bys s)))) ∧ w = w' := by
  cases h : I.mkd 33 (bys s)
  all_goals
    have H := Lib.hid h
    go_enter Try.func15, Try.ntmps15
    go_wp2_with (go_at_call 31; refine (marked_any _ _ (by decide) hs _).mono ?_; rintro e w' ⟨rfl, rfl⟩)
    go_ret
    exact ⟨rfl, rfl⟩

/-- Whether a text identifies a user or a room; its parts, or nothing. -/
def anyB (s : ByteArray) : Bool := I.mkd 64 (bys s) || I.mkd 33 (bys s)
def locA (s : ByteArray) : ByteArray := if anyB s then locP s else ⟨#[]⟩
def srvA (s : ByteArray) : ByteArray := if anyB s then srvP s else ⟨#[]⟩
theorem any_cases (s : ByteArray) : (I.mkd 64 (bys s) = true ∧ locA s = locP s ∧ srvA s = srvP s) ∨ (I.mkd 64 (bys s) = false ∧ I.mkd 33 (bys s) = true ∧ locA s = locP s ∧ srvA s = srvP s) ∨ (I.mkd 64 (bys s) = false ∧ I.mkd 33 (bys s) = false ∧ locA s = ⟨#[]⟩ ∧ srvA s = ⟨#[]⟩) := by
  unfold locA srvA anyB
  cases h1 : I.mkd 64 (bys s) <;> cases h2 : I.mkd 33 (bys s) <;> simp
theorem ofAny_any (s : ByteArray) (hs : s.size ≤ 9223372036854775807) (w : World) : Calls Try.prog 32 #[.string s] w fun e w' => e = .returned (.tuple #[.string (locA s), .string (srvA s)]) ∧ Below w.heap.size w w' := by
  rcases any_cases s with ⟨h1, h2, h3⟩ | ⟨h1, h4, h2, h3⟩ | ⟨h1, h4, h2, h3⟩
  · have C := Lib.hid (parts_yes s 64 (by decide) hs h1)
    rw [h2, h3]
    clear h1 h2 h3
    generalize locP s = x at *
    generalize srvP s = y at *
    go_enter Try.func32, Try.ntmps32
    go_wp2_with (go_at_call 30; refine (C.out _).mono ?_; rintro e w1 ⟨rfl, hb1⟩; have HB := Lib.hid hb1; clear hb1)
    go_ret2
    exact ⟨rfl, HB.out⟩
  · have C := Lib.hid (parts_no s 64 (by decide) hs h1)
    have C2 := Lib.hid (parts_yes s 33 (by decide) hs h4)
    rw [h2, h3]
    clear h1 h2 h3 h4
    generalize locP s = x at *
    generalize srvP s = y at *
    go_enter Try.func32, Try.ntmps32
    go_wp2_with (first
      | (go_at_call 30; (with_reducible refine (C.out _).mono ?_); rintro e w1 ⟨rfl, hb1⟩; have HB := Lib.hid hb1; clear hb1)
      | (go_at_call 30; (with_reducible refine (C2.out _).mono ?_); rintro e w2 ⟨rfl, hb2⟩; have HB2 := Lib.hid (HB.out.trans (hb2.mono HB.out.size)); clear hb2))
    go_ret2
    exact ⟨rfl, HB2.out⟩
  · have C := Lib.hid (parts_no s 64 (by decide) hs h1)
    have C2 := Lib.hid (parts_no s 33 (by decide) hs h4)
    rw [h2, h3]
    clear h1 h2 h3 h4
    go_enter Try.func32, Try.ntmps32
    go_wp2_with (first
      | (go_at_call 30; (with_reducible refine (C.out _).mono ?_); rintro e w1 ⟨rfl, hb1⟩; have HB := Lib.hid hb1; clear hb1)
      | (go_at_call 30; (with_reducible refine (C2.out _).mono ?_); rintro e w2 ⟨rfl, hb2⟩; have HB2 := Lib.hid (HB.out.trans (hb2.mono HB.out.size)); clear hb2))
    go_ret2
    exact ⟨rfl, HB2.out⟩

theorem serverOf_any (s : ByteArray) (hs : s.size ≤ 9223372036854775807) (w : World) : Calls Try.prog 16 #[.string s] w fun e w' => e = .returned (.string (srvA s)) ∧ Below w.heap.size w w' := by
  have C := Lib.hid (ofAny_any s hs)
  generalize locA s = x at *
  generalize srvA s = y at *
  go_enter Try.func16, Try.ntmps16
  go_wp2_with (go_at_call 32; refine (C.out _).mono ?_; rintro e w1 ⟨rfl, hb1⟩; have HB := Lib.hid hb1; clear hb1)
  go_ret
  exact ⟨rfl, HB.out⟩
theorem rserverOf_any (s : ByteArray) (hs : s.size ≤ 9223372036854775807) (w : World) : Calls Try.prog 17 #[.string s] w fun e w' => e = .returned (.string (srvA s)) ∧ w = w' := by
  have C := Lib.hid (colon_any s hs)
  have M := Lib.hid (fun m hm => marked_any s m hm hs)
  rcases any_cases s with ⟨h1, h2, h3⟩ | ⟨h1, h4, h2, h3⟩ | ⟨h1, h4, h2, h3⟩
  · rw [h3]
    obtain ⟨k1, k2, k3⟩ := (I.mkd_iff.1 h1).1
    rw [bys_len] at k1 k3
    rw [bys_getD s 0 k1] at k2
    have k4 := (beg (by decide) k1 k2).col
    unfold srvP
    have c1 : (1 : Int) ≤ (I.col (bys s) : Int) := by omega
    have c2 : (I.col (bys s) : Int) ≤ (s.size : Int) := by omega
    have c3 : (0 : Int) ≤ (I.col (bys s) : Int) + 1 := by omega
    have c4 : (I.col (bys s) : Int) + 1 ≤ (s.size : Int) := by omega
    clear k4 k3 k2 k1 h2 h3
    generalize I.col (bys s) = k at *
    go_enter Try.func17, Try.ntmps17
    go_wp2_with (first
      | (go_at_call 31; refine (M.out _ (by decide) _).mono ?_; rintro e w' ⟨rfl, rfl⟩)
      | (go_at_call 33; refine (C.out _).mono ?_; rintro e w' ⟨rfl, rfl⟩))
    go_ret
    exact ⟨rfl, rfl⟩
  · rw [h3]
    obtain ⟨k1, k2, k3⟩ := (I.mkd_iff.1 h4).1
    rw [bys_len] at k1 k3
    rw [bys_getD s 0 k1] at k2
    have k4 := (beg (by decide) k1 k2).col
    unfold srvP
    have c1 : (1 : Int) ≤ (I.col (bys s) : Int) := by omega
    have c2 : (I.col (bys s) : Int) ≤ (s.size : Int) := by omega
    have c3 : (0 : Int) ≤ (I.col (bys s) : Int) + 1 := by omega
    have c4 : (I.col (bys s) : Int) + 1 ≤ (s.size : Int) := by omega
    clear k4 k3 k2 k1 h2 h3
    generalize I.col (bys s) = k at *
    go_enter Try.func17, Try.ntmps17
    go_wp2_with (first
      | (go_at_call 31; refine (M.out _ (by decide) _).mono ?_; rintro e w' ⟨rfl, rfl⟩)
      | (go_at_call 33; refine (C.out _).mono ?_; rintro e w' ⟨rfl, rfl⟩))
    go_ret
    exact ⟨rfl, rfl⟩
  · rw [h3]
    clear h2 h3
    go_enter Try.func17, Try.ntmps17
    go_wp2_with (go_at_call 31; refine (M.out _ (by decide) _).mono ?_; rintro e w' ⟨rfl, rfl⟩)
    go_ret
    exact ⟨rfl, rfl⟩

theorem localOf_any (s : ByteArray) (hs : s.size ≤ 9223372036854775807) (w : World) : Calls Try.prog 18 #[.string s] w fun e w' => e = .returned (.string (locA s)) ∧ Below w.heap.size w w' := by
  have C := Lib.hid (ofAny_any s hs)
  generalize locA s = x at *
  generalize srvA s = y at *
  go_enter Try.func18, Try.ntmps18
  go_wp2_with (go_at_call 32; refine (C.out _).mono ?_; rintro e w1 ⟨rfl, hb1⟩; have HB := Lib.hid hb1; clear hb1)
  go_ret
  exact ⟨rfl, HB.out⟩
theorem rlocalOf_any (s : ByteArray) (hs : s.size ≤ 9223372036854775807) (w : World) : Calls Try.prog 19 #[.string s] w fun e w' => e = .returned (.string (locA s)) ∧ w = w' := by
  have C := Lib.hid (colon_any s hs)
  have M := Lib.hid (fun m hm => marked_any s m hm hs)
  rcases any_cases s with ⟨h1, h2, h3⟩ | ⟨h1, h4, h2, h3⟩ | ⟨h1, h4, h2, h3⟩
  · rw [h2]
    obtain ⟨k1, k2, k3⟩ := (I.mkd_iff.1 h1).1
    rw [bys_len] at k1 k3
    rw [bys_getD s 0 k1] at k2
    have k4 := (beg (by decide) k1 k2).col
    unfold locP
    have c1 : (1 : Int) ≤ (I.col (bys s) : Int) := by omega
    have c2 : (I.col (bys s) : Int) ≤ (s.size : Int) := by omega
    have c3 : (0 : Int) ≤ (I.col (bys s) : Int) + 1 := by omega
    have c4 : (I.col (bys s) : Int) + 1 ≤ (s.size : Int) := by omega
    clear k4 k3 k2 k1 h2 h3
    generalize I.col (bys s) = k at *
    go_enter Try.func19, Try.ntmps19
    go_wp2_with (first
      | (go_at_call 31; refine (M.out _ (by decide) _).mono ?_; rintro e w' ⟨rfl, rfl⟩)
      | (go_at_call 33; refine (C.out _).mono ?_; rintro e w' ⟨rfl, rfl⟩))
    go_ret
    exact ⟨rfl, rfl⟩
  · rw [h2]
    obtain ⟨k1, k2, k3⟩ := (I.mkd_iff.1 h4).1
    rw [bys_len] at k1 k3
    rw [bys_getD s 0 k1] at k2
    have k4 := (beg (by decide) k1 k2).col
    unfold locP
    have c1 : (1 : Int) ≤ (I.col (bys s) : Int) := by omega
    have c2 : (I.col (bys s) : Int) ≤ (s.size : Int) := by omega
    have c3 : (0 : Int) ≤ (I.col (bys s) : Int) + 1 := by omega
    have c4 : (I.col (bys s) : Int) + 1 ≤ (s.size : Int) := by omega
    clear k4 k3 k2 k1 h2 h3
    generalize I.col (bys s) = k at *
    go_enter Try.func19, Try.ntmps19
    go_wp2_with (first
      | (go_at_call 31; refine (M.out _ (by decide) _).mono ?_; rintro e w' ⟨rfl, rfl⟩)
      | (go_at_call 33; refine (C.out _).mono ?_; rintro e w' ⟨rfl, rfl⟩))
    go_ret
    exact ⟨rfl, rfl⟩
  · rw [h2]
    clear h2 h3
    go_enter Try.func19, Try.ntmps19
    go_wp2_with (go_at_call 31; refine (M.out _ (by decide) _).mono ?_; rintro e w' ⟨rfl, rfl⟩)
    go_ret
    exact ⟨rfl, rfl⟩
end Go.Proofs.Ytgiamnbnlececaa
