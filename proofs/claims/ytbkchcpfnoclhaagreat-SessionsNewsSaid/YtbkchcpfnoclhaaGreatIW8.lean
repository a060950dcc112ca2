/- The walks of marked, User, Room, ServerOf, LocalOf of both, for every text. -/
import Derived.Test.YtbkchcpfnoclhaaGreatIW5
namespace Go.Proofs.YtbkchcpfnoclhaaGreat
open Go.RowKit
set_option linter.unusedVariables false

theorem mkd_eq (s : ByteArray) (m : Int) (h0 : 0 < s.size) (h : (s[0].toNat : Int) = m) : I.mkd m (bys s) = (decide (I.col (bys s) < s.size) && (I.isLoc (bys (locP s)) && I.isSrv (bys (srvP s)))) := by
  unfold I.mkd locP srvP
  rw [bys_extract, bys_from, bys_getD s 0 h0, bys_len]
  congr 1
  apply decide_eq_decide.2
  constructor
  · exact fun h => h.2.2
  · exact fun h' => ⟨h0, h, h'⟩
theorem loc_size (s : ByteArray) {m : Nat} (h : s.size ≤ m) : (locP s).size ≤ m := size_extract_le _ _ _ h
theorem srv_size (s : ByteArray) {m : Nat} (h : s.size ≤ m) : (srvP s).size ≤ m := size_extract_le _ _ _ h
set_option maxHeartbeats 800000 in
theorem marked_any (s : ByteArray) (m : Int) (hm : m ≠ 58) (hs : s.size ≤ 9223372036854775807) (w : World) :
    Calls Tryz.prog 29 #[.string s, .int .u8 m] w fun e w' => e = .returned (.bool (I.mkd m (bys s))) ∧ w = w' := by
  by_cases h0 : s.size < 1
  · have HF := Lib.hid (show I.mkd m (bys s) = false from mkd_other (.inl (List.eq_nil_of_length_eq_zero (by rw [bys_len]; omega))))
    go_enter Tryz.func29, Tryz.ntmps29
    go_wp2
    go_ret
    exact ⟨ret_bool HF.out.symm, rfl⟩
  · have hp : 0 < s.size := by omega
    have q1 : (1 : Int) ≤ (s.size : Int) := by omega
    have q2 : 1 ≤ s.size := by omega
    have C := Lib.hid (colon_any s hs)
    by_cases h1 : (s[0].toNat : Int) = m
    · have e1 : ((s[0].toNat : Int) != m) = false := by rw [bne_eq_false_iff_eq]; exact h1
      have HF := Lib.hid (mkd_eq s m hp h1)
      have hc1 := (beg hm hp h1).col
      have HLp := Lib.hid (show s.extract 1 (I.col (bys s)) = locP s from rfl)
      have HSp := Lib.hid (show s.extract (I.col (bys s) + 1) s.size = srvP s from rfl)
      have CL := Lib.hid (rlocal_any (locP s) (loc_size s hs))
      have CS := Lib.hid (rserver_any (srvP s) (srv_size s hs))
      have k1 : 1 ≤ I.col (bys s) := by omega
      have HP := Lib.hid hp
      generalize I.col (bys s) = k at *
      clear h0 h1 hc1
      by_cases hk : k < s.size
      · have k2 : (k : Int) ≤ (s.size : Int) := by omega
        have k3 : (1 : Int) ≤ (k : Int) := by omega
        have k4 : (0 : Int) ≤ (k : Int) + 1 := by omega
        have k5 : (k : Int) + 1 ≤ (s.size : Int) := by omega
        have HF2 := Lib.hid (show I.mkd m (bys s) = (I.isLoc (bys (locP s)) && I.isSrv (bys (srvP s))) by rw [HF.out, decide_eq_true hk, Bool.true_and])
        clear HF
        generalize locP s = x at *
        generalize srvP s = y at *
        cases hx : I.isLoc (bys x)
        · have HX := Lib.hid (show I.mkd m (bys s) = false by rw [HF2.out, hx, Bool.false_and])
          go_enter Tryz.func29, Tryz.ntmps29
          go_wp2_with (first
            | (go_at_call 42; refine (C.out _).mono ?_; rintro e w' ⟨rfl, rfl⟩)
            | (go_at_call 43; rw [HLp.out]; refine (CL.out _).mono ?_; rintro e w' ⟨rfl, rfl⟩))
          go_ret
          exact ⟨ret_bool HX.out.symm, rfl⟩
        · cases hy : I.isSrv (bys y)
          · have HX := Lib.hid (show I.mkd m (bys s) = false by rw [HF2.out, hx, hy, Bool.true_and])
            go_enter Tryz.func29, Tryz.ntmps29
            go_wp2_with (first
              | (go_at_call 42; refine (C.out _).mono ?_; rintro e w' ⟨rfl, rfl⟩)
              | (go_at_call 43; rw [HLp.out]; refine (CL.out _).mono ?_; rintro e w' ⟨rfl, rfl⟩)
              | (go_at_call 44; rw [HSp.out]; refine (CS.out _).mono ?_; rintro e w' ⟨rfl, rfl⟩; rw [hy, err_f]))
            go_ret
            exact ⟨ret_bool HX.out.symm, rfl⟩
          · have HX := Lib.hid (show I.mkd m (bys s) = true by rw [HF2.out, hx, hy, Bool.true_and])
            go_enter Tryz.func29, Tryz.ntmps29
            go_wp2_with (first
              | (go_at_call 42; refine (C.out _).mono ?_; rintro e w' ⟨rfl, rfl⟩)
              | (go_at_call 43; rw [HLp.out]; refine (CL.out _).mono ?_; rintro e w' ⟨rfl, rfl⟩)
              | (go_at_call 44; rw [HSp.out]; refine (CS.out _).mono ?_; rintro e w' ⟨rfl, rfl⟩; rw [hy, err_t]))
            go_ret
            exact ⟨ret_bool HX.out.symm, rfl⟩
      · have HX := Lib.hid (show I.mkd m (bys s) = false by rw [HF.out, decide_eq_false hk, Bool.false_and])
        clear HF
        go_enter Tryz.func29, Tryz.ntmps29
        go_wp2_with (go_at_call 42; refine (C.out _).mono ?_; rintro e w' ⟨rfl, rfl⟩)
        go_ret
        exact ⟨ret_bool HX.out.symm, rfl⟩
    · have e1 : ((s[0].toNat : Int) != m) = true := by rw [bne_iff_ne]; exact h1
      have HF := Lib.hid (show I.mkd m (bys s) = false from mkd_other (.inr (by rw [bys_getD s 0 hp]; exact h1)))
      clear h1 h0
      go_enter Tryz.func29, Tryz.ntmps29
      go_wp2
      go_ret
      exact ⟨ret_bool HF.out.symm, rfl⟩

theorem verdict_any (b : Bool) (w : World) : Calls Tryz.prog 28 #[.bool b] w fun e w' => e = .returned (.int .i64 (err b)) ∧ w = w' := by
  cases b
  all_goals
    go_enter Tryz.func28, Tryz.ntmps28
    go_wp2
    go_ret
    exact ⟨rfl, rfl⟩
theorem user_any (s : ByteArray) (hs : s.size ≤ 9223372036854775807) (w : World) : Calls Tryz.prog 13 #[.string s] w fun e w' => e = .returned (.int .i64 (err (I.mkd 64 (bys s)))) ∧ Below w.heap.size w w' := by
  cases h : I.mkd 64 (bys s)
  · have C := Lib.hid (parts_no s 64 (by decide) hs h)
    clear h
    go_enter Tryz.func13, Tryz.ntmps13
    go_wp2_with (first
      | (go_at_call 27; refine (C.out _).mono ?_; rintro e w1 ⟨rfl, hb1⟩; have HB := Lib.hid hb1; clear hb1)
      | (go_at_call 28; refine (verdict_any _ _).mono ?_; rintro e w' ⟨rfl, rfl⟩))
    go_ret
    exact ⟨rfl, HB.out⟩
  · have C := Lib.hid (parts_yes s 64 (by decide) hs h)
    clear h
    generalize locP s = x at *
    generalize srvP s = y at *
    go_enter Tryz.func13, Tryz.ntmps13
    go_wp2_with (first
      | (go_at_call 27; refine (C.out _).mono ?_; rintro e w1 ⟨rfl, hb1⟩; have HB := Lib.hid hb1; clear hb1)
      | (go_at_call 28; refine (verdict_any _ _).mono ?_; rintro e w' ⟨rfl, rfl⟩))
    go_ret
    exact ⟨rfl, HB.out⟩
theorem ruser_any (s : ByteArray) (hs : s.size ≤ 9223372036854775807) (w : World) : Calls Tryz.prog 19 #[.string s] w fun e w' => e = .returned (.int .i64 (err (I.mkd 64 (bys s)))) ∧ w = w' := by
  cases h : I.mkd 64 (bys s)
  all_goals
    have H := Lib.hid h
    go_enter Tryz.func19, Tryz.ntmps19
    go_wp2_with (go_at_call 29; refine (marked_any _ _ (by decide) hs _).mono ?_; rintro e w' ⟨rfl, rfl⟩)
    go_ret
    exact ⟨rfl, rfl⟩

end Go.Proofs.YtbkchcpfnoclhaaGreat
