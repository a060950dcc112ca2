/- The walks of the reference's identifiers: Local, Server, colon, marked, for every text. -/
import Derived.Test.YtbkchcpfnoclhaaGreatIW4
namespace Go.Proofs.YtbkchcpfnoclhaaGreat
open Go.RowKit
set_option linter.unusedVariables false

/-- The error of a test. -/
def err (b : Bool) : Int := if b then 0 else 3
theorem err_t : err true = 0 := rfl
theorem err_f : err false = 3 := rfl
theorem srv_cases {c : Int} (h : I.srvB c = true) : I.letB c = true ∨ (I.letB c = false ∧ (c == 46) = true) ∨ (I.letB c = false ∧ (c == 46) = false ∧ (c == 45) = true) := by
  unfold I.srvB at h
  cases hl : I.letB c
  · rw [hl] at h
    simp only [Bool.false_or, decide_eq_true_iff] at h
    simp only [beq_iff_eq, beq_eq_false_iff_ne]
    simp
    omega
  · exact .inl rfl
theorem srv_false {c : Int} (h : I.srvB c = false) : I.letB c = false ∧ (c == 46) = false ∧ (c == 45) = false := by
  unfold I.srvB at h
  rw [Bool.or_eq_false_iff, decide_eq_false_iff_not] at h
  simp only [beq_eq_false_iff_ne]
  refine ⟨h.1, ?_⟩
  have := h.2
  omega

set_option maxHeartbeats 400000 in
theorem colon_any (s : ByteArray) (hs : s.size ≤ 9223372036854775807) (w : World) : Calls Tryz.prog 42 #[.string s] w fun e w' => e = .returned (.int .i64 (I.col (bys s))) ∧ w = w' := by
  go_enter Tryz.func42, Tryz.ntmps42
  go_wp2
  go_loop [3] (fun i => ∃ k : Nat, k ≤ s.size ∧ i = .int .i64 k ∧ Hid (∀ j, j < k → (bys s).getD j 0 ≠ 58)) (fun i => s.size - (intOf i).toNat)
  case atStart => exact ⟨0, Nat.zero_le _, rfl, Lib.hid (fun j hj => by omega)⟩
  case round =>
    obtain ⟨k, hk, rfl, HO⟩ := hrel
    by_cases hlt : k < s.size
    · have HG := Lib.hid (bys_getD s k hlt)
      cases hc : (s[k].toNat : Int) != 58
      · have HF := Lib.hid (I.col_some (by rw [bys_len]; exact hlt) HO.out (by rw [HG.out]; rw [bne_eq_false_iff_eq] at hc; exact hc))
        go_wp2
        go_ret
        exact ⟨ret_i64 (by rw [HF.out]), rfl⟩
      · have HC := Lib.hid hc
        go_wp2
        go_round
        case rel => exact ⟨k + 1, by omega, by go_num, Lib.hid (fun j hj => by
            rcases Nat.lt_or_ge j k with h | h
            · exact HO.out j h
            · rw [show j = k by omega, HG.out]; exact bne_iff_ne.1 HC.out)⟩
        case measure => simp [intOf]; omega
    · have HF := Lib.hid (I.col_none (l := bys s) (fun j hj => HO.out j (by rw [bys_len] at hj; omega)))
      have HK := Lib.hid (show k = s.size by omega)
      go_wp2
      go_ret
      exact ⟨ret_i64 (by rw [HF.out, bys_len, HK.out]), rfl⟩


set_option maxHeartbeats 800000 in
theorem rlocal_any (s : ByteArray) (hs : s.size ≤ 9223372036854775807) (w : World) : Calls Tryz.prog 43 #[.string s] w fun e w' => e = .returned (.bool (I.isLoc (bys s))) ∧ w = w' := by
  go_enter Tryz.func43, Tryz.ntmps43
  go_wp2
  go_loop [3] (fun i => ∃ k : Nat, k ≤ s.size ∧ i = .int .i64 k ∧ Hid (((bys s).take k).all I.locB = true)) (fun i => s.size - (intOf i).toNat)
  case atStart => exact ⟨0, Nat.zero_le _, rfl, Lib.hid (by rw [List.take_zero]; rfl)⟩
  case round =>
    obtain ⟨k, hk, rfl, HO⟩ := hrel
    by_cases hlt : k < s.size
    · have hsn := Lib.hid (bys_snoc s k hlt)
      cases hc : I.locB (s[k].toNat : Int)
      · have HB := Lib.hid (show I.isLoc (bys s) = false by unfold I.isLoc I.isPart; rw [part_bad hlt hc, Bool.and_false])
        obtain ⟨g0, g1, g2, g3, g4⟩ := loc_false hc
        have g1 := bne_of_beq g1
        have g2 := bne_of_beq g2
        have g3 := bne_of_beq g3
        have g4 := bne_of_beq g4
        clear hc
        go_wp2_with (go_at_call 57; refine (rletter_any _ _).mono ?_; rintro e w' ⟨rfl, rfl⟩)
        go_ret
        exact ⟨ret_bool HB.out.symm, rfl⟩
      · have HC := Lib.hid hc
        rcases loc_cases hc with g0 | ⟨g0, g1⟩ | ⟨g0, g1, g2⟩ | ⟨g0, g1, g2, g3⟩ | ⟨g0, g1, g2, g3, g4⟩
        all_goals
          clear hc
          (try have g1 := bne_of_beq g1)
          (try have g2 := bne_of_beq g2)
          (try have g3 := bne_of_beq g3)
          (try have g4 := bne_of_beq g4)
          go_wp2_with (go_at_call 57; refine (rletter_any _ _).mono ?_; rintro e w' ⟨rfl, rfl⟩)
          go_round
          case rel => exact ⟨k + 1, by omega, by go_num, Lib.hid (by rw [hsn.out, I.isPart_snoc, HO.out, HC.out]; rfl)⟩
          case measure => simp [intOf]; omega
    · have HF := Lib.hid (show (bys s).all I.locB = true by rw [← bys_all, ← HO.out]; congr 2; omega)
      clear hk
      rcases (show s.size < 1 ∨ (1 ≤ s.size ∧ 32 < s.size) ∨ (1 ≤ s.size ∧ s.size ≤ 32) by omega) with q | ⟨q, q2⟩ | ⟨q, q2⟩
      · have HX := Lib.hid (show I.isLoc (bys s) = false from part_no (by omega))
        go_wp2
        go_ret
        exact ⟨ret_bool (by rw [HX.out]; try (simp; omega)), rfl⟩
      · have HX := Lib.hid (show I.isLoc (bys s) = false from part_no (by omega))
        go_wp2
        go_ret
        exact ⟨ret_bool (by rw [HX.out]; try (simp; omega)), rfl⟩
      · have HX := Lib.hid (show I.isLoc (bys s) = true from part_eq q q2 HF.out)
        go_wp2
        go_ret
        exact ⟨ret_bool (by rw [HX.out]; try (simp; omega)), rfl⟩
set_option maxHeartbeats 800000 in
theorem rserver_any (s : ByteArray) (hs : s.size ≤ 9223372036854775807) (w : World) : Calls Tryz.prog 44 #[.string s] w fun e w' => e = .returned (.int .i64 (err (I.isSrv (bys s)))) ∧ w = w' := by
  by_cases h0 : s.size < 1
  · have HX := Lib.hid (show I.isSrv (bys s) = false by unfold I.isSrv; rw [part_no (by omega)]; rfl)
    go_enter Tryz.func44, Tryz.ntmps44
    go_wp2
    go_ret
    exact ⟨ret_i64 (by rw [HX.out]; rfl), rfl⟩
  · have h0 : 1 ≤ s.size := by omega
    by_cases h1 : 32 < s.size
    · have HX := Lib.hid (show I.isSrv (bys s) = false by unfold I.isSrv; rw [part_no (by omega)]; rfl)
      go_enter Tryz.func44, Tryz.ntmps44
      go_wp2
      go_ret
      exact ⟨ret_i64 (by rw [HX.out]; rfl), rfl⟩
    · have h1 : s.size ≤ 32 := by omega
      have c0 : (0 : Int) ≤ (s.size : Int) - 1 := by omega
      have c1 : (s.size : Int) - 1 < (s.size : Int) := by omega
      have c2 : ((s.size : Int) - 1).toNat = s.size - 1 := by omega
      have c3 : s.size - 1 < s.size := by omega
      have c4 : 0 < s.size := by omega
      have HF := Lib.hid (show I.isSrv (bys s) = (I.isPart I.srvB (bys s) && (I.letB (s[0].toNat : Int) && I.letB (s[s.size - 1].toNat : Int))) by
        unfold I.isSrv; rw [bys_len, bys_getD s 0 c4, bys_getD s _ c3])
      cases ha : I.letB (s[0].toNat : Int)
      · have HX := Lib.hid (show I.isSrv (bys s) = false by rw [HF.out, ha, Bool.false_and, Bool.and_false])
        go_enter Tryz.func44, Tryz.ntmps44
        go_wp2_with (go_at_call 57; refine (rletter_any _ _).mono ?_; rintro e w' ⟨rfl, rfl⟩)
        go_ret
        exact ⟨ret_i64 (by rw [HX.out]; rfl), rfl⟩
      · cases hb : I.letB (s[s.size - 1].toNat : Int)
        · have HX := Lib.hid (show I.isSrv (bys s) = false by rw [HF.out, hb, Bool.and_false, Bool.and_false])
          go_enter Tryz.func44, Tryz.ntmps44
          go_wp2_with (go_at_call 57; refine (rletter_any _ _).mono ?_; rintro e w' ⟨rfl, rfl⟩)
          go_ret
          exact ⟨ret_i64 (by rw [HX.out]; rfl), rfl⟩
        · have HX := Lib.hid (show I.isSrv (bys s) = I.isPart I.srvB (bys s) by rw [HF.out, ha, hb, Bool.and_true, Bool.and_true])
          clear HF
          go_enter Tryz.func44, Tryz.ntmps44
          go_wp2_with (go_at_call 57; refine (rletter_any _ _).mono ?_; rintro e w' ⟨rfl, rfl⟩)
          clear ha hb
          go_loop [3] (fun i => ∃ k : Nat, k ≤ s.size ∧ i = .int .i64 k ∧ Hid (((bys s).take k).all I.srvB = true)) (fun i => s.size - (intOf i).toNat)
          case atStart => exact ⟨0, Nat.zero_le _, rfl, Lib.hid (by rw [List.take_zero]; rfl)⟩
          case round =>
            obtain ⟨k, hk, rfl, HO⟩ := hrel
            by_cases hlt : k < s.size
            · have hsn := Lib.hid (bys_snoc s k hlt)
              cases hc : I.srvB (s[k].toNat : Int)
              · have HB := Lib.hid (HX.out.trans (part_eq h0 h1 (part_bad hlt hc)))
                obtain ⟨g0, g1, g2⟩ := srv_false hc
                have g1 := bne_of_beq g1
                have g2 := bne_of_beq g2
                clear hc
                go_wp2_with (go_at_call 57; refine (rletter_any _ _).mono ?_; rintro e w' ⟨rfl, rfl⟩)
                go_ret
                exact ⟨ret_i64 (by rw [HB.out]; rfl), rfl⟩
              · have HC := Lib.hid hc
                rcases srv_cases hc with g0 | ⟨g0, g1⟩ | ⟨g0, g1, g2⟩
                all_goals
                  clear hc
                  (try have g1 := bne_of_beq g1)
                  (try have g2 := bne_of_beq g2)
                  go_wp2_with (go_at_call 57; refine (rletter_any _ _).mono ?_; rintro e w' ⟨rfl, rfl⟩)
                  go_round
                  case rel => exact ⟨k + 1, by omega, by go_num, Lib.hid (by rw [hsn.out, I.isPart_snoc, HO.out, HC.out]; rfl)⟩
                  case measure => simp [intOf]; omega
            · have HF := Lib.hid (HX.out.trans (part_eq h0 h1 (show (bys s).all I.srvB = true by rw [← bys_all, ← HO.out]; congr 2; omega)))
              go_wp2
              go_ret
              exact ⟨ret_i64 (by rw [HF.out]; rfl), rfl⟩
end Go.Proofs.YtbkchcpfnoclhaaGreat
