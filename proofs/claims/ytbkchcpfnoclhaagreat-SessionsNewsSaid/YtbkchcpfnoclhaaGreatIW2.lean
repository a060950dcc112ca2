/- The walks of identifiers' small functions, further: the test of a local part's byte, isPart, isServer, isLocal. -/
import Derived.Test.YtbkchcpfnoclhaaGreatIW1
namespace Go.Proofs.YtbkchcpfnoclhaaGreat
open Go.RowKit
set_option linter.unusedVariables false

theorem loc_cases {c : Int} (h : I.locB c = true) : I.letB c = true ∨ (I.letB c = false ∧ (c == 95) = true) ∨ (I.letB c = false ∧ (c == 95) = false ∧ (c == 46) = true) ∨ (I.letB c = false ∧ (c == 95) = false ∧ (c == 46) = false ∧ (c == 45) = true) ∨ (I.letB c = false ∧ (c == 95) = false ∧ (c == 46) = false ∧ (c == 45) = false ∧ (c == 61) = true) := by
  unfold I.locB at h
  cases hl : I.letB c
  · rw [hl] at h
    simp only [Bool.false_or, decide_eq_true_iff] at h
    simp only [beq_iff_eq, beq_eq_false_iff_ne]
    simp
    omega
  · exact .inl rfl
theorem loc_false {c : Int} (h : I.locB c = false) : I.letB c = false ∧ (c == 95) = false ∧ (c == 46) = false ∧ (c == 45) = false ∧ (c == 61) = false := by
  unfold I.locB at h
  rw [Bool.or_eq_false_iff, decide_eq_false_iff_not] at h
  simp only [beq_eq_false_iff_ne]
  refine ⟨h.1, ?_⟩
  have := h.2
  omega
theorem bne_of_beq {c d : Int} {b : Bool} (h : (c == d) = b) : (c != d) = !b := by rw [bne, h]

theorem loc_any (c : Int) (w : World) : Calls Tryz.prog 54 #[.int .u8 c] w fun e w' => e = .returned (.bool (I.locB c)) ∧ w = w' := by
  cases h : I.locB c
  · obtain ⟨h1, h2, h3, h4, h5⟩ := loc_false h
    have H := Lib.hid h
    clear h
    go_enter Tryz.func54, Tryz.ntmps54
    go_wp2_with (go_at_call 55; refine (letter_any _ _).mono ?_; rintro e w' ⟨rfl, rfl⟩)
    go_ret
    exact ⟨rfl, rfl⟩
  · have H := Lib.hid h
    rcases loc_cases h with h1 | ⟨h1, h2⟩ | ⟨h1, h2, h3⟩ | ⟨h1, h2, h3, h4⟩ | ⟨h1, h2, h3, h4, h5⟩
    all_goals
      clear h
      go_enter Tryz.func54, Tryz.ntmps54
      go_wp2_with (go_at_call 55; refine (letter_any _ _).mono ?_; rintro e w' ⟨rfl, rfl⟩)
      go_ret
      exact ⟨rfl, rfl⟩
theorem part_bad {p : Int → Bool} {s : ByteArray} {k : Nat} (h : k < s.size) (hc : p (s[k].toNat : Int) = false) : (bys s).all p = false := by
  rw [List.all_eq_false]
  refine ⟨(s[k].toNat : Int), ?_, by rw [hc]; simp⟩
  rw [← bys_getE s k h]; exact List.getElem_mem _
theorem part_eq {p : Int → Bool} {s : ByteArray} {b : Bool} (h0 : 1 ≤ s.size) (h1 : s.size ≤ 32) (h : (bys s).all p = b) : I.isPart p (bys s) = b := by
  unfold I.isPart
  rw [h, bys_len, decide_eq_true (by omega : 1 ≤ s.size ∧ s.size ≤ 32), Bool.true_and]
theorem part_no {p : Int → Bool} {s : ByteArray} (h : ¬ (1 ≤ s.size ∧ s.size ≤ 32)) : I.isPart p (bys s) = false := by
  unfold I.isPart
  rw [bys_len, decide_eq_false h, Bool.false_and]

set_option maxHeartbeats 400000 in
theorem partSrv_any (s : ByteArray) (hs : s.size ≤ 9223372036854775807) (w : World) :
    Calls Tryz.prog 53 #[.string s, .func (.func 56) #[] #[]] w fun e w' => e = .returned (.bool (I.isPart I.srvB (bys s))) ∧ w = w' := by
  by_cases h0 : s.size < 1
  · have HF := Lib.hid (part_no (p := I.srvB) (s := s) (by omega))
    go_enter Tryz.func53, Tryz.ntmps53
    go_wp2
    go_ret
    exact ⟨ret_bool HF.out.symm, rfl⟩
  · by_cases h1 : 32 < s.size
    · have HF := Lib.hid (part_no (p := I.srvB) (s := s) (by omega))
      have h0 : 1 ≤ s.size := by omega
      go_enter Tryz.func53, Tryz.ntmps53
      go_wp2
      go_ret
      exact ⟨ret_bool HF.out.symm, rfl⟩
    · have h0 : 1 ≤ s.size := by omega
      have h1 : s.size ≤ 32 := by omega
      go_enter Tryz.func53, Tryz.ntmps53
      go_wp2
      go_loop [5, 16] (fun _ i => ∃ k : Nat, k ≤ s.size ∧ i = .int .i64 k ∧ Hid (((bys s).take k).all I.srvB = true)) (fun _ i => s.size - (intOf i).toNat)
      case atStart => exact ⟨0, Nat.zero_le _, rfl, Lib.hid (by rw [List.take_zero]; rfl)⟩
      case round =>
        obtain ⟨k, hk, rfl, HO⟩ := hrel
        by_cases hlt : k < s.size
        · have hsn := Lib.hid (bys_snoc s k hlt)
          cases hc : I.srvB (s[k].toNat : Int)
          · have HB := Lib.hid (part_eq h0 h1 (part_bad hlt hc))
            go_wp2_with (go_at_call 56; refine (srv_any _ _).mono ?_; rintro e w' ⟨rfl, rfl⟩)
            go_ret
            exact ⟨ret_bool HB.out.symm, rfl⟩
          · have HC := Lib.hid hc
            go_wp2_with (go_at_call 56; refine (srv_any _ _).mono ?_; rintro e w' ⟨rfl, rfl⟩)
            go_round
            case rel => exact ⟨k + 1, by omega, by go_num, Lib.hid (by rw [hsn.out, I.isPart_snoc, HO.out, HC.out]; rfl)⟩
            case measure => simp [intOf]; omega
        · have HF := Lib.hid (part_eq h0 h1 (show (bys s).all I.srvB = true by rw [← bys_all, ← HO.out]; congr 2; omega))
          go_wp2
          go_ret
          exact ⟨ret_bool HF.out.symm, rfl⟩

set_option maxHeartbeats 400000 in
theorem partLoc_any (s : ByteArray) (hs : s.size ≤ 9223372036854775807) (w : World) :
    Calls Tryz.prog 53 #[.string s, .func (.func 54) #[] #[]] w fun e w' => e = .returned (.bool (I.isPart I.locB (bys s))) ∧ w = w' := by
  by_cases h0 : s.size < 1
  · have HF := Lib.hid (part_no (p := I.locB) (s := s) (by omega))
    go_enter Tryz.func53, Tryz.ntmps53
    go_wp2
    go_ret
    exact ⟨ret_bool HF.out.symm, rfl⟩
  · by_cases h1 : 32 < s.size
    · have HF := Lib.hid (part_no (p := I.locB) (s := s) (by omega))
      have h0 : 1 ≤ s.size := by omega
      go_enter Tryz.func53, Tryz.ntmps53
      go_wp2
      go_ret
      exact ⟨ret_bool HF.out.symm, rfl⟩
    · have h0 : 1 ≤ s.size := by omega
      have h1 : s.size ≤ 32 := by omega
      go_enter Tryz.func53, Tryz.ntmps53
      go_wp2
      go_loop [5, 16] (fun _ i => ∃ k : Nat, k ≤ s.size ∧ i = .int .i64 k ∧ Hid (((bys s).take k).all I.locB = true)) (fun _ i => s.size - (intOf i).toNat)
      case atStart => exact ⟨0, Nat.zero_le _, rfl, Lib.hid (by rw [List.take_zero]; rfl)⟩
      case round =>
        obtain ⟨k, hk, rfl, HO⟩ := hrel
        by_cases hlt : k < s.size
        · have hsn := Lib.hid (bys_snoc s k hlt)
          cases hc : I.locB (s[k].toNat : Int)
          · have HB := Lib.hid (part_eq h0 h1 (part_bad hlt hc))
            go_wp2_with (go_at_call 54; refine (loc_any _ _).mono ?_; rintro e w' ⟨rfl, rfl⟩)
            go_ret
            exact ⟨ret_bool HB.out.symm, rfl⟩
          · have HC := Lib.hid hc
            go_wp2_with (go_at_call 54; refine (loc_any _ _).mono ?_; rintro e w' ⟨rfl, rfl⟩)
            go_round
            case rel => exact ⟨k + 1, by omega, by go_num, Lib.hid (by rw [hsn.out, I.isPart_snoc, HO.out, HC.out]; rfl)⟩
            case measure => simp [intOf]; omega
        · have HF := Lib.hid (part_eq h0 h1 (show (bys s).all I.locB = true by rw [← bys_all, ← HO.out]; congr 2; omega))
          go_wp2
          go_ret
          exact ⟨ret_bool HF.out.symm, rfl⟩

theorem isLocal_any (s : ByteArray) (hs : s.size ≤ 9223372036854775807) (w : World) :
    Calls Tryz.prog 40 #[.string s] w fun e w' => e = .returned (.bool (I.isLoc (bys s))) ∧ w = w' := by
  have HF := Lib.hid (show I.isPart I.locB (bys s) = I.isLoc (bys s) from rfl)
  go_enter Tryz.func40, Tryz.ntmps40
  go_wp2_with (go_at_call 53; refine (partLoc_any _ hs _).mono ?_; rintro e w' ⟨rfl, rfl⟩)
  go_ret
  exact ⟨ret_bool HF.out, rfl⟩
theorem isServer_any (s : ByteArray) (hs : s.size ≤ 9223372036854775807) (w : World) :
    Calls Tryz.prog 41 #[.string s] w fun e w' => e = .returned (.bool (I.isSrv (bys s))) ∧ w = w' := by
  cases hp : I.isPart I.srvB (bys s)
  · have HF := Lib.hid (show I.isSrv (bys s) = false by unfold I.isSrv; rw [hp]; rfl)
    go_enter Tryz.func41, Tryz.ntmps41
    go_wp2_with (go_at_call 53; refine (partSrv_any _ hs _).mono ?_; rintro e w' ⟨rfl, rfl⟩)
    go_ret
    exact ⟨ret_bool HF.out.symm, rfl⟩
  · have hl := I.isPart_len hp
    rw [bys_len] at hl
    obtain ⟨h0, h1⟩ := hl
    have c0 : (0 : Int) ≤ (s.size : Int) - 1 := by omega
    have c1 : (s.size : Int) - 1 < (s.size : Int) := by omega
    have c2 : ((s.size : Int) - 1).toNat = s.size - 1 := by omega
    have c3 : s.size - 1 < s.size := by omega
    have c4 : 0 < s.size := by omega
    have HF := Lib.hid (show I.isSrv (bys s) = (I.letB (s[0].toNat : Int) && I.letB (s[s.size - 1].toNat : Int)) by
      unfold I.isSrv; rw [hp, bys_len, bys_getD s 0 c4, bys_getD s _ c3]; rfl)
    cases ha : I.letB (s[0].toNat : Int)
    · have HA := Lib.hid ha
      go_enter Tryz.func41, Tryz.ntmps41
      go_wp2_with (first | (go_at_call 53; refine (partSrv_any _ hs _).mono ?_; rintro e w' ⟨rfl, rfl⟩) | (go_at_call 55; refine (letter_any _ _).mono ?_; rintro e w' ⟨rfl, rfl⟩))
      go_ret
      exact ⟨ret_bool (by rw [HF.out, HA.out]; rfl), rfl⟩
    · have HA := Lib.hid ha
      go_enter Tryz.func41, Tryz.ntmps41
      go_wp2_with (first | (go_at_call 53; refine (partSrv_any _ hs _).mono ?_; rintro e w' ⟨rfl, rfl⟩) | (go_at_call 55; refine (letter_any _ _).mono ?_; rintro e w' ⟨rfl, rfl⟩))
      go_ret
      exact ⟨ret_bool (by rw [HF.out, HA.out]; rfl), rfl⟩
end Go.Proofs.YtbkchcpfnoclhaaGreat
