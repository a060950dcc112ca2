/- The walk of the reference's Parse. Bounds: a text has at most 2 to the 63rd minus 1 bytes. -/
import Derived.Test.YtemnidjggamciaaDoorW5
import Derived.Lib.Strings
namespace Go.Proofs.YtemnidjggamciaaDoor
open Go.RowKit
set_option linter.unusedVariables false

theorem txt_bd (n : Int) : ∀ c ∈ M.txt n, 0 ≤ c ∧ c ≤ 255 := by
  intro c hc
  unfold M.txt at hc
  split at hc
  · rcases List.mem_cons.1 hc with rfl | hc
    · omega
    · have := M.dgs_all _ c hc; omega
  · have := M.dgs_all _ c hc; omega
theorem str_beq (l : List Int) (s : ByteArray) (h : ∀ c ∈ l, 0 ≤ c ∧ c ≤ 255) : ((strOfNums l).toList == s.toList) = decide (l = bys s) := by
  rw [Lib.toList_data, Lib.toList_data]
  by_cases e : l = bys s
  · rw [decide_eq_true e, e, strOf_bys]; simp
  · rw [decide_eq_false e, beq_eq_false_iff_ne]
    intro h2
    apply e
    have : strOfNums l = s := ByteArray.ext (Array.ext' h2)
    rw [← this, bys_strOf l h]
theorem prs_long {l : List Int} (h : (M.body l).length = 0 ∨ 13 < (M.body l).length) : PrP l 0 false := prs_bad (by
  unfold M.dv; rw [if_pos (by rcases h with h | h; exact .inl h; exact .inr (.inl h))])
theorem prs_digit {l : List Int} (h : (M.body l).all M.isD = false) : PrP l 0 false := prs_bad (by
  unfold M.dv; rw [if_pos (.inr (.inr (.inr h)))])
theorem prs_val {l : List Int} {v : Int} (h : M.prs l = some v) : v = if l.getD 0 0 = 45 then -M.val (M.body l) else M.val (M.body l) := by
  unfold M.prs at h
  cases hd : M.dv (M.body l) with
  | none => rw [hd] at h; cases h
  | some x =>
    rw [hd] at h
    obtain ⟨_, _, _, _, rfl⟩ := M.dv_some hd
    dsimp only at h
    split at h
    · rename_i hs
      rw [if_pos hs]
      split at h
      · cases h
      · injection h with h; exact h.symm
    · rename_i hs
      rw [if_neg hs]
      split at h
      · cases h
      · injection h with h; exact h.symm
/-- What is left when the digits have been read. -/
theorem prs_last {l : List Int} {n : Int} (hn : n = if l.getD 0 0 = 45 then -M.val (M.body l) else M.val (M.body l)) :
    (-1000000000000 ≤ n ∧ n ≤ 1000000000000 ∧ M.txt n = l → PrP l n true) ∧ (¬ (-1000000000000 ≤ n ∧ n ≤ 1000000000000 ∧ M.txt n = l) → PrP l 0 false) := by
  constructor
  · rintro ⟨h1, h2, h3⟩
    exact .inl ⟨rfl, by rw [← h3, M.prs_txt h1 h2]⟩
  · intro h
    refine .inr ⟨rfl, rfl, ?_⟩
    cases hp : M.prs l with
    | none => rfl
    | some v =>
      have hv := prs_val hp
      rw [← hn] at hv
      subst hv
      obtain ⟨h1, h2, h3⟩ := M.txt_prs hp
      exact absurd ⟨h2, h3, h1⟩ h
def RParseP (s : ByteArray) (w : World) (e : Ending) (w' : World) : Prop := ∃ v b, e = .returned (.tuple #[.int .i64 v, .bool b]) ∧ PrP (bys s) v b ∧ Below w.heap.size w w'
set_option maxHeartbeats 3200000 in
theorem rparse_neg (s : ByteArray) (hs : s.size ≤ 9223372036854775807) (hn : (bys s).getD 0 0 = 45) (w : World) : Calls Tryd.prog 19 #[.string s] w (RParseP s w) := by
    have hp : 0 < s.size := by
      rcases Nat.eq_zero_or_pos s.size with h | h
      · exact absurd hn (bys_nil h)
      · exact h
    have g0 : decide ((0 : Int) < (s.size : Int)) = true := decide_eq_true (by omega)
    have g1 : ((s[0].toNat : Int) == 45) = true := by rw [beq_iff_eq, ← bys_getD s 0 hp]; exact hn
    have HBO := Lib.hid (show M.body (bys s) = (bys s).drop 1 by unfold M.body; rw [if_pos hn])
    have HBL := Lib.hid (show (M.body (bys s)).length = s.size - 1 by rw [HBO.out, List.length_drop, bys_len])
    have HN := Lib.hid hn
    clear hn
    by_cases c0 : s.size = 1
    · have HP := Lib.hid (prs_long (l := bys s) (.inl (by rw [HBL.out]; omega)))
      have hz : (s.size : Int) = 1 := by omega
      clear c0
      go_enter Tryd.func19, Tryd.ntmps19
      go_wp2
      go_ret2
      exact ⟨0, false, rfl, HP.out, Below.refl _ _⟩
    · have g3 : ((s.size : Int) == 1) = false := by rw [beq_eq_false_iff_ne]; omega
      by_cases c1 : 14 < s.size
      · have HP := Lib.hid (prs_long (l := bys s) (.inr (by rw [HBL.out]; omega)))
        have g4 : decide ((14 : Int) < (s.size : Int)) = true := decide_eq_true (by omega)
        go_enter Tryd.func19, Tryd.ntmps19
        go_wp2
        go_ret2
        exact ⟨0, false, rfl, HP.out, Below.refl _ _⟩
      · have g4 : decide ((14 : Int) < (s.size : Int)) = false := decide_eq_false (by omega)
        go_enter Tryd.func19, Tryd.ntmps19
        go_wp2
        go_loop [5, 6] (fun s5 s6 => ∃ (j : Nat) (x : Int), 1 ≤ j ∧ j ≤ s.size ∧ s6 = .int .i64 j ∧ s5 = .int .i64 x ∧ 0 ≤ x ∧ x < 10000000000000 ∧ Hid (x = M.val (((bys s).take j).drop 1)) ∧ Hid (∀ c ∈ ((bys s).take j).drop 1, 48 ≤ c ∧ c ≤ 57)) (fun _ s6 => s.size - (intOf s6).toNat)
        case atStart => exact ⟨1, 0, Nat.le_refl _, by omega, rfl, rfl, by omega, by omega, Lib.hid (by rw [List.drop_of_length_le (by rw [List.length_take]; omega)]; rfl), Lib.hid (fun c hc => by rw [List.drop_of_length_le (by rw [List.length_take]; omega)] at hc; simp at hc)⟩
        case round =>
          obtain ⟨j, x, hj0, hj, rfl, rfl, hx0, hx1, HX, HA⟩ := hrel
          by_cases hlt : j < s.size
          · have HG := Lib.hid (bys_getD s j hlt)
            have HS := Lib.hid (show ((bys s).take (j + 1)).drop 1 = ((bys s).take j).drop 1 ++ [(s[j].toNat : Int)] by rw [bys_snoc s j hlt, List.drop_append_of_le_length (by rw [List.length_take, bys_len]; omega)])
            have hb := byte_lt s j hlt
            obtain ⟨hb0, hb1⟩ := hb
            by_cases d1 : (s[j].toNat : Int) < 48
            · have HP := Lib.hid (prs_digit (l := bys s) (by rw [HBO.out]; exact bad_all (k := j - 1) (by rw [List.length_drop, bys_len]; omega) (by rw [show ((bys s).drop 1).getD (j - 1) 0 = (bys s).getD j 0 by rw [List.getD_eq_getElem?_getD, List.getD_eq_getElem?_getD, List.getElem?_drop, show 1 + (j - 1) = j by omega], HG.out]; omega)))
              have f1 : decide ((s[j].toNat : Int) < 48) = true := decide_eq_true d1
              go_wp2
              go_ret2
              exact ⟨0, false, rfl, HP.out, Below.refl _ _⟩
            · have f1 : decide ((s[j].toNat : Int) < 48) = false := decide_eq_false d1
              by_cases d2 : 57 < (s[j].toNat : Int)
              · have HP := Lib.hid (prs_digit (l := bys s) (by rw [HBO.out]; exact bad_all (k := j - 1) (by rw [List.length_drop, bys_len]; omega) (by rw [show ((bys s).drop 1).getD (j - 1) 0 = (bys s).getD j 0 by rw [List.getD_eq_getElem?_getD, List.getD_eq_getElem?_getD, List.getElem?_drop, show 1 + (j - 1) = j by omega], HG.out]; omega)))
                have f2 : decide (57 < (s[j].toNat : Int)) = true := decide_eq_true d2
                go_wp2
                go_ret2
                exact ⟨0, false, rfl, HP.out, Below.refl _ _⟩
              · have f2 : decide (57 < (s[j].toNat : Int)) = false := decide_eq_false d2
                have HA2 := Lib.hid (show ∀ c ∈ ((bys s).take (j + 1)).drop 1, 48 ≤ c ∧ c ≤ 57 by
                  rw [HS.out]
                  intro c hc
                  rcases List.mem_append.1 hc with hc | hc
                  · exact HA.out c hc
                  · rw [List.mem_singleton] at hc; omega)
                have HV := Lib.hid (M.val_lt13 _ HA2.out (by rw [List.length_drop, List.length_take]; omega))
                have HX2 := Lib.hid (show x * 10 + ((s[j].toNat : Int) - 48) = M.val (((bys s).take (j + 1)).drop 1) by rw [HS.out, M.val_snoc, HX.out, Int.mul_comm])
                go_wp2
                go_round
                case rel => exact ⟨j + 1, _, by omega, by omega, by go_num, rfl, by rw [HX2.out]; exact HV.out.1, by rw [HX2.out]; exact HV.out.2, HX2, HA2⟩
                case measure => simp [intOf]; omega
          · obtain rfl : j = s.size := by omega
            have HR := Lib.hid (prs_last (l := bys s) (n := -x) (by rw [if_pos HN.out, HBO.out, HX.out, bys_all]))

            by_cases r1 : -x < -1000000000000
            · have HP := Lib.hid (HR.out.2 (by omega))
              have f1 : decide (-x < -1000000000000) = true := decide_eq_true r1
              go_wp2_with (go_at_call 18; refine (C.out _).mono ?_; rintro e w' ⟨rfl, hb2⟩; have HB2 := Lib.hid hb2; clear hb2)
              go_ret2
              exact ⟨0, false, rfl, HP.out, Below.refl _ _⟩
            · have f1 : decide (-x < -1000000000000) = false := decide_eq_false r1
              by_cases r2 : 1000000000000 < -x
              · have HP := Lib.hid (HR.out.2 (by omega))
                have f2 : decide (1000000000000 < -x) = true := decide_eq_true r2
                go_wp2_with (go_at_call 18; refine (C.out _).mono ?_; rintro e w' ⟨rfl, hb2⟩; have HB2 := Lib.hid hb2; clear hb2)
                go_ret2
                exact ⟨0, false, rfl, HP.out, Below.refl _ _⟩
              · have f2 : decide (1000000000000 < -x) = false := decide_eq_false r2
                have C := Lib.hid (rtext_any (-x) (by omega) (by omega))
                have hq := str_beq (M.txt (-x)) s (txt_bd _)
                by_cases r3 : M.txt (-x) = bys s
                · have HP := Lib.hid (HR.out.1 ⟨by omega, by omega, r3⟩)
                  rw [decide_eq_true r3] at hq
                  clear r3
                  generalize strOfNums (M.txt (-x)) = z at *
                  go_wp2_with (go_at_call 18; refine (C.out _).mono ?_; rintro e w' ⟨rfl, hb2⟩; have HB2 := Lib.hid hb2; clear hb2)
                  go_ret2
                  exact ⟨-x, true, rfl, HP.out, HB2.out⟩
                · have HP := Lib.hid (HR.out.2 (fun h => r3 h.2.2))
                  rw [decide_eq_false r3] at hq
                  clear r3
                  generalize strOfNums (M.txt (-x)) = z at *
                  go_wp2_with (go_at_call 18; refine (C.out _).mono ?_; rintro e w' ⟨rfl, hb2⟩; have HB2 := Lib.hid hb2; clear hb2)
                  go_ret2
                  exact ⟨0, false, rfl, HP.out, HB2.out⟩
set_option maxHeartbeats 3200000 in
theorem rparse_pos (s : ByteArray) (hs : s.size ≤ 9223372036854775807) (hn : ¬ (bys s).getD 0 0 = 45) (w : World) : Calls Tryd.prog 19 #[.string s] w (RParseP s w) := by
    have HBO := Lib.hid (show M.body (bys s) = bys s by unfold M.body; rw [if_neg hn])
    have HBL := Lib.hid (show (M.body (bys s)).length = s.size - 0 by rw [HBO.out, bys_len]; rfl)
    have HN := Lib.hid hn
    clear hn
    by_cases c0 : s.size = 0
    · have HP := Lib.hid (prs_long (l := bys s) (.inl (by rw [HBL.out]; omega)))
      have hz : (s.size : Int) = 0 := by omega
      clear c0
      go_enter Tryd.func19, Tryd.ntmps19
      go_wp2
      go_ret2
      exact ⟨0, false, rfl, HP.out, Below.refl _ _⟩
    · have hp : 0 < s.size := by omega
      have g0 : decide ((0 : Int) < (s.size : Int)) = true := decide_eq_true (by omega)
      have g1 : ((s[0].toNat : Int) == 45) = false := by rw [beq_eq_false_iff_ne, ← bys_getD s 0 hp]; exact HN.out
      have g3 : ((s.size : Int) == 0) = false := by rw [beq_eq_false_iff_ne]; omega
      by_cases c1 : 13 < s.size
      · have HP := Lib.hid (prs_long (l := bys s) (.inr (by rw [HBL.out]; omega)))
        have g4 : decide ((13 : Int) < (s.size : Int)) = true := decide_eq_true (by omega)
        go_enter Tryd.func19, Tryd.ntmps19
        go_wp2
        go_ret2
        exact ⟨0, false, rfl, HP.out, Below.refl _ _⟩
      · have g4 : decide ((13 : Int) < (s.size : Int)) = false := decide_eq_false (by omega)
        go_enter Tryd.func19, Tryd.ntmps19
        go_wp2
        go_loop [5, 6] (fun s5 s6 => ∃ (j : Nat) (x : Int), 0 ≤ j ∧ j ≤ s.size ∧ s6 = .int .i64 j ∧ s5 = .int .i64 x ∧ 0 ≤ x ∧ x < 10000000000000 ∧ Hid (x = M.val (((bys s).take j).drop 0)) ∧ Hid (∀ c ∈ ((bys s).take j).drop 0, 48 ≤ c ∧ c ≤ 57)) (fun _ s6 => s.size - (intOf s6).toNat)
        case atStart => exact ⟨0, 0, Nat.le_refl _, by omega, rfl, rfl, by omega, by omega, Lib.hid (by rw [List.drop_of_length_le (by rw [List.length_take]; omega)]; rfl), Lib.hid (fun c hc => by rw [List.drop_of_length_le (by rw [List.length_take]; omega)] at hc; simp at hc)⟩
        case round =>
          obtain ⟨j, x, hj0, hj, rfl, rfl, hx0, hx1, HX, HA⟩ := hrel
          by_cases hlt : j < s.size
          · have HG := Lib.hid (bys_getD s j hlt)
            have HS := Lib.hid (show ((bys s).take (j + 1)).drop 0 = ((bys s).take j).drop 0 ++ [(s[j].toNat : Int)] by rw [bys_snoc s j hlt, List.drop_append_of_le_length (by rw [List.length_take, bys_len]; omega)])
            have hb := byte_lt s j hlt
            obtain ⟨hb0, hb1⟩ := hb
            by_cases d1 : (s[j].toNat : Int) < 48
            · have HP := Lib.hid (prs_digit (l := bys s) (by rw [HBO.out]; exact bad_all (k := j - 0) (by rw [bys_len]; omega) (by rw [show (bys s).getD (j - 0) 0 = (bys s).getD j 0 by rw [Nat.sub_zero], HG.out]; omega)))
              have f1 : decide ((s[j].toNat : Int) < 48) = true := decide_eq_true d1
              go_wp2
              go_ret2
              exact ⟨0, false, rfl, HP.out, Below.refl _ _⟩
            · have f1 : decide ((s[j].toNat : Int) < 48) = false := decide_eq_false d1
              by_cases d2 : 57 < (s[j].toNat : Int)
              · have HP := Lib.hid (prs_digit (l := bys s) (by rw [HBO.out]; exact bad_all (k := j - 0) (by rw [bys_len]; omega) (by rw [show (bys s).getD (j - 0) 0 = (bys s).getD j 0 by rw [Nat.sub_zero], HG.out]; omega)))
                have f2 : decide (57 < (s[j].toNat : Int)) = true := decide_eq_true d2
                go_wp2
                go_ret2
                exact ⟨0, false, rfl, HP.out, Below.refl _ _⟩
              · have f2 : decide (57 < (s[j].toNat : Int)) = false := decide_eq_false d2
                have HA2 := Lib.hid (show ∀ c ∈ ((bys s).take (j + 1)).drop 0, 48 ≤ c ∧ c ≤ 57 by
                  rw [HS.out]
                  intro c hc
                  rcases List.mem_append.1 hc with hc | hc
                  · exact HA.out c hc
                  · rw [List.mem_singleton] at hc; omega)
                have HV := Lib.hid (M.val_lt13 _ HA2.out (by rw [List.length_drop, List.length_take]; omega))
                have HX2 := Lib.hid (show x * 10 + ((s[j].toNat : Int) - 48) = M.val (((bys s).take (j + 1)).drop 0) by rw [HS.out, M.val_snoc, HX.out, Int.mul_comm])
                go_wp2
                go_round
                case rel => exact ⟨j + 1, _, by omega, by omega, by go_num, rfl, by rw [HX2.out]; exact HV.out.1, by rw [HX2.out]; exact HV.out.2, HX2, HA2⟩
                case measure => simp [intOf]; omega
          · obtain rfl : j = s.size := by omega
            have HR := Lib.hid (prs_last (l := bys s) (n := x) (by rw [if_neg HN.out, HBO.out, HX.out, bys_all, List.drop_zero]))

            by_cases r1 : x < -1000000000000
            · have HP := Lib.hid (HR.out.2 (by omega))
              have f1 : decide (x < -1000000000000) = true := decide_eq_true r1
              go_wp2_with (go_at_call 18; refine (C.out _).mono ?_; rintro e w' ⟨rfl, hb2⟩; have HB2 := Lib.hid hb2; clear hb2)
              go_ret2
              exact ⟨0, false, rfl, HP.out, Below.refl _ _⟩
            · have f1 : decide (x < -1000000000000) = false := decide_eq_false r1
              by_cases r2 : 1000000000000 < x
              · have HP := Lib.hid (HR.out.2 (by omega))
                have f2 : decide (1000000000000 < x) = true := decide_eq_true r2
                go_wp2_with (go_at_call 18; refine (C.out _).mono ?_; rintro e w' ⟨rfl, hb2⟩; have HB2 := Lib.hid hb2; clear hb2)
                go_ret2
                exact ⟨0, false, rfl, HP.out, Below.refl _ _⟩
              · have f2 : decide (1000000000000 < x) = false := decide_eq_false r2
                have C := Lib.hid (rtext_any (x) (by omega) (by omega))
                have hq := str_beq (M.txt (x)) s (txt_bd _)
                by_cases r3 : M.txt (x) = bys s
                · have HP := Lib.hid (HR.out.1 ⟨by omega, by omega, r3⟩)
                  rw [decide_eq_true r3] at hq
                  clear r3
                  generalize strOfNums (M.txt (x)) = z at *
                  go_wp2_with (go_at_call 18; refine (C.out _).mono ?_; rintro e w' ⟨rfl, hb2⟩; have HB2 := Lib.hid hb2; clear hb2)
                  go_ret2
                  exact ⟨x, true, rfl, HP.out, HB2.out⟩
                · have HP := Lib.hid (HR.out.2 (fun h => r3 h.2.2))
                  rw [decide_eq_false r3] at hq
                  clear r3
                  generalize strOfNums (M.txt (x)) = z at *
                  go_wp2_with (go_at_call 18; refine (C.out _).mono ?_; rintro e w' ⟨rfl, hb2⟩; have HB2 := Lib.hid hb2; clear hb2)
                  go_ret2
                  exact ⟨0, false, rfl, HP.out, HB2.out⟩
theorem rparse_is {s : ByteArray} {v : Int} {b : Bool} (hs : s.size ≤ 9223372036854775807) (h : PrP (bys s) v b) (w : World) :
    Calls Tryd.prog 19 #[.string s] w fun e w' => e = .returned (.tuple #[.int .i64 v, .bool b]) ∧ Below w.heap.size w w' := by
  have : Calls Tryd.prog 19 #[.string s] w (RParseP s w) := by
    by_cases hn : (bys s).getD 0 0 = 45
    · exact rparse_neg s hs hn w
    · exact rparse_pos s hs hn w
  exact this.mono fun e w' ⟨v', b', he, hd, hw⟩ => by
    obtain ⟨rfl, rfl⟩ := h.one hd
    exact ⟨he, hw⟩
end Go.Proofs.YtemnidjggamciaaDoor
