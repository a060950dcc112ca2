/- The walks of num's texts: Parse, of the program and of the reference. Bounds: a text has at most 2 to the 63rd minus 1 bytes. -/
import Derived.Test.YtemnidjggamciaaDoorW4
namespace Go.Proofs.YtemnidjggamciaaDoor
open Go.RowKit
set_option linter.unusedVariables false

/-- What Parse answers. -/
def PrP (l : List Int) (v : Int) (b : Bool) : Prop := (b = true ∧ M.prs l = some v) ∨ (b = false ∧ v = 0 ∧ M.prs l = none)
theorem PrP.one {l : List Int} {v v' : Int} {b b' : Bool} (h : PrP l v b) (g : PrP l v' b') : v = v' ∧ b = b' := by
  rcases h with ⟨rfl, h⟩ | ⟨rfl, rfl, h⟩ <;> rcases g with ⟨rfl, g⟩ | ⟨rfl, rfl, g⟩
  · rw [h] at g; injection g with g; exact ⟨g, rfl⟩
  · rw [h] at g; cases g
  · rw [h] at g; cases g
  · exact ⟨rfl, rfl⟩
theorem prp_ex (l : List Int) : ∃ v b, PrP l v b := by
  cases h : M.prs l with
  | none => exact ⟨0, false, .inr ⟨rfl, rfl, h⟩⟩
  | some v => exact ⟨v, true, .inl ⟨rfl, h⟩⟩
theorem prs_bad {l : List Int} (h : M.dv (M.body l) = none) : PrP l 0 false := .inr ⟨rfl, rfl, by unfold M.prs; rw [h]⟩
theorem prs_neg {l : List Int} {v : Int} (hs : l.getD 0 0 = 45) (h : M.dv (M.body l) = some v) (h0 : v ≠ 0) (h1 : v ≤ 1000000000000) : PrP l (-v) true :=
  .inl ⟨rfl, by unfold M.prs; rw [h]; dsimp only; rw [if_pos hs, if_neg (by omega)]⟩
theorem prs_negbad {l : List Int} {v : Int} (hs : l.getD 0 0 = 45) (h : M.dv (M.body l) = some v) (h0 : v = 0 ∨ 1000000000000 < v) : PrP l 0 false :=
  .inr ⟨rfl, rfl, by unfold M.prs; rw [h]; dsimp only; rw [if_pos hs, if_pos h0]⟩
theorem prs_pos {l : List Int} {v : Int} (hs : l.getD 0 0 ≠ 45) (h : M.dv (M.body l) = some v) (h1 : v ≤ 1000000000000) : PrP l v true :=
  .inl ⟨rfl, by unfold M.prs; rw [h]; dsimp only; rw [if_neg hs, if_neg (by omega)]⟩
theorem prs_posbad {l : List Int} {v : Int} (hs : l.getD 0 0 ≠ 45) (h : M.dv (M.body l) = some v) (h1 : 1000000000000 < v) : PrP l 0 false :=
  .inr ⟨rfl, rfl, by unfold M.prs; rw [h]; dsimp only; rw [if_neg hs, if_pos h1]⟩
def ParseP (s : ByteArray) (w : World) (e : Ending) (w' : World) : Prop := ∃ v b, e = .returned (.tuple #[.int .i64 v, .bool b]) ∧ PrP (bys s) v b ∧ w = w'
theorem bys_nil {s : ByteArray} (h : s.size = 0) : (bys s).getD 0 0 ≠ 45 := by
  have : bys s = [] := List.eq_nil_of_length_eq_zero (by rw [bys_len]; exact h)
  rw [this]; decide
set_option maxHeartbeats 1600000 in
theorem parse_any (s : ByteArray) (hs : s.size ≤ 9223372036854775807) (w : World) (hL : Lim w) : Calls Tryd.prog 17 #[.string s] w (ParseP s w) := by
  have h0 := hL.lo
  have h1 := hL.hi
  by_cases hn : (bys s).getD 0 0 = 45
  · have hp : 0 < s.size := by
      rcases Nat.eq_zero_or_pos s.size with h | h
      · exact absurd hn (bys_nil h)
      · exact h
    have g0 : decide ((0 : Int) < (s.size : Int)) = true := decide_eq_true (by omega)
    have g1 : ((s[0].toNat : Int) == 45) = true := by rw [beq_iff_eq, ← bys_getD s 0 hp]; exact hn
    have hsz : (s.extract 1 s.size).size ≤ 9223372036854775807 := by rw [ByteArray.size_extract]; omega
    have hb : M.body (bys s) = bys (s.extract 1 s.size) := by unfold M.body; rw [if_pos hn, bys_from]
    obtain ⟨v, b, hd⟩ := dvp_ex (bys (s.extract 1 s.size))
    have C := Lib.hid (fun w => digits_is hsz hd w)
    have HN := Lib.hid hn
    have HB := Lib.hid hb
    clear hb hn hL
    rcases hd with ⟨rfl, hd⟩ | ⟨rfl, rfl, hd⟩
    · obtain ⟨d1, d2, d3, d4, d5⟩ := M.dv_some hd
      obtain ⟨v0, v1⟩ := M.val_lt13 _ d4 d2
      rw [← d5] at v0 v1
      have HD := Lib.hid (show M.dv (M.body (bys s)) = some v by rw [HB.out]; exact hd)
      clear d1 d2 d3 d4 d5 hd
      by_cases c0 : v = 0
      · have HP := Lib.hid (prs_negbad HN.out HD.out (.inl c0))
        subst c0
        go_enter Tryd.func17, Tryd.ntmps17
        go_wp2_with (go_at_call 35; refine (C.out _).mono ?_; rintro e w' ⟨rfl, rfl⟩)
        go_ret2
        exact ⟨0, false, rfl, HP.out, rfl⟩
      · have f0 : (v == 0) = false := by rw [beq_eq_false_iff_ne]; exact c0
        by_cases c1 : 1000000000000 < v
        · have HP := Lib.hid (prs_negbad HN.out HD.out (.inr c1))
          have f1 : decide (-v < -1000000000000) = true := decide_eq_true (by omega)
          go_enter Tryd.func17, Tryd.ntmps17
          go_wp2_with (go_at_call 35; refine (C.out _).mono ?_; rintro e w' ⟨rfl, rfl⟩)
          go_ret2
          exact ⟨0, false, rfl, HP.out, rfl⟩
        · have HP := Lib.hid (prs_neg HN.out HD.out c0 (by omega))
          have f1 : decide (-v < -1000000000000) = false := decide_eq_false (by omega)
          have f2 : decide (1000000000000 < -v) = false := decide_eq_false (by omega)
          go_enter Tryd.func17, Tryd.ntmps17
          go_wp2_with (go_at_call 35; refine (C.out _).mono ?_; rintro e w' ⟨rfl, rfl⟩)
          go_ret2
          exact ⟨-v, true, rfl, HP.out, rfl⟩
    · have HP := Lib.hid (prs_bad (l := bys s) (by rw [HB.out]; exact hd))
      clear hd
      go_enter Tryd.func17, Tryd.ntmps17
      go_wp2_with (go_at_call 35; refine (C.out _).mono ?_; rintro e w' ⟨rfl, rfl⟩)
      go_ret2
      exact ⟨0, false, rfl, HP.out, rfl⟩
  · have hb : M.body (bys s) = bys s := by unfold M.body; rw [if_neg hn]
    obtain ⟨v, b, hd⟩ := dvp_ex (bys s)
    have C := Lib.hid (fun w => digits_is hs hd w)
    have HN := Lib.hid hn
    have HB := Lib.hid hb
    have key : s.size = 0 ∨ ∃ h : 0 < s.size, ((s[0].toNat : Int) == 45) = false := by
      rcases Nat.eq_zero_or_pos s.size with h | h
      · exact .inl h
      · exact .inr ⟨h, by rw [beq_eq_false_iff_ne, ← bys_getD s 0 h]; exact hn⟩
    clear hb hn hL
    rcases hd with ⟨rfl, hd⟩ | ⟨rfl, rfl, hd⟩
    · obtain ⟨d1, d2, d3, d4, d5⟩ := M.dv_some hd
      obtain ⟨v0, v1⟩ := M.val_lt13 _ d4 d2
      rw [← d5] at v0 v1
      have HD := Lib.hid (show M.dv (M.body (bys s)) = some v by rw [HB.out]; exact hd)
      rw [bys_len] at d1
      obtain ⟨hp, g1⟩ : ∃ h : 0 < s.size, ((s[0].toNat : Int) == 45) = false := key.resolve_left (by omega)
      have g0 : decide ((0 : Int) < (s.size : Int)) = true := decide_eq_true (by omega)
      clear d1 d2 d3 d4 d5 hd key
      have f3 : decide (v < -1000000000000) = false := decide_eq_false (by omega)
      by_cases c1 : 1000000000000 < v
      · have HP := Lib.hid (prs_posbad HN.out HD.out c1)
        have f1 : decide (1000000000000 < v) = true := by simpa using c1
        go_enter Tryd.func17, Tryd.ntmps17
        go_wp2_with (go_at_call 35; refine (C.out _).mono ?_; rintro e w' ⟨rfl, rfl⟩)
        go_ret2
        exact ⟨0, false, rfl, HP.out, rfl⟩
      · have HP := Lib.hid (prs_pos HN.out HD.out (by omega))
        have f1 : decide (1000000000000 < v) = false := by simpa using c1
        go_enter Tryd.func17, Tryd.ntmps17
        go_wp2_with (go_at_call 35; refine (C.out _).mono ?_; rintro e w' ⟨rfl, rfl⟩)
        go_ret2
        exact ⟨v, true, rfl, HP.out, rfl⟩
    · have HP := Lib.hid (prs_bad (l := bys s) (by rw [HB.out]; exact hd))
      clear hd
      rcases key with h | ⟨hp, g1⟩
      · have g0 : decide ((0 : Int) < (s.size : Int)) = false := decide_eq_false (by omega)
        have hz : (s.size : Int) = 0 := by omega
        clear h
        go_enter Tryd.func17, Tryd.ntmps17
        go_wp2_with (go_at_call 35; refine (C.out _).mono ?_; rintro e w' ⟨rfl, rfl⟩)
        go_ret2
        exact ⟨0, false, rfl, HP.out, rfl⟩
      · have g0 : decide ((0 : Int) < (s.size : Int)) = true := decide_eq_true (by omega)
        go_enter Tryd.func17, Tryd.ntmps17
        go_wp2_with (go_at_call 35; refine (C.out _).mono ?_; rintro e w' ⟨rfl, rfl⟩)
        go_ret2
        exact ⟨0, false, rfl, HP.out, rfl⟩
theorem parse_is {s : ByteArray} {v : Int} {b : Bool} (hs : s.size ≤ 9223372036854775807) (h : PrP (bys s) v b) (w : World) (hL : Lim w) :
    Calls Tryd.prog 17 #[.string s] w fun e w' => e = .returned (.tuple #[.int .i64 v, .bool b]) ∧ w = w' :=
  (parse_any s hs w hL).mono fun e w' ⟨v', b', he, hd, hw⟩ => by
    obtain ⟨rfl, rfl⟩ := h.one hd
    exact ⟨he, hw⟩
end Go.Proofs.YtemnidjggamciaaDoor
