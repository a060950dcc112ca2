/- The walks of num's texts: digits read, of the program and of the reference. Bounds: a text has at most 2 to the 63rd minus 1 bytes. -/
import Derived.Test.YtemnidjggamciaaDoorW3
namespace Go.Proofs.YtemnidjggamciaaDoor
open Go.RowKit
set_option linter.unusedVariables false

theorem ret_iu {a b : Int} {x y : Bool} (h : a = b) (g : x = y) : Ending.returned (.tuple #[.int .i64 a, .bool x]) = .returned (.tuple #[.int .i64 b, .bool y]) := by rw [h, g]
theorem bys_extract (s : ByteArray) (a b : Nat) : bys (s.extract a b) = ((bys s).take b).drop a := by
  unfold bys
  rw [ByteArray.data_extract, Array.toList_extract, List.extract_eq_take_drop, List.map_take, List.map_drop, List.drop_take]
theorem bys_from (s : ByteArray) (a : Nat) : bys (s.extract a s.size) = (bys s).drop a := by
  rw [bys_extract, List.take_of_length_le (by rw [bys_len]; exact Nat.le_refl _)]
theorem count13 : (M.dgs 1000000000000).length = 13 := by simp [M.dgs_len_big, M.dgs_len_small]
/-- What digitsValue answers. -/
def DvP (l : List Int) (v : Int) (b : Bool) : Prop := (b = true ∧ M.dv l = some v) ∨ (b = false ∧ v = 0 ∧ M.dv l = none)
theorem DvP.one {l : List Int} {v v' : Int} {b b' : Bool} (h : DvP l v b) (g : DvP l v' b') : v = v' ∧ b = b' := by
  rcases h with ⟨rfl, h⟩ | ⟨rfl, rfl, h⟩ <;> rcases g with ⟨rfl, g⟩ | ⟨rfl, rfl, g⟩
  · rw [h] at g; injection g with g; exact ⟨g, rfl⟩
  · rw [h] at g; cases g
  · rw [h] at g; cases g
  · exact ⟨rfl, rfl⟩
theorem dvp_ex (l : List Int) : ∃ v b, DvP l v b := by
  cases h : M.dv l with
  | none => exact ⟨0, false, .inr ⟨rfl, rfl, h⟩⟩
  | some v => exact ⟨v, true, .inl ⟨rfl, h⟩⟩
theorem dv_no {l : List Int} (h : l.length = 0 ∨ 13 < l.length ∨ (l.getD 0 0 = 48 ∧ 1 < l.length) ∨ l.all M.isD = false) : DvP l 0 false := .inr ⟨rfl, rfl, by unfold M.dv; rw [if_pos h]⟩
theorem bad_all {l : List Int} {k : Nat} (hk : k < l.length) (h : ¬ (48 ≤ l.getD k 0 ∧ l.getD k 0 ≤ 57)) : l.all M.isD = false := by
  rw [List.all_eq_false]
  refine ⟨l[k], List.getElem_mem hk, ?_⟩
  rw [List.getD_eq_getElem?_getD, List.getElem?_eq_getElem hk] at h
  unfold M.isD
  rw [decide_eq_true_iff]
  exact h
def DigP (s : ByteArray) (w : World) (e : Ending) (w' : World) : Prop := ∃ v b, e = .returned (.tuple #[.int .i64 v, .bool b]) ∧ DvP (bys s) v b ∧ w = w'
set_option maxHeartbeats 1600000 in
theorem digits_any (s : ByteArray) (hs : s.size ≤ 9223372036854775807) (w : World) :
    Calls Tryd.prog 35 #[.string s] w (DigP s w) := by
  have hbl := bys_len s
  have C := Lib.hid (fun w => (show Calls Tryd.prog 34 #[.int .u64 1000000000000] w fun e w' => e = .returned (.int .i64 13) ∧ w = w' by have := count_any 1000000000000 (by omega) w; rw [count13] at this; exact this))
  by_cases c0 : s.size = 0
  · have HD := Lib.hid (dv_no (l := bys s) (.inl (by omega)))
    have hz : (s.size : Int) = 0 := by omega
    clear hbl c0
    go_enter Tryd.func35, Tryd.ntmps35
    go_wp2
    go_ret2
    exact ⟨0, false, rfl, HD.out, rfl⟩
  · have g0 : ((s.size : Int) == 0) = false := by rw [beq_eq_false_iff_ne]; omega
    by_cases c1 : 13 < s.size
    · have HD := Lib.hid (dv_no (l := bys s) (.inr (.inl (by omega))))
      have g1 : decide ((13 : Int) < (s.size : Int)) = true := by simp; omega
      clear hbl
      go_enter Tryd.func35, Tryd.ntmps35
      go_wp2_with (go_at_call 34; refine (C.out _).mono ?_; rintro e w' ⟨rfl, rfl⟩)
      go_ret2
      exact ⟨0, false, rfl, HD.out, rfl⟩
    · have g1 : decide ((13 : Int) < (s.size : Int)) = false := by simp; omega
      have hp : 0 < s.size := by omega
      have hd0 := bys_getD s 0 hp
      by_cases c2 : (s[0].toNat : Int) = 48 ∧ 1 < s.size
      · have HD := Lib.hid (dv_no (l := bys s) (.inr (.inr (.inl ⟨by rw [hd0]; exact c2.1, by omega⟩))))
        have g2 : ((s[0].toNat : Int) == 48) = true := beq_iff_eq.2 c2.1
        have g3 : decide ((1 : Int) < (s.size : Int)) = true := by simp; omega
        clear hbl c2 hd0
        go_enter Tryd.func35, Tryd.ntmps35
        go_wp2_with (go_at_call 34; refine (C.out _).mono ?_; rintro e w' ⟨rfl, rfl⟩)
        go_ret2
        exact ⟨0, false, rfl, HD.out, rfl⟩
      · have HC := Lib.hid (show ¬ ((bys s).getD 0 0 = 48 ∧ 1 < (bys s).length) by rw [hd0, hbl]; exact c2)
        have HB := Lib.hid hbl
        have hsz : s.size ≤ 13 := by omega
        have key : ∃ p : Bool, ((s[0].toNat : Int) == 48) = p := ⟨_, rfl⟩
        obtain ⟨p, hp0⟩ := key
        have hsec : p = true → decide ((1 : Int) < (s.size : Int)) = false := fun e => by
          subst e
          have : (s[0].toNat : Int) = 48 := beq_iff_eq.1 hp0
          simp; omega
        clear hbl c2 hd0
        cases p
        all_goals
          first
            | (have g3 := hsec rfl; clear hsec)
            | clear hsec
          go_enter Tryd.func35, Tryd.ntmps35
          go_wp2_with (go_at_call 34; refine (C.out _).mono ?_; rintro e w' ⟨rfl, rfl⟩)
          clear hp0
          go_loop [4, 27] (fun s4 s27 => ∃ (k : Nat) (x : Int), k ≤ s.size ∧ s27 = .int .i64 k ∧ s4 = .int .i64 x ∧ 0 ≤ x ∧ x < 10000000000000 ∧ Hid (x = M.val ((bys s).take k)) ∧ Hid (∀ c ∈ (bys s).take k, 48 ≤ c ∧ c ≤ 57)) (fun _ s27 => s.size - (intOf s27).toNat)
          case atStart => exact ⟨0, 0, Nat.zero_le _, rfl, rfl, by omega, by omega, Lib.hid rfl, Lib.hid (fun c hc => by simp at hc)⟩
          case round =>
            obtain ⟨k, x, hk, rfl, rfl, hx0, hx1, HX, HA⟩ := hrel
            by_cases hlt : k < s.size
            · have HG := Lib.hid (bys_getD s k hlt)
              have HS := Lib.hid (bys_snoc s k hlt)
              have hb := byte_lt s k hlt
              obtain ⟨hb0, hb1⟩ := hb
              by_cases d1 : (s[k].toNat : Int) < 48
              · have HD := Lib.hid (dv_no (l := bys s) (.inr (.inr (.inr (bad_all (k := k) (by rw [HB.out]; exact hlt) (by rw [HG.out]; omega))))))
                have f1 : decide ((s[k].toNat : Int) < 48) = true := by simpa using d1
                go_wp2
                go_ret2
                exact ⟨0, false, rfl, HD.out, rfl⟩
              · have f1 : decide ((s[k].toNat : Int) < 48) = false := by simpa using d1
                by_cases d2 : 57 < (s[k].toNat : Int)
                · have HD := Lib.hid (dv_no (l := bys s) (.inr (.inr (.inr (bad_all (k := k) (by rw [HB.out]; exact hlt) (by rw [HG.out]; omega))))))
                  have f2 : decide (57 < (s[k].toNat : Int)) = true := by simpa using d2
                  go_wp2
                  go_ret2
                  exact ⟨0, false, rfl, HD.out, rfl⟩
                · have f2 : decide (57 < (s[k].toNat : Int)) = false := by simpa using d2
                  have HA2 := Lib.hid (show ∀ c ∈ (bys s).take (k + 1), 48 ≤ c ∧ c ≤ 57 by
                    rw [HS.out]
                    intro c hc
                    rcases List.mem_append.1 hc with hc | hc
                    · exact HA.out c hc
                    · rw [List.mem_singleton] at hc; omega)
                  have HV := Lib.hid (M.val_lt13 _ HA2.out (by rw [List.length_take]; omega))
                  have HX2 := Lib.hid (show 10 * x + ((s[k].toNat : Int) - 48) = M.val ((bys s).take (k + 1)) by rw [HS.out, M.val_snoc, HX.out])
                  go_wp2
                  go_round
                  case rel => exact ⟨k + 1, _, by omega, by go_num, rfl, by rw [HX2.out]; exact HV.out.1, by rw [HX2.out]; exact HV.out.2, HX2, HA2⟩
                  case measure => simp [intOf]; omega
            · obtain rfl : k = s.size := by omega
              have HD := Lib.hid (show DvP (bys s) x true by
                have hA := HA.out
                have hX := HX.out
                rw [bys_all] at hA hX
                refine .inl ⟨rfl, ?_⟩
                rw [hX]
                refine M.dv_of (by rw [HB.out]; omega) (by rw [HB.out]; omega) ?_ hA
                by_cases h5 : (bys s).length = 1
                · exact .inl h5
                · exact .inr ⟨by have := HB.out; omega, fun e => HC.out ⟨e, by have := HB.out; omega⟩⟩)
              go_wp2
              go_ret2
              exact ⟨x, true, rfl, HD.out, rfl⟩
theorem digits_is {s : ByteArray} {v : Int} {b : Bool} (hs : s.size ≤ 9223372036854775807) (h : DvP (bys s) v b) (w : World) :
    Calls Tryd.prog 35 #[.string s] w fun e w' => e = .returned (.tuple #[.int .i64 v, .bool b]) ∧ w = w' :=
  (digits_any s hs w).mono fun e w' ⟨v', b', he, hd, hw⟩ => by
    obtain ⟨rfl, rfl⟩ := h.one hd
    exact ⟨he, hw⟩
end Go.Proofs.YtemnidjggamciaaDoor
