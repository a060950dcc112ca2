/- The walks of RulesOf: many events, a long list of rooms, a rule, none. -/
import Derived.Test.YtmgjmcpkoaacjaaW12
namespace Go.Proofs.Ytmgjmcpkoaacjaa
open Go.RowKit
set_option linter.unusedVariables false

theorem walk_many (A : Option Addr) (n c : Nat) (w : World) (hn : 40 < n) :
    Calls Try.prog 3 #[.slice A n c] w fun e w' => e = .returned (.bool true) ∧ Below w.heap.size w w' := by
  have d1 : decide ((40 : Int) < (n : Int)) = true := by simp; omega
  clear hn
  go_enter Try.func3, Try.ntmps3
  go_wp2_with (go_at_call 8; refine (lives_any _).mono ?_; rintro e w1 ⟨rfl, hb1⟩)
  go_ret
  exact ⟨rfl, hb1⟩

set_option maxHeartbeats 1000000 in
theorem walk_long (A : Option Addr) (n c : Nat) (E : Nat → Ev) (w : World) (hn : n ≤ 40) (hE : EvsA w A n E) (hl : ∃ j, j < n ∧ 110 < (E j).lA) :
    Calls Try.prog 3 #[.slice A n c] w fun e w' => e = .returned (.bool true) ∧ Below w.heap.size w w' := by
  have d1 : decide ((40 : Int) < (n : Int)) = false := by simp; omega
  have HE := Lib.hid hE
  have HL := Lib.hid hl
  clear hE hl
  go_enter Try.func3, Try.ntmps3
  go_wp2
  go_loopg [3] n (fun gg s3 wr => ∃ kk : Nat, kk ≤ n ∧ n - kk ≤ gg ∧ s3 = .int .i64 kk ∧ w = wr ∧ Hid (∀ j, j < kk → (E j).lA ≤ 110))
  case atStart => exact ⟨0, Nat.zero_le _, by omega, rfl, rfl, Lib.hid (fun j hj => absurd hj (Nat.not_lt_zero _))⟩
  case round =>
    obtain ⟨kk, hkk, hg, rfl, rfl, S⟩ := hrel
    by_cases hlt : kk < n
    · have hltz : (kk : Int) < (n : Int) := by omega
      obtain ⟨b, off, rfl, hev⟩ := HE.out.at_ hlt
      have ca := hev.alw hlt
      clear hev
      generalize haa : (E kk).aA = aA at ca
      generalize hla : (E kk).lA = lA at ca
      generalize hca : (E kk).cA = cA at ca
      have Hla := Lib.hid hla
      clear haa hla hca
      by_cases q : 110 < lA
      · have d2 : decide ((110 : Int) < (lA : Int)) = true := by simp; omega
        clear q
        go_wp2_with (go_at_call 8; refine (lives_any _).mono ?_; rintro e w1 ⟨rfl, hb1⟩)
        go_ret
        exact ⟨rfl, hb1⟩
      · have d2 : decide ((110 : Int) < (lA : Int)) = false := by simp; omega
        have HF := Lib.hid (show (E kk).lA ≤ 110 by rw [Hla.out]; omega)
        clear q
        go_wp2
        go_roundg (n - (kk + 1))
        case measure => omega
        case rel =>
          refine ⟨kk + 1, by omega, by omega, by go_num, rfl, Lib.hid (fun j hj => ?_)⟩
          by_cases e : j = kk
          · subst e; exact HF.out
          · exact S.out j (by omega)
    · exfalso
      obtain ⟨j, hj, h⟩ := HL.out
      have := S.out j (by omega)
      omega

set_option maxHeartbeats 2000000 in
theorem walk_yes (A : Option Addr) (n c : Nat) (E : Nat → Ev) (Z : Nat → List ByteArray) (w : World) (hn : n ≤ 40) (hF : Few w A n E Z) (hs : ∀ j, j < n → (E j).lA ≤ 110) (k : Nat) (hk : k < n) (h4 : (E k).kd = 4) (hl4 : ∀ j, j < k → (E j).kd ≠ 4) :
    Calls Try.prog 3 #[.slice A n c] w fun e w' => e = .returned (.bool true) ∧ Below w.heap.size w w' := by
  have d1 : decide ((40 : Int) < (n : Int)) = false := by simp; omega
  have HF := Lib.hid hF
  have HS := Lib.hid hs
  have HY := Lib.hid (fun (F : Nat) (hF : F = 9 ∨ F = 10) (w' : World) (h : Few w' A n E Z) => of_yes F hF c k hk h4 hl4 h)
  have hle : (E k).lA * 16 ≤ 140737488355328 := by have := hs k hk; omega
  clear h4 hl4
  generalize (E k).n = nn at HY
  generalize (E k).lA = lA at HY hle
  generalize Z k = zs at HY
  have q1 : (nn != nn) = false := by simp
  have q2 : (nn == nn) = true := by simp
  have HLe := Lib.hid hle
  have hbl : lA ≤ 9223372036854775807 := by omega
  clear hle
  clear hF hs
  go_enter Try.func3, Try.ntmps3
  go_wp2
  go_loopg [3] n (fun gg s3 wr => ∃ kk : Nat, kk ≤ n ∧ n - kk ≤ gg ∧ s3 = .int .i64 kk ∧ w = wr)
  case atStart => exact ⟨0, Nat.zero_le _, by omega, rfl, rfl⟩
  case round =>
    obtain ⟨kk, hkk, hg, rfl, rfl⟩ := hrel
    by_cases hlt : kk < n
    · have hltz : (kk : Int) < (n : Int) := by omega
      obtain ⟨b, off, rfl, hev⟩ := HF.out.evs.at_ hlt
      have ca := hev.alw hlt
      have hq := HS.out kk hlt
      clear hev
      generalize (E kk).aA = aA at ca
      generalize (E kk).lA = lB at ca hq
      generalize (E kk).cA = cA at ca
      have d2 : decide ((110 : Int) < (lB : Int)) = false := by simp; omega
      clear hq
      go_wp2
      go_roundg (n - (kk + 1))
      case measure => omega
      case rel => exact ⟨kk + 1, by omega, by omega, by go_num, rfl⟩
    · have hltz : ¬ (kk : Int) < (n : Int) := by omega
      have : kk = n := by omega
      subst this
      go_wp2_with (first
        | (go_at_call 9; refine (HY.out 9 (.inl rfl) _ HF.out).mono ?_; rintro e w1 ⟨A1, c1, rfl, k1⟩; have C1 := Lib.hid k1; clear k1)
        | (go_at_call 10; refine (HY.out 10 (.inr rfl) _ (HF.out.below C1.out.bel)).mono ?_; rintro e w2 ⟨A2, c2, rfl, k2⟩; have C2 := Lib.hid k2; clear k2)
        | (go_at_call 11; refine (same_yes A1 A2 lA c1 c2 zs _ ((C1.out.texts HLe.out).below C2.out.bel) (C2.out.texts HLe.out)).mono ?_; rintro e w3 ⟨rfl, hb3⟩; have HB3 := Lib.hid hb3; clear hb3))
      have HSp := Lib.hid (C1.out.spoilt (C2.out.bel.trans (HB3.out.mono C2.out.bel.size)))
      have C3 := Lib.hid (show CopyAt w1 w3 lA zs A2 c2 from ⟨by
        have h := C2.out.own
        refine ⟨h.1, h.2.imp id fun ⟨g, cap, cur, e, hg, hx, r⟩ => ⟨g, cap, cur, e, hg, ?_, r⟩⟩
        rw [HB3.out.block g (by rcases Nat.lt_or_ge g w2.heap.size with h | h; exact h; rw [Array.getElem?_eq_none h] at hx; cases hx)]; exact hx, C2.out.bel.trans (HB3.out.mono C2.out.bel.size)⟩)
      clear C2 HB3
      go_loopg [51] lA (fun gg s51 wr => ∃ jj : Nat, jj ≤ lA ∧ lA - jj ≤ gg ∧ s51 = .int .i64 jj ∧ Hid (Spoilt w3 wr A1 lA))
      case atStart => exact ⟨0, Nat.zero_le _, by omega, rfl, HSp⟩
      case round =>
        obtain ⟨jj, hjj, hg2, rfl, W3⟩ := hrel
        by_cases hlt2 : jj < lA
        · have hltz2 : (jj : Int) < (lA : Int) := by omega
          rcases W3.out with ⟨h0, _⟩ | ⟨g, rfl, hw⟩
          · omega
          · obtain ⟨hc0, hz0⟩ := hw.there jj hlt2
            rw [Nat.zero_add] at hc0 hz0
            obtain ⟨v0, hv0⟩ := Option.isSome_iff_exists.1 hc0
            have HW2 := Lib.hid hw
            clear hc0 hw W3
            go_wp2
            go_roundg (lA - (jj + 1))
            case measure => omega
            case rel => exact ⟨jj + 1, by omega, by omega, by go_num, Lib.hid (.inr ⟨g, rfl, HW2.out.set jj _⟩)⟩
        · have hltz2 : ¬ (jj : Int) < (lA : Int) := by omega
          have : jj = lA := by omega
          subst this
          have HK := Lib.hid (W3.out.keeps C1.out C3.out HLe.out)
          go_wp2_with (first
            | (go_at_call 9; refine (HY.out 9 (.inl rfl) _ (HF.out.below HK.out.2.1)).mono ?_; rintro e w4 ⟨A4, c4, rfl, k4⟩; have C4 := Lib.hid k4; clear k4)
            | (go_at_call 11; refine (same_yes A4 A2 jj c4 c2 zs _ (C4.out.texts HLe.out) (HK.out.1.below C4.out.bel)).mono ?_; rintro e w5 ⟨rfl, hb5⟩; have HB5 := Lib.hid (C4.out.bel.trans (hb5.mono C4.out.bel.size)); clear hb5)
            | (go_at_call 8; refine (lives_any _).mono ?_; rintro e w6 ⟨rfl, hb6⟩; have HB6 := Lib.hid (HB5.out.trans (hb6.mono HB5.out.size)); clear hb6))
          go_ret
          exact ⟨rfl, HK.out.2.1.trans (HB6.out.mono HK.out.2.1.size)⟩

set_option maxHeartbeats 2000000 in
theorem walk_no (A : Option Addr) (n c : Nat) (E : Nat → Ev) (Z : Nat → List ByteArray) (w : World) (hn : n ≤ 40) (hF : Few w A n E Z) (hs : ∀ j, j < n → (E j).lA ≤ 110) (hno : ∀ j, j < n → (E j).kd ≠ 4) :
    Calls Try.prog 3 #[.slice A n c] w fun e w' => e = .returned (.bool true) ∧ Below w.heap.size w w' := by
  have d1 : decide ((40 : Int) < (n : Int)) = false := by simp; omega
  have HF := Lib.hid hF
  have HS := Lib.hid hs
  have HY := Lib.hid (fun (F : Nat) (hF : F = 9 ∨ F = 10) (w' : World) (h : Few w' A n E Z) => of_no F hF c hno h)
  clear hno
  clear hF hs
  go_enter Try.func3, Try.ntmps3
  go_wp2
  go_loopg [3] n (fun gg s3 wr => ∃ kk : Nat, kk ≤ n ∧ n - kk ≤ gg ∧ s3 = .int .i64 kk ∧ w = wr)
  case atStart => exact ⟨0, Nat.zero_le _, by omega, rfl, rfl⟩
  case round =>
    obtain ⟨kk, hkk, hg, rfl, rfl⟩ := hrel
    by_cases hlt : kk < n
    · have hltz : (kk : Int) < (n : Int) := by omega
      obtain ⟨b, off, rfl, hev⟩ := HF.out.evs.at_ hlt
      have ca := hev.alw hlt
      have hq := HS.out kk hlt
      clear hev
      generalize (E kk).aA = aA at ca
      generalize (E kk).lA = lB at ca hq
      generalize (E kk).cA = cA at ca
      have d2 : decide ((110 : Int) < (lB : Int)) = false := by simp; omega
      clear hq
      go_wp2
      go_roundg (n - (kk + 1))
      case measure => omega
      case rel => exact ⟨kk + 1, by omega, by omega, by go_num, rfl⟩
    · have hltz : ¬ (kk : Int) < (n : Int) := by omega
      have : kk = n := by omega
      subst this
      go_wp2_with (first
        | (go_at_call 9; (with_reducible refine (HY.out 9 (.inl rfl) w HF.out).mono ?_); rintro e w1 ⟨rfl, k1⟩; have C1 := Lib.hid k1; clear k1)
        | (go_at_call 10; (with_reducible refine (HY.out 10 (.inr rfl) _ (HF.out.below C1.out)).mono ?_); rintro e w2 ⟨rfl, k2⟩; have C2 := Lib.hid (C1.out.trans (k2.mono C1.out.size)); clear k2)
        | (go_at_call 11; (with_reducible refine (same_yes none none 0 0 0 [] w2 ⟨rfl, by omega, .inl rfl⟩ ⟨rfl, by omega, .inl rfl⟩).mono ?_); rintro e w3 ⟨rfl, hb3⟩; have C3 := Lib.hid (C2.out.trans (hb3.mono C2.out.size)); clear hb3))
      go_loopg [51] 0 (fun gg s51 wr => s51 = .int .i64 (0 : Nat) ∧ w3 = wr)
      case atStart => exact ⟨rfl, rfl⟩
      case round =>
        obtain ⟨rfl, rfl⟩ := hrel
        go_wp2_with (first
          | (go_at_call 9; (with_reducible refine (HY.out 9 (.inl rfl) _ (HF.out.below C3.out)).mono ?_); rintro e w4 ⟨rfl, k4⟩; have C4 := Lib.hid (C3.out.trans (k4.mono C3.out.size)); clear k4)
          | (go_at_call 11; (with_reducible refine (same_yes none none 0 0 0 [] w4 ⟨rfl, by omega, .inl rfl⟩ ⟨rfl, by omega, .inl rfl⟩).mono ?_); rintro e w5 ⟨rfl, hb5⟩; have C5 := Lib.hid (C4.out.trans (hb5.mono C4.out.size)); clear hb5)
          | (go_at_call 8; refine (lives_any _).mono ?_; rintro e w6 ⟨rfl, hb6⟩; have C6 := Lib.hid (C5.out.trans (hb6.mono C5.out.size)); clear hb6))
        go_ret
        exact ⟨rfl, C6.out⟩

end Go.Proofs.Ytmgjmcpkoaacjaa
