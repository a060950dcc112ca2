/- The walk of LevelsOf. -/
import Derived.Test.YthhmbcelicfopaaN13
import Derived.Test.YthhmbcelicfopaaEO2
namespace Go.Proofs.Ythhmbcelicfopaa
open Go.RowKit
set_option linter.unusedVariables false
theorem of_many (A : Option Addr) (n c : Nat) (w : World) (hn : 30 < n) :
    Calls Try.prog 4 #[.slice A n c] w fun e' w' => e' = .returned (.bool true) ∧ Below w.heap.size w w' := by
  have d1 : decide ((30 : Int) < (n : Int)) = true := by simp; omega
  clear hn
  go_enter Try.func4, Try.ntmps4
  go_wp2_with (go_at_call 10; refine (awake10 _).mono ?_; rintro e w1 ⟨rfl, hb1⟩)
  go_ret
  exact ⟨rfl, hb1⟩
set_option maxHeartbeats 8000000 in
theorem of_walk (A : Option Addr) (n c : Nat) (E : Nat → Ev) (LV : Nat → Lvl) (w : World) (hn : n ≤ 30) (hE : EvsA w A n E) (hV : Leveled w n E LV) :
    Calls Try.prog 4 #[.slice A n c] w fun e' w' => e' = .returned (.bool true) ∧ Below w.heap.size w w' := by
  have d1 : decide ((30 : Int) < (n : Int)) = false := by simp; omega
  obtain ⟨s, hs⟩ := creator_ex E n
  obtain ⟨L, hL⟩ := levels_ex E LV n s
  have HE := Lib.hid hE
  have HV := Lib.hid hV
  have Hs := Lib.hid hs
  have HL := Lib.hid hL
  have qs : (s.toList == s.toList) = true := beq_self_eq_true _
  clear hE hV hs hL
  go_enter Try.func4, Try.ntmps4
  go_wp2
  go_loopg [3] n (fun gg s3 wr => ∃ kk : Nat, kk ≤ n ∧ n - kk ≤ gg ∧ s3 = .int .i64 kk ∧ Hid (Below w.heap.size w wr) ∧ Hid (∀ j, j < kk → isGreat (LV j).nU (LV j).nK = false))
  case atStart => exact ⟨0, Nat.zero_le _, by omega, rfl, Lib.hid (Below.refl _ w), Lib.hid (fun j hj => absurd hj (Nat.not_lt_zero _))⟩
  case round =>
    obtain ⟨kk, hkk, hg, rfl, BW, S⟩ := hrel
    by_cases hlt : kk < n
    · have hltz : (kk : Int) < (n : Int) := by omega
      obtain ⟨b, off, rfl, hev⟩ := (HE.out.below BW.out).at_ hlt
      obtain ⟨uA, uC, kA, kC, hcs, RU, RK⟩ := HV.out kk hlt
      have HR := Lib.hid (show World.rangeAt wr b (off + kk * 29 + 10 + 7) (lvc uA (LV kk).nU uC kA (LV kk).nK kC (LV kk).d (LV kk).x3 (LV kk).x4 (LV kk).x5 (LV kk).x6 (LV kk).x7 (LV kk).x8) by rw [← hcs]; exact hev.lvr hlt)
      have HG := Lib.hid (fun w => great9 uA (LV kk).nU uC kA (LV kk).nK kC (LV kk).d (LV kk).x3 (LV kk).x4 (LV kk).x5 (LV kk).x6 (LV kk).x7 (LV kk).x8 w)
      clear hcs RU RK hev
      cases gg0 : isGreat (LV kk).nU (LV kk).nK with
      | true =>
        rw [gg0] at HG
        go_wp2_with (first
          | (refine wpList_load_mid rfl 25 _ rfl b (off + kk * 29 + 10 + 7) rfl (lvc uA (LV kk).nU uC kA (LV kk).nK kC (LV kk).d (LV kk).x3 (LV kk).x4 (LV kk).x5 (LV kk).x6 (LV kk).x7 (LV kk).x8) _ HR.out Try.underlying25 rfl size28 ?_)
          | (go_at_call 9; with_reducible refine (HG.out _).mono ?_; rintro e0 w2 ⟨rfl, hb0⟩; have HB0 := Lib.hid (BW.out.trans (hb0.mono BW.out.size)); clear hb0)
          | (go_at_call 10; refine (awake10 _).mono ?_; rintro e0 w3 ⟨rfl, hb0⟩; have HB1 := Lib.hid (HB0.out.trans (hb0.mono HB0.out.size)); clear hb0))
        go_ret
        exact ⟨rfl, HB1.out⟩
      | false =>
        rw [gg0] at HG
        have HF := Lib.hid gg0
        go_wp2_with (first
          | (refine wpList_load_mid rfl 25 _ rfl b (off + kk * 29 + 10 + 7) rfl (lvc uA (LV kk).nU uC kA (LV kk).nK kC (LV kk).d (LV kk).x3 (LV kk).x4 (LV kk).x5 (LV kk).x6 (LV kk).x7 (LV kk).x8) _ HR.out Try.underlying25 rfl size28 ?_)
          | (go_at_call 9; with_reducible refine (HG.out _).mono ?_; rintro e0 w2 ⟨rfl, hb0⟩; have HB0 := Lib.hid (BW.out.trans (hb0.mono BW.out.size)); clear hb0))
        go_roundg (n - (kk + 1))
        case measure => omega
        case rel =>
          refine ⟨kk + 1, by omega, by omega, by go_num, HB0, Lib.hid (fun j hj => ?_)⟩
          by_cases e : j = kk
          · subst e; exact HF.out
          · exact S.out j (by omega)
    · have hltz : ¬ (kk : Int) < (n : Int) := by omega
      obtain rfl : n = kk := by omega
      have HBd := Lib.hid (show Bounded n LV from fun j hj => by
        have h := S.out j hj
        unfold isGreat at h
        simp at h
        omega)
      go_wp2_with (first
        | (go_at_call 18; refine (of19 c (HE.out.below BW.out) (HV.out.below BW.out) HBd.out Hs.out HL.out).mono ?_; rintro e0 w5 ⟨cs5, rfl, ⟨uA5, uC5, kA5, kC5, rfl, hU5, hK5⟩, hb5⟩; have HU5 := Lib.hid hU5; have HK5 := Lib.hid hK5; have HB5 := Lib.hid (BW.out.trans (hb5.mono BW.out.size)); have HT5 := Lib.hid (blk_new w5 (lvc uA5 L.nU uC5 kA5 L.nK kC5 L.d L.x3 L.x4 L.x5 L.x6 L.x7 L.x8) 25); have HA5 := Lib.hid (Below.alloc (Below.refl w5.heap.size w5) (Nat.le_refl _) (.cells (lvc uA5 L.nU uC5 kA5 L.nK kC5 L.d L.x3 L.x4 L.x5 L.x6 L.x7 L.x8).toArray 25)); clear hU5 hK5 hb5)
        | (go_at_call 19; refine (rof22 c (by omega) ((HE.out.below HB5.out).below HA5.out) ((HV.out.below HB5.out).below HA5.out) Hs.out HL.out).mono ?_; rintro e0 w6 ⟨cs6, rfl, ⟨uA6, uC6, kA6, kC6, rfl, hU6, hK6⟩, hb6⟩; have HA6 := Lib.hid (Below.alloc (Below.refl w6.heap.size w6) (Nat.le_refl _) (.cells (lvc uA6 L.nU uC6 kA6 L.nK kC6 L.d L.x3 L.x4 L.x5 L.x6 L.x7 L.x8).toArray 25)); have HU6 := Lib.hid (hU6.below HA6.out); have HK6 := Lib.hid (hK6.below HA6.out); have HU7 := Lib.hid (((HU5.out.below HA5.out).below hb6).below HA6.out); have HK7 := Lib.hid (((HK5.out.below HA5.out).below hb6).below HA6.out); have HB5a := Lib.hid (HB5.out.trans (HA5.out.mono HB5.out.size)); have HB6 := Lib.hid (HB5a.out.trans (hb6.mono HB5a.out.size)); have HB6a := Lib.hid (HB6.out.trans (HA6.out.mono HB6.out.size)); have T4 := HT5.out.below hb6; have T4a := T4.alloc (.cells (lvc uA6 L.nU uC6 kA6 L.nK kC6 L.d L.x3 L.x4 L.x5 L.x6 L.x7 L.x8).toArray 25); have k0 := T4.cell (i := 0) rfl; have k1 := T4.cell (i := 1) rfl; have k2 := T4.cell (i := 2) rfl; have k3 := T4.cell (i := 3) rfl; have k4 := T4.cell (i := 4) rfl; have k5 := T4.cell (i := 5) rfl; have k6 := T4.cell (i := 6) rfl; have k7 := T4.cell (i := 7) rfl; have k8 := T4.cell (i := 8) rfl; have m0 := T4a.cell (i := 0) rfl; have m1 := T4a.cell (i := 1) rfl; have m2 := T4a.cell (i := 2) rfl; have m3 := T4a.cell (i := 3) rfl; have m4 := T4a.cell (i := 4) rfl; have m5 := T4a.cell (i := 5) rfl; have m6 := T4a.cell (i := 6) rfl; have m7 := T4a.cell (i := 7) rfl; have m8 := T4a.cell (i := 8) rfl; clear T4 T4a hU6 hK6 hb6)
        | (go_at_call 15; with_reducible refine (same15_refl uA5 uA6 uC5 uC6 kA5 kA6 kC5 kC6 L _ HU7.out HU6.out HK7.out HK6.out).mono ?_; rintro e0 w7 ⟨rfl, hb0⟩; have HB7 := Lib.hid (HB6a.out.trans (hb0.mono HB6a.out.size)); clear hb0)
        | (go_at_call 10; refine (awake10 _).mono ?_; rintro e0 w3 ⟨rfl, hb0⟩; have HB8 := Lib.hid (HB7.out.trans (hb0.mono HB7.out.size)); clear hb0))
      go_ret
      exact ⟨rfl, HB8.out⟩
end Go.Proofs.Ythhmbcelicfopaa
