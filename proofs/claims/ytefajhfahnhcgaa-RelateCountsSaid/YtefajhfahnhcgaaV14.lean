/- Relations: the reference's Threads. Bound: at most 900000 events. -/
import Derived.Test.YtefajhfahnhcgaaV13
namespace Go.Proofs.Ytefajhfahnhcgaa
open Go Go.RowKit
set_option linter.unusedVariables false
set_option linter.unusedSimpArgs false

set_option maxRecDepth 100000 in
set_option maxHeartbeats 8000000 in
theorem rthreads21 (A : Option Addr) (n c : Nat) (E : Nat → Me) (w : World) (h : Evm w A n E) (hc : n ≤ c) (hn : n ≤ 900000) : Calls Try.prog 21 #[.slice A n c] w (Q.IntsP w (Q.M.st (thr E (onc E n)))) := by
  have HO1 := Lib.hid (ronce37 A n c E w h hc hn)
  have HOL := Lib.hid (onc_len E n)
  unfold EvsP at HO1
  unfold Q.IntsP
  generalize onc E n = is at HO1 HOL ⊢
  have hol := HOL.out
  clear h hc
  go_enter Try.func21, Try.ntmps21
  go_upto_region 3 with (first
    | (go_at_call 37; (with_reducible refine HO1.out.mono ?_); rintro e1 w1 ⟨A1, c1, rfl, hr, hcc, hb⟩; have R1 := Lib.hid hr; have B1 := Lib.hid hb; clear hr hb)
    | fail)
  have BA := Lib.hid (B1.out.alloc B1.out.size (.cells #[] 3))
  have HR := Lib.hid (R1.out.below ((Below.refl _ _).alloc (Nat.le_refl _) (.cells #[] 3)))
  have HN0 := Lib.hid (show Q.Ints (w1.alloc (.cells #[] 3)) (some ⟨w1.heap.size, 0, none⟩) 0 0 [] from Q.own_ints (World.ownsRow_made (base := w1.heap.size) (e := 3) (size := 1) w1 #[] 0 (Nat.le_refl _) (by decide) (by simp)) (by omega))
  clear R1 B1 HO1
  go_wp2
  go_loopg [4, 5, 6, 7] is.length (fun gg s4 s5 _ _ wr => ∃ (kk m : Nat) (A2 : Option Addr) (c2 : Nat) (acc : List Int), kk ≤ is.length ∧ is.length - kk ≤ gg ∧ m ≤ kk ∧ s4 = .slice A2 m c2 ∧ s5 = .int .i64 (kk : Int) ∧ Hid (Q.Ints wr A2 m c2 acc) ∧ Hid (acc = Q.M.puts [] (thr E (is.take kk))) ∧ Hid (Evm wr A1 is.length (fun j => E (is.getD j 0))) ∧ Hid (Below w.heap.size w wr))
  case atStart => exact ⟨0, 0, _, _, [], Nat.zero_le _, by omega, Nat.le_refl _, rfl, rfl, HN0, Lib.hid rfl, HR, BA⟩
  case round =>
    clear HN0 HR BA
    obtain ⟨kk, m, A2, c2, acc, hkk, hg, hm, rfl, rfl, HA, HX, HE, BW⟩ := hrel
    by_cases hlt : kk < is.length
    · have hltz : (kk : Int) < (is.length : Int) := by omega
      have hk0 : (0 : Int) ≤ (kk : Int) := by omega
      obtain ⟨b1, o1, rfl, hat⟩ := HE.out.get hlt
      have HY := Lib.hid (fun h1 => thr_yes (E := E) hlt h1)
      have HN := Lib.hid (fun h1 => thr_no (E := E) hlt h1)
      have HQ := Lib.hid (show isT E (is.getD kk 0) = decide (relK (E (is.getD kk 0)) = 2) from rfl)
      have HRg := Lib.hid hat.rng
      have HFt := Lib.hid hat.fit
      have HOf := Lib.hid (fun u => rof11 (E (is.getD kk 0)) hat.fit u)
      clear hat
      generalize isT E (is.getD kk 0) = tt at HY HN HQ
      generalize relK (E (is.getD kk 0)) = rk at HQ HOf
      generalize relI (E (is.getD kk 0)) = ri at HY HOf
      generalize is.getD kk 0 = i at HRg HFt HOf
      by_cases d2 : rk = 2
      · have z2 : (rk == 2) = true := beq_iff_eq.2 d2
        have HT2 := Lib.hid (HY.out (HQ.out.trans (decide_eq_true d2)))
        have HPu := Lib.hid (fun v (hb : Below wr.heap.size wr v) => Q.put_any A2 m c2 acc ri v (HA.out.below hb) (by omega))
        have HLP := Lib.hid (Q.M.len_put acc ri)
        have HML := Lib.hid HA.out.len
        unfold Q.IntsP at HPu
        clear HY HN HQ
        go_wp2_with (first
          | (refine wpList_load_mid rfl 34 _ rfl b1 (o1 + kk * 29) rfl (E i).cs _ HRg.out Try.underlying34 rfl (size34l HFt.out.len) ?_)
          | (go_at_call 11; (with_reducible refine (HOf.out _).mono ?_); rintro e1 w2 ⟨rfl, hb⟩; have C2 := Lib.hid hb; clear hb)
          | (go_at_call 38; (with_reducible refine (HPu.out _ C2.out).mono ?_); rintro e1 w3 ⟨A3, c3, rfl, hi3, hb⟩; have HI3 := Lib.hid hi3; have C3 := Lib.hid (C2.out.trans (hb.mono C2.out.size)); clear hi3 hb)
          | go_in)
        go_roundg (is.length - (kk + 1))
        case measure => omega
        case rel => exact ⟨kk + 1, _, A3, c3, _, by omega, by omega, by have := HLP.out; have := HML.out; omega, rfl, by go_num, HI3, Lib.hid (by rw [HT2.out, Q.M.puts_snoc, ← HX.out]), Lib.hid (HE.out.below C3.out), Lib.hid (BW.out.trans (C3.out.mono BW.out.size))⟩
      · have z2 : (rk == 2) = false := beq_eq_false_iff_ne.2 d2
        have HT2 := Lib.hid (HN.out (HQ.out.trans (decide_eq_false d2)))
        clear HY HN HQ
        go_wp2_with (first
          | (refine wpList_load_mid rfl 34 _ rfl b1 (o1 + kk * 29) rfl (E i).cs _ HRg.out Try.underlying34 rfl (size34l HFt.out.len) ?_)
          | (go_at_call 11; (with_reducible refine (HOf.out _).mono ?_); rintro e1 w2 ⟨rfl, hb⟩; have C2 := Lib.hid hb; clear hb)
          | go_in)
        go_roundg (is.length - (kk + 1))
        case measure => omega
        case rel => exact ⟨kk + 1, m, A2, c2, acc, by omega, by omega, by omega, rfl, by go_num, Lib.hid (HA.out.below C2.out), Lib.hid (by rw [HT2.out]; exact HX.out), Lib.hid (HE.out.below C2.out), Lib.hid (BW.out.trans (C2.out.mono BW.out.size))⟩
    · have hltz : ¬ (kk : Int) < (is.length : Int) := by omega
      obtain rfl : kk = is.length := by omega
      rw [List.take_length, Q.M.puts_st] at HX
      have hl := HA.out.len
      subst hl
      go_wp2
      go_ret
      rw [← HX.out]
      exact ⟨A2, c2, rfl, HA.out, BW.out⟩
end Go.Proofs.Ytefajhfahnhcgaa
