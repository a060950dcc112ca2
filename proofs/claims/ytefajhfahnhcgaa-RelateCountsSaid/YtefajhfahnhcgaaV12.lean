/- Relations: the reference's Valid. Bound: at most 900000 events. -/
import Derived.Test.YtefajhfahnhcgaaV11
namespace Go.Proofs.Ytefajhfahnhcgaa
open Go Go.RowKit
set_option linter.unusedVariables false
set_option linter.unusedSimpArgs false

/-- Another event of the same sender, with the same text. -/
def dq (y x : Me) : Bool := decide (x.id ≠ y.id) && decide (x.sd.toList = y.sd.toList) && decide (x.tx.toList = y.tx.toList)
theorem any_dup {E : Nat → Me} {y : Me} (h : relK y = 4) : ∀ is : List Nat, (is.filter (isR E 4 (relI y))).any (fun i => dq y (E i)) = is.any (fun i => dup (E i) y)
  | [] => rfl
  | i :: r => by
    have ih := any_dup (E := E) h r
    have hd : dup (E i) y = (isR E 4 (relI y) i && dq y (E i)) := by
      unfold dup isR dq
      rw [h]
      cases decide ((E i).id ≠ y.id) <;> cases decide (relK (E i) = 4) <;> cases decide (relI (E i) = relI y) <;> simp
    rw [List.filter_cons, List.any_cons, hd]
    cases hi : isR E 4 (relI y) i with
    | true => rw [if_pos rfl, List.any_cons, ih, Bool.true_and]
    | false => rw [if_neg (by decide), ih]; rfl
theorem any_idx {os : List Nat} {p : Nat → Bool} {k : Nat} (hk : k < os.length) (h : p (os.getD k 0) = true) : os.any p = true := List.any_eq_true.2 ⟨_, getD_mem hk, h⟩
theorem any_none {os : List Nat} {p : Nat → Bool} (h : ∀ k, k < os.length → p (os.getD k 0) = false) : os.any p = false := by
  rw [List.any_eq_false]
  intro x hx
  obtain ⟨j, hj, rfl⟩ := List.getElem_of_mem hx
  have := h j hj
  rw [List.getD_eq_getElem?_getD, List.getElem?_eq_getElem hj] at this
  rw [show p os[j] = false from this]; decide
set_option maxRecDepth 100000 in
set_option maxHeartbeats 16000000 in
theorem rvalid23 (A : Option Addr) (n c : Nat) (E : Nat → Me) (y : Me) (w : World) (h : Evm w A n E) (hc : n ≤ c) (hf : Fits y) (hn : n ≤ 900000) : Calls Try.prog 23 #[.slice A n c, .agg y.cs.toArray] w fun r w' => r = .returned (.int .i64 (valM E n y)) ∧ Below w.heap.size w w' := by
  have BA := Lib.hid ((Below.refl w.heap.size w).alloc (Nat.le_refl _) (.cells y.cs.toArray 34))
  have HAy := Lib.hid (at_box w y hf)
  have HR := Lib.hid (fun u => rof11 y hf u)
  have HP := Lib.hid (fun z u (hb : Below w.heap.size w u) => related33 A n c 4 z E u (h.below hb) hc hn)
  have HG := Lib.hid (fun z u (hb : Below w.heap.size w u) => rget25 A n c z E u (h.below hb))
  have HV := Lib.hid (show valM E n y = if relK y = 0 then 0 else match gt E n (relI y) with
    | none => 5
    | some t => if ¬ (E t).kd = 11 then 1 else if relK y = 2 ∧ relK (E t) = 2 then 1 else if relK y = 3 ∧ ¬ y.sd.toList = (E t).sd.toList then 18 else if relK y = 4 ∧ (onc E n).any (fun i => dup (E i) y) = true then 4 else 0 from rfl)
  have HTt := Lib.hid (fun t (h1 : gt E n (relI y) = some t) => (gt_lt h1).1)
  have HAd := Lib.hid (fun h1 => any_dup (E := E) (y := y) h1 (onc E n))
  have H := Lib.hid h
  unfold EvsP at HP
  generalize valM E n y = vm at HV ⊢
  generalize relK y = rk at HR HV HAd
  generalize relI y = ri at HR HV HTt HAd
  have HRg := Lib.hid HAy.out.rng
  clear h
  go_enter Try.func23, Try.ntmps23
  go_upto_region 2 with (first
    | (refine wpList_load_mid rfl 34 _ rfl w.heap.size 0 rfl y.cs _ HRg.out Try.underlying34 rfl (size34l hf.len) ?_)
    | (go_at_call 11; (with_reducible refine (HR.out _).mono ?_); rintro r w1 ⟨rfl, hb⟩; have B1 := Lib.hid (BA.out.trans (hb.mono BA.out.size)); have Y1 := Lib.hid (HAy.out.below hb); clear hb)
    | fail)
  by_cases c0 : rk = 0
  · subst c0
    have HVz := Lib.hid (HV.out.trans (if_pos rfl))
    clear HV HTt HAd
    go_wp2
    go_ret
    exact ⟨ret_i HVz.out.symm, B1.out⟩
  · have z0 : (rk == 0) = false := beq_eq_false_iff_ne.2 c0
    have HV1 := Lib.hid (HV.out.trans (if_neg c0))
    have HG1 := Lib.hid (HG.out ri w1 B1.out)
    clear HV
    cases hg : gt E n ri with
    | none =>
      rw [hg] at HG1 HV1
      clear hg HTt
      go_wp2_with (first
        | (go_at_call 25; (with_reducible refine HG1.out.mono ?_); rintro r w2 ⟨rfl, hb⟩; have B2 := Lib.hid (B1.out.trans (hb.mono B1.out.size)); clear hb)
        | (refine store_mid_as rfl 34 _ _ rfl w2.heap.size 0 (gtE E none).cs.toArray rfl rfl (Blk.there (n := 29) (blk_new w2 zE 34) (by decide)) (size34a fits0.len) (all_arr fits0.one) ?_; intro w4 hw4; have B4 := Lib.hid (show Below w.heap.size w w4 by rw [hw4]; exact below_setRow (B2.out.alloc B2.out.size _) B2.out.size _ _); clear hw4)
        | go_in)
      go_ret
      exact ⟨ret_i HV1.out.symm, B4.out⟩
    | some t =>
      have htn := HTt.out t hg
      have HFt := Lib.hid (H.out.fit t htn)
      rw [hg, show gtE E (some t) = E t from rfl] at HG1
      rw [hg] at HV1
      clear hg HTt
      have HRt := Lib.hid (fun u => rof11 (E t) HFt.out u)
      have HV2 : Hid (vm = if ¬ (E t).kd = 11 then 1 else if rk = 2 ∧ relK (E t) = 2 then 1 else if rk = 3 ∧ ¬ y.sd.toList = (E t).sd.toList then 18 else if rk = 4 ∧ (onc E n).any (fun i => dup (E i) y) = true then 4 else 0) := Lib.hid HV1.out
      clear HV1
      go_upto_region 7 with (first
        | (go_at_call 25; (with_reducible refine HG1.out.mono ?_); rintro r w2 ⟨rfl, hb⟩; have B2 := Lib.hid (B1.out.trans (hb.mono B1.out.size)); have Y2 := Lib.hid (Y1.out.below hb); clear hb)
        | (refine store_mid_as rfl 34 _ _ rfl w2.heap.size 0 (E t).cs.toArray rfl rfl (Blk.there (n := (E t).cs.toArray.size) (blk_new w2 zE 34) (by rw [List.size_toArray, HFt.out.len]; decide)) (size34a HFt.out.len) (all_arr HFt.out.one) ?_; intro w4 hw4; have X4 := Lib.hid (show Blk w4 w2.heap.size (E t).cs 34 by rw [hw4]; exact blk_alloc_set w2 zE (E t).cs 34 HFt.out.len); have C4 := Lib.hid (show Below w2.heap.size w2 w4 by rw [hw4]; exact below_setRow ((Below.refl _ _).alloc (Nat.le_refl _) _) (Nat.le_refl _) _ _); have B4 := Lib.hid (B2.out.trans (C4.out.mono B2.out.size)); have Y4 := Lib.hid (Y2.out.below C4.out); clear hw4)
        | fail)
      have T4 := Lib.hid (show At w4 w2.heap.size 0 (E t) from ⟨X4.out.lt, X4.out.range, HFt.out⟩)
      generalize w2.heap.size = t7 at X4 T4 C4 ⊢
      clear C4 HG1 HR Y1 Y2 B1
      have HRg4 := Lib.hid T4.out.rng
      go_upto_region 8 with (first
        | (refine wpList_load_mid rfl 34 _ rfl t7 0 rfl (E t).cs _ HRg4.out Try.underlying34 rfl (size34l HFt.out.len) ?_)
        | (go_at_call 11; (with_reducible refine (HRt.out _).mono ?_); rintro r w5 ⟨rfl, hb⟩; have B5 := Lib.hid (B4.out.trans (hb.mono B4.out.size)); have Y5 := Lib.hid (Y4.out.below hb); have T5 := Lib.hid (T4.out.below hb); clear hb)
        | fail)
      have t3 : w5.cell? ⟨t7, 3, none⟩ = some (.int .i64 (E t).kd) := by simpa using T5.out.k3
      have t2 : w5.cell? ⟨t7, 2, none⟩ = some (.string (E t).sd) := by simpa using T5.out.k2
      have y2 : w5.cell? ⟨w.heap.size, 2, none⟩ = some (.string y.sd) := by simpa using Y5.out.k2
      clear B2 B4 Y4 T4 X4 HRg4 HRt HRg HAy BA
      generalize (E t).kd = kd at t3 HV2
      generalize (E t).sd = ts at t2 HV2
      by_cases c1 : kd = 11
      · have z1 : (kd != 11) = false := by simp [c1]
        have HV3 := Lib.hid (HV2.out.trans (if_neg (fun h => h c1)))
        clear HV2
        by_cases c2 : rk = 2
        · have z2 : (rk == 2) = true := beq_iff_eq.2 c2
          by_cases c3 : relK (E t) = 2
          · have z3 : (relK (E t) == 2) = true := beq_iff_eq.2 c3
            have HVz := Lib.hid (HV3.out.trans (if_pos ⟨c2, c3⟩))
            clear HV3
            go_wp2
            go_ret
            exact ⟨ret_i HVz.out.symm, B5.out⟩
          · have z3 : (relK (E t) == 2) = false := beq_eq_false_iff_ne.2 c3
            have HVz := Lib.hid (HV3.out.trans ((if_neg (fun h => c3 h.2)).trans ((if_neg (fun h => by rw [c2] at h; exact absurd h.1 (by decide))).trans (if_neg (fun h => by rw [c2] at h; exact absurd h.1 (by decide))))))
            clear HV3
            subst c2
            go_wp2
            go_ret
            exact ⟨ret_i HVz.out.symm, B5.out⟩
        · have z2 : (rk == 2) = false := beq_eq_false_iff_ne.2 c2
          have HV4 := Lib.hid (HV3.out.trans (if_neg (fun h => c2 h.1)))
          clear HV3
          by_cases c4 : rk = 3
          · subst c4
            by_cases c5 : y.sd.toList = ts.toList
            · have z5 : (y.sd.toList == ts.toList) = true := beq_iff_eq.2 c5
              have z6 : (y.sd.toList != ts.toList) = false := by simp [c5]
              have HVz := Lib.hid (HV4.out.trans ((if_neg (fun h => h.2 c5)).trans (if_neg (fun h => absurd h.1 (by decide)))))
              clear HV4
              go_wp2
              go_ret
              exact ⟨ret_i HVz.out.symm, B5.out⟩
            · have z5 : (y.sd.toList == ts.toList) = false := beq_eq_false_iff_ne.2 c5
              have z6 : (y.sd.toList != ts.toList) = true := by simp [c5]
              have HVz := Lib.hid (HV4.out.trans (if_pos ⟨rfl, c5⟩))
              clear HV4
              go_wp2
              go_ret
              exact ⟨ret_i HVz.out.symm, B5.out⟩
          · have z4 : (rk == 3) = false := beq_eq_false_iff_ne.2 c4
            have HV5 := Lib.hid (HV4.out.trans (if_neg (fun h => c4 h.1)))
            clear HV4
            by_cases c6 : rk = 4
            · subst c6
              have HP5 := Lib.hid (HP.out ri w5 B5.out)
              have HAq := Lib.hid (HAd.out rfl)
              rw [← HAq.out] at HV5
              have HOL := Lib.hid (Nat.le_trans (List.length_filter_le (isR E 4 ri) (onc E n)) (onc_len E n))
              clear HAd HAq HP HG
              generalize (onc E n).filter (isR E 4 ri) = os at HP5 HV5 HOL
              have hol := HOL.out
              have HYes := Lib.hid (fun k hk h1 => HV5.out.trans (if_pos ⟨rfl, any_idx (os := os) (p := fun i => dq y (E i)) (k := k) hk h1⟩))
              have HNo := Lib.hid (fun h1 => HV5.out.trans (if_neg (fun h2 => by rw [any_none (os := os) (p := fun i => dq y (E i)) h1] at h2; exact absurd h2.2 (by decide))))
              clear HV5
              go_upto_region 14 with (first
                | (go_at_call 33; (with_reducible refine HP5.out.mono ?_); rintro r w6 ⟨A1, c1', rfl, he, hcc, hb⟩; have E6 := Lib.hid he; have Y6 := Lib.hid (Y5.out.below hb); have B6 := Lib.hid (B5.out.trans (hb.mono B5.out.size)); clear he hb)
                | fail)
              clear HP5 Y5 B5 T5 t3 t2 y2
              go_wp2
              go_loopg [12] os.length (fun gg s12 wr => ∃ kk : Nat, kk ≤ os.length ∧ os.length - kk ≤ gg ∧ s12 = .int .i64 (kk : Int) ∧ Hid (∀ j, j < kk → dq y (E (os.getD j 0)) = false) ∧ Hid (Below w6.heap.size w6 wr))
              case atStart => exact ⟨0, Nat.zero_le _, by omega, rfl, Lib.hid (fun j hj => absurd hj (Nat.not_lt_zero _)), Lib.hid (Below.refl _ _)⟩
              case round =>
                obtain ⟨kk, hkk, hgg, rfl, HJ, BX⟩ := hrel
                by_cases hlt : kk < os.length
                · have hltz : (kk : Int) < (os.length : Int) := by omega
                  have hk0 : (0 : Int) ≤ (kk : Int) := by omega
                  obtain ⟨b1, o1, rfl, hat⟩ := (E6.out.below BX.out).get hlt
                  have x0 := hat.k0
                  have x2 := hat.k2
                  have x10 := hat.k10
                  have YX := Lib.hid (Y6.out.below BX.out)
                  have v0 : wr.cell? ⟨w.heap.size, 0, none⟩ = some (.int .i64 y.id) := by simpa using YX.out.k0
                  have v2 : wr.cell? ⟨w.heap.size, 2, none⟩ = some (.string y.sd) := by simpa using YX.out.k2
                  have v10 : wr.cell? ⟨w.heap.size, 10, none⟩ = some (.string y.tx) := by simpa using YX.out.k10
                  have HY := Lib.hid (fun h1 => HYes.out kk hlt h1)
                  have HD := Lib.hid (show dq y (E (os.getD kk 0)) = (decide ((E (os.getD kk 0)).id ≠ y.id) && decide ((E (os.getD kk 0)).sd.toList = y.sd.toList) && decide ((E (os.getD kk 0)).tx.toList = y.tx.toList)) from rfl)
                  have HJ1 := Lib.hid (show dq y (E (os.getD kk 0)) = false → ∀ j, j < kk + 1 → dq y (E (os.getD j 0)) = false from fun h1 j hj => by
                    by_cases e1 : j = kk
                    · subst e1; exact h1
                    · exact HJ.out j (by omega))
                  clear hat YX
                  generalize dq y (E (os.getD kk 0)) = du at HY HD HJ1
                  generalize (E (os.getD kk 0)).id = xi at x0 HD
                  generalize (E (os.getD kk 0)).sd = xs at x2 HD
                  generalize (E (os.getD kk 0)).tx = xt at x10 HD
                  generalize y.id = yi at v0 HD
                  generalize y.sd = ys at v2 HD
                  generalize y.tx = yt at v10 HD
                  by_cases d1 : xi = yi
                  · have z1n : (xi != yi) = false := by simp [d1]
                    have HJ2 := Lib.hid (HJ1.out (by rw [HD.out, decide_eq_false (fun h : xi ≠ yi => h d1)]; rfl))
                    clear HY HD HJ1
                    go_wp2
                    go_quiet (fail)
                    go_wp2
                    go_roundg (os.length - (kk + 1))
                    case measure => omega
                    case rel => exact ⟨kk + 1, by omega, by omega, by go_num, HJ2, Lib.hid (bel_dn BX.out _)⟩
                  · have z1n : (xi != yi) = true := by simp [d1]
                    rw [decide_eq_true (show xi ≠ yi from d1), Bool.true_and] at HD
                    by_cases d2 : xs.toList = ys.toList
                    · have y5 : (xs.toList == ys.toList) = true := beq_iff_eq.2 d2
                      rw [decide_eq_true d2, Bool.true_and] at HD
                      by_cases d3 : xt.toList = yt.toList
                      · have y6 : (xt.toList == yt.toList) = true := beq_iff_eq.2 d3
                        have HVz := Lib.hid (HY.out (HD.out.trans (decide_eq_true d3)))
                        clear HY HD HJ1
                        go_wp2
                        go_quiet (fail)
                        go_wp2
                        go_ret
                        exact ⟨ret_i HVz.out.symm, bel_dn (B6.out.trans (BX.out.mono B6.out.size)) _⟩
                      · have y6 : (xt.toList == yt.toList) = false := beq_eq_false_iff_ne.2 d3
                        have HJ2 := Lib.hid (HJ1.out (HD.out.trans (decide_eq_false d3)))
                        clear HY HD HJ1
                        go_wp2
                        go_quiet (fail)
                        go_wp2
                        go_roundg (os.length - (kk + 1))
                        case measure => omega
                        case rel => exact ⟨kk + 1, by omega, by omega, by go_num, HJ2, Lib.hid (bel_dn BX.out _)⟩
                    · have y5 : (xs.toList == ys.toList) = false := beq_eq_false_iff_ne.2 d2
                      have HJ2 := Lib.hid (HJ1.out (by rw [HD.out, decide_eq_false d2]; rfl))
                      clear HY HD HJ1
                      go_wp2
                      go_quiet (fail)
                      go_wp2
                      go_roundg (os.length - (kk + 1))
                      case measure => omega
                      case rel => exact ⟨kk + 1, by omega, by omega, by go_num, HJ2, Lib.hid (bel_dn BX.out _)⟩
                · have hltz : ¬ (kk : Int) < (os.length : Int) := by omega
                  obtain rfl : kk = os.length := by omega
                  have HVz := Lib.hid (HNo.out (fun j hj => HJ.out j hj))
                  go_wp2
                  go_ret
                  exact ⟨ret_i HVz.out.symm, B6.out.trans (BX.out.mono B6.out.size)⟩
            · have z6 : (rk == 4) = false := beq_eq_false_iff_ne.2 c6
              have HVz := Lib.hid (HV5.out.trans (if_neg (fun h => c6 h.1)))
              clear HV5
              go_wp2
              go_ret
              exact ⟨ret_i HVz.out.symm, B5.out⟩
      · have z1 : (kd != 11) = true := by simp [c1]
        have HVz := Lib.hid (HV2.out.trans (if_pos c1))
        clear HV2
        go_wp2
        go_ret
        exact ⟨ret_i HVz.out.symm, B5.out⟩
end Go.Proofs.Ytefajhfahnhcgaa
