/- Relations: the helper lives returns true. No condition. -/
import Derived.Test.YtefajhfahnhcgaaV24
import Derived.Test.YtefajhfahnhcgaaV11
import Derived.Test.YtefajhfahnhcgaaQL8
import Derived.Great.BuildSlice
namespace Go.Proofs.Ytefajhfahnhcgaa
open Go Go.RowKit
set_option linter.unusedVariables false
set_option linter.unusedSimpArgs false

abbrev ctA : List Value := [.string ⟨#[43]⟩, .int .i64 0, .int .i64 1, .bool false, .string ⟨#[]⟩, .slice none 0 0, .slice none 0 0, .slice none 0 0, .slice none 0 0, .int .i64 0, .int .i64 0, .int .i64 0, .int .i64 0, .int .i64 0, .int .i64 0, .int .i64 0]
abbrev ctB : List Value := [.string ⟨#[43]⟩, .int .i64 0, .int .i64 2, .bool false, .string ⟨#[]⟩, .slice none 0 0, .slice none 0 0, .slice none 0 0, .slice none 0 0, .int .i64 0, .int .i64 0, .int .i64 0, .int .i64 0, .int .i64 0, .int .i64 0, .int .i64 0]
theorem bcA : Try.prog.built 30 [(0, .string ⟨#[43]⟩), (2, .int .i64 1)] = some ctA.toArray := by kernel_rfl
theorem bcB : Try.prog.built 30 [(0, .string ⟨#[43]⟩), (2, .int .i64 2)] = some ctB.toArray := by kernel_rfl
theorem beA : Try.prog.built 34 [(0, .int .i64 9), (2, .string ⟨#[64, 98, 58, 115]⟩), (3, .int .i64 12), (10, .agg ctA.toArray)] = some aC.toArray := by kernel_rfl
theorem beB : Try.prog.built 34 [(0, .int .i64 9), (2, .string ⟨#[64, 98, 58, 115]⟩), (3, .int .i64 12), (10, .agg ctB.toArray)] = some bC.toArray := by kernel_rfl
theorem aC_one : ∀ u ∈ aC, u.oneCell' = true := one_by (by kernel_rfl)
theorem bC_one : ∀ u ∈ bC, u.oneCell' = true := one_by (by kernel_rfl)
theorem fitA : Fits eA := ⟨rfl, rfl, rfl, rfl, rfl, rfl, rfl, rfl, aC_one, by unfold i64B; decide, by unfold i64B; decide, by unfold i64B; decide, by unfold i64B; decide, by unfold maxLen; decide, by unfold maxLen; decide⟩
theorem fitW : Fits eW := ⟨rfl, rfl, rfl, rfl, rfl, rfl, rfl, rfl, bC_one, by unfold i64B; decide, by unfold i64B; decide, by unfold i64B; decide, by unfold i64B; decide, by unfold maxLen; decide, by unfold maxLen; decide⟩
theorem sum_s (b : Nat) (u : World) (h : Evm u (some ⟨b, 0, none⟩) 6 SE) : Calls Try.prog 15 #[.slice (some ⟨b, 0, none⟩) 6 6, .int .i64 1] u fun r w' => ∃ A' c', r = .returned (.agg #[.int .i64 2, .slice A' 1 c', .int .i64 1, .int .i64 6]) ∧ Cn.Rcs w' A' 1 c' [⟨⟨#[43]⟩, 2⟩] ∧ Below u.heap.size u w' := by
  have := sum15 (some ⟨b, 0, none⟩) 6 6 b 0 SE 1 u h (fun _ => rfl) (by omega)
  rw [s_gt] at this
  unfold SumP at this
  simp only at this
  rw [s_ed, s_th, s_la, s_re] at this
  exact this
theorem show_s (b : Nat) (u : World) (h : Evm u (some ⟨b, 0, none⟩) 6 SE) : Calls Try.prog 17 #[.slice (some ⟨b, 0, none⟩) 6 6, .int .i64 1] u fun r w' => r = .returned (.tuple #[.string ⟨#[116, 119, 111]⟩, .int .i64 0]) ∧ Below u.heap.size u w' := by
  have := show17 (some ⟨b, 0, none⟩) 6 6 b 0 SE 1 u h (fun _ => rfl) (by omega)
  rw [s_tx, s_er] at this
  exact this
theorem of_s (u : World) : Calls Try.prog 10 #[.agg cS5.toArray] u fun r w' => r = .returned (.tuple #[.int .i64 2, .int .i64 1]) ∧ Below u.heap.size u w' := by
  have := of10 (SE 5) (SE_fits 5) u
  rw [s_rk.1, s_rk.2] at this
  exact this
theorem va_s (b : Nat) (u : World) (h : Evm u (some ⟨b, 0, none⟩) 6 SE) : Calls Try.prog 22 #[.slice (some ⟨b, 0, none⟩) 6 6, .agg aC.toArray] u fun r w' => r = .returned (.int .i64 4) ∧ Below u.heap.size u w' := by
  have := valid22 (some ⟨b, 0, none⟩) 6 6 b 0 SE eA u h (fun _ => rfl) fitA (by omega)
  rw [s_va] at this
  exact this
theorem vw_s (b : Nat) (u : World) (h : Evm u (some ⟨b, 0, none⟩) 6 SE) : Calls Try.prog 22 #[.slice (some ⟨b, 0, none⟩) 6 6, .agg bC.toArray] u fun r w' => r = .returned (.int .i64 1) ∧ Below u.heap.size u w' := by
  have := valid22 (some ⟨b, 0, none⟩) 6 6 b 0 SE eW u h (fun _ => rfl) fitW (by omega)
  rw [s_vw] at this
  exact this
theorem st_one : Q.M.st [1] = [1] := (Q.M.puts_st _).symm.trans (by kernel_rfl)
theorem thr_s (b : Nat) (u : World) (h : Evm u (some ⟨b, 0, none⟩) 6 SE) : Calls Try.prog 20 #[.slice (some ⟨b, 0, none⟩) 6 6] u fun r w' => ∃ A c, r = .returned (.slice A 1 c) ∧ Q.Ints w' A 1 c [1] ∧ Below u.heap.size u w' := by
  have := threads20 (some ⟨b, 0, none⟩) 6 6 b 0 SE u h (fun _ => rfl) (by omega)
  rw [s_thr, st_one] at this
  exact this
theorem one23 (w : World) : Q.Ints (w.alloc (.cells #[.int .i64 1] 3)) (some ⟨w.heap.size, 0, none⟩) 1 1 [1] := by
  refine ⟨rfl, Nat.le_refl _, by omega, (fun e => by cases e), .inr ⟨w.heap.size, 0, rfl, by simp, fun i hi => ?_⟩⟩
  obtain rfl : i = 0 := by omega
  exact (blk_new w [.int .i64 1] 3).cell (i := 0) rfl
theorem new_event (w : World) (cs : List Value) (h : cs.length = 29) : ∃ w1, (w.alloc (.cells zE.toArray 34)).setCells w.heap.size 0 cs.toArray.toList = w1 ∧ Blk w1 w.heap.size cs 34 ∧ Below w.heap.size w w1 :=
  ⟨_, rfl, by rw [List.toList_toArray]; exact (blk_new w zE 34).setAll _ h, below_setAll (Nat.le_refl _) _ _ _ ((Below.refl _ w).alloc (Nat.le_refl _) _)⟩
theorem Evm.at1_ {w : World} {b o n : Nat} {E : Nat → Me} (h : Evm w (some ⟨b, o, none⟩) n E) {j : Nat} (hj : j < n) : At w b (o + j * 29) (E j) := by
  obtain ⟨b', o', e, h1⟩ := h.get hj
  cases e
  exact h1
set_option maxRecDepth 100000 in
set_option maxHeartbeats 16000000 in
theorem lives12 (w : World) : Calls Try.prog 12 #[] w fun r w' => r = .returned (.bool true) ∧ Below w.heap.size w w' := by
  have HS := Lib.hid (sample_ev w)
  have H15 := Lib.hid sum_s
  have H17 := Lib.hid show_s
  have H10 := Lib.hid of_s
  have HVA := Lib.hid va_s
  have HVW := Lib.hid vw_s
  have HTH := Lib.hid thr_s
  go_enter Try.func12, Try.ntmps12
  go_upto_region 2 with (first
    | (go_at_call 27; (with_reducible refine HS.out.mono ?_); rintro r w1 ⟨rfl, he, hb⟩; have E1 := Lib.hid he; have B1 := Lib.hid hb; clear he hb)
    | fail)
  generalize hbs : w.heap.size = bs at E1
  go_upto_region 3 with (first
    | (go_at_call 15; (with_reducible refine (H15.out bs w1 E1.out).mono ?_); rintro r w2 ⟨A3, c3, rfl, hr, hb⟩; obtain ⟨b3, o3, rfl, hl3, hr3, _⟩ := hr.get (show 0 < 1 by omega); have p0 := Lib.hid (fun u (hu : Below w2.heap.size w2 u) => (hu.cell (p := ⟨b3, o3 + 0 * 2 + 0, none⟩) hl3).trans (hr3 0 _ rfl)); have p1 := Lib.hid (fun u (hu : Below w2.heap.size w2 u) => (hu.cell (p := ⟨b3, o3 + 0 * 2 + 1, none⟩) hl3).trans (hr3 1 _ rfl)); have E2 := Lib.hid (E1.out.below hb); have B2 := Lib.hid (B1.out.trans (hb.mono B1.out.size)); clear hr hb hr3 hl3)
    | (refine store_mid_as rfl 45 _ _ rfl w2.heap.size 0 (smC 2 (some ⟨b3, o3, none⟩) 1 c3 1 6).toArray rfl rfl (Blk.there (n := 4) (blk_new w2 (smC 0 none 0 0 0 0) 45) (by decide)) size45 (by simp [Value.oneCell']) ?_; intro w3 hw3; have XS := Lib.hid (show Blk w3 w2.heap.size (smC 2 (some ⟨b3, o3, none⟩) 1 c3 1 6) 45 by rw [hw3]; exact blk_alloc_set w2 (smC 0 none 0 0 0 0) (smC 2 (some ⟨b3, o3, none⟩) 1 c3 1 6) 45 rfl); have C3 := Lib.hid (show Below w2.heap.size w2 w3 by rw [hw3]; exact below_setRow ((Below.refl _ _).alloc (Nat.le_refl _) _) (Nat.le_refl _) _ _); clear hw3)
    | fail)
  have E3 := Lib.hid (E2.out.below C3.out)
  have B3 := Lib.hid (B2.out.trans (C3.out.mono B2.out.size))
  go_upto_region 4 with (first
    | (go_at_call 17; (with_reducible refine (H17.out bs w3 E3.out).mono ?_); rintro r w4 ⟨rfl, hb⟩; have C4 := Lib.hid (C3.out.trans (hb.mono C3.out.size)); have X4 := Lib.hid (XS.out.below hb); have E4 := Lib.hid (E3.out.below hb); have B4 := Lib.hid (B3.out.trans (hb.mono B3.out.size)); clear hb)
    | fail)
  have HRg := Lib.hid (show World.rangeAt w4 bs 145 cS5 from (E4.out.at1_ (show 5 < 6 by omega)).rng)
  go_upto_region 5 with (first
    | (refine wpList_load_mid rfl 34 _ rfl bs 145 rfl cS5 _ HRg.out Try.underlying34 rfl size34 ?_)
    | (go_at_call 10; (with_reducible refine (H10.out w4).mono ?_); rintro r w5 ⟨rfl, hb⟩; have C5 := Lib.hid (C4.out.trans (hb.mono C4.out.size)); have X5 := Lib.hid (X4.out.below hb); have E5 := Lib.hid (E4.out.below hb); have B5 := Lib.hid (B4.out.trans (hb.mono B4.out.size)); clear hb)
    | fail)
  go_upto_region 6 with (first
    | (refine wpList_buildTo rfl 30 _ rfl (some 24) rfl ctA.toArray bcA ?_)
    | (refine wpList_buildTo rfl 34 _ rfl (some 25) rfl aC.toArray beA ?_)
    | (refine wpList_store_mid rfl 34 _ _ rfl w5.heap.size 0 aC.toArray rfl rfl (Blk.there (n := 29) (blk_new w5 zE 34) (by decide)) size34 (all_arr aC_one) ?_; obtain ⟨w6, hw, hx, hb⟩ := new_event w5 aC rfl; rw [hw]; have XA := Lib.hid hx; have C6 := Lib.hid (C5.out.trans (hb.mono C5.out.size)); have X6 := Lib.hid (X5.out.below hb); have E6 := Lib.hid (E5.out.below hb); have B6 := Lib.hid (B5.out.trans (hb.mono B5.out.size)); clear hw hx hb)
    | fail)
  go_upto_region 7 with (first
    | (refine wpList_buildTo rfl 30 _ rfl (some 26) rfl ctB.toArray bcB ?_)
    | (refine wpList_buildTo rfl 34 _ rfl (some 27) rfl bC.toArray beB ?_)
    | (refine wpList_store_mid rfl 34 _ _ rfl w6.heap.size 0 bC.toArray rfl rfl (Blk.there (n := 29) (blk_new w6 zE 34) (by decide)) size34 (all_arr bC_one) ?_; obtain ⟨w7, hw, hx, hb⟩ := new_event w6 bC rfl; rw [hw]; have XW := Lib.hid hx; have XA7 := Lib.hid (XA.out.below hb); have C7 := Lib.hid (C6.out.trans (hb.mono C6.out.size)); have X7 := Lib.hid (X6.out.below hb); have E7 := Lib.hid (E6.out.below hb); have B7 := Lib.hid (B6.out.trans (hb.mono B6.out.size)); clear hw hx hb)
    | fail)
  have y0 := X7.out.cell (i := 0) rfl
  have y1 := X7.out.cell (i := 1) rfl
  have y2 := X7.out.cell (i := 2) rfl
  have y3 := X7.out.cell (i := 3) rfl
  have p0 := p0.out _ C7.out
  have p1 := p1.out _ C7.out
  rw [show o3 + 0 * 2 + 0 = o3 by omega] at p0
  rw [show o3 + 0 * 2 + 1 = o3 + 1 by omega] at p1
  clear XS X4 X5 X6 XA E1 E2 E3 E4 E5 E6 B1 B2 B3 B4 B5 B6 C3 C4 C5 C6 HRg
  generalize w2.heap.size = b2 at y0 y1 y2 y3 ⊢
  generalize w5.heap.size = b5 at XA7 ⊢
  generalize w6.heap.size = b6 at XW ⊢
  have RA := Lib.hid XA7.out.range
  go_wp2_with (first
    | (refine load_mid_g (by rfl) 34 _ rfl b5 0 rfl aC _ RA.out Try.underlying34 rfl size34 ?_)
    | (refine load_mid_g (by rfl) 34 _ rfl b6 0 rfl bC _ RW.out Try.underlying34 rfl size34 ?_)
    | (go_at_call 22; (first
        | (with_reducible refine (HVA.out bs w7 E7.out).mono ?_; rintro r w8 ⟨rfl, hb⟩; have E8 := Lib.hid (E7.out.below hb); have B8 := Lib.hid (B7.out.trans (hb.mono B7.out.size)); have RW := Lib.hid (XW.out.below hb).range; clear hb y0 y1 y2 y3 p0 p1)
        | (with_reducible refine (HVW.out bs w8 E8.out).mono ?_; rintro r w9 ⟨rfl, hb⟩; have E9 := Lib.hid (E8.out.below hb); have B9 := Lib.hid (B8.out.trans (hb.mono B8.out.size)); clear hb)))
    | (go_at_call 20; (with_reducible refine (HTH.out bs w9 E9.out).mono ?_); rintro r w10 ⟨A10, c10, rfl, hi, hb⟩; have B10 := Lib.hid (B9.out.trans (hb.mono B9.out.size)); have HSm := Lib.hid (Q.same_any A10 1 c10 [1] (some ⟨w10.heap.size, 0, none⟩) 1 1 [1] (w10.alloc (.cells #[.int .i64 1] 3)) (hi.below ((Below.refl _ _).alloc (Nat.le_refl _) _)) (one23 w10)); rw [decide_eq_true (rfl : ([1] : List Int) = [1])] at HSm; clear hi hb)
    | (go_at_call 19; (with_reducible refine HSm.out.mono ?_); rintro r w11 ⟨rfl, hb⟩; have B11 := Lib.hid ((B10.out.alloc B10.out.size _).trans (hb.mono (B10.out.alloc B10.out.size _).size)); clear hb)
    | go_in)
  go_ret
  exact ⟨rfl, B11.out⟩
end Go.Proofs.Ytefajhfahnhcgaa
