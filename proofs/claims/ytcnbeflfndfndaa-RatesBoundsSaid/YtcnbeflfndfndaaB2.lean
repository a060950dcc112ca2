/- RatesBounds for at most 60 calls on a right bucket. Condition: that. -/
import Derived.Test.YtcnbeflfndfndaaB1
import Derived.RegionTactic
namespace Go.Proofs.Ytcnbeflfndfndaa
open Go.RowKit
set_option linter.unusedVariables false

theorem Held4.drew {w : World} {b : Nat} {x0 x1 x2 x3 : Int} (h : Held4 w b x0 x1 x2 x3) : Held4 w.drew b x0 x1 x2 x3 := ⟨h.c0, h.c1, h.c2, h.c3, h.fz, h.lt⟩
theorem Prs.drew {w : World} {a : Option Addr} {len : Nat} {Tm Nm : Nat → Int} (h : Prs w a len Tm Nm) : Prs w.drew a len Tm Nm := h
theorem undrew {w w1 : World} (h : Below w.drew.heap.size w.drew w1) : Below w.heap.size w w1 := ⟨h.os, h.tape, h.output, h.size, h.block⟩
theorem unalloc {w w1 : World} {o : Obj} (h : Below (w.drew.alloc o).heap.size (w.drew.alloc o) w1) : Below w.heap.size w w1 :=
  have e : (w.drew.alloc o).heap.size = w.heap.size + 1 := by simp
  undrew (((Below.refl _ w.drew).alloc (Nat.le_refl _) o).trans (h.mono (by rw [e]; exact Nat.le_succ _)))
theorem Held4.under {w w1 : World} {B b : Nat} {x0 x1 x2 x3 : Int} (h : Held4 w b x0 x1 x2 x3) (hb : Below B w w1) (hlt : b < B) : Held4 w1 b x0 x1 x2 x3 :=
  ⟨(hb.cell (p := ⟨b, 0, none⟩) hlt).trans h.c0, (hb.cell (p := ⟨b, 1, none⟩) hlt).trans h.c1, (hb.cell (p := ⟨b, 2, none⟩) hlt).trans h.c2, (hb.cell (p := ⟨b, 3, none⟩) hlt).trans h.c3,
   fun o => (hb.frozen (p := ⟨b, o, none⟩) hlt).trans (h.fz o), Nat.lt_of_lt_of_le h.lt hb.size⟩
theorem Prs.under {w w' : World} {B b off : Nat} {len : Nat} {Tm Nm : Nat → Int} (h : Prs w (some ⟨b, off, none⟩) len Tm Nm) (hb : Below B w w') (hlt : b < B) : Prs w' (some ⟨b, off, none⟩) len Tm Nm := by
  obtain ⟨h1, h2, h3⟩ := h
  refine ⟨h1, h2, fun h0 => ?_⟩
  obtain ⟨b', off', e, hl, hc⟩ := h3 h0
  injection e with e
  injection e with e1 e2
  subst e1 e2
  exact ⟨b, off, rfl, Nat.lt_of_lt_of_le hl hb.size, fun i hi => ⟨(hb.cell (p := ⟨b, off + i * 2, none⟩) hlt).trans (hc i hi).1, (hb.cell (p := ⟨b, off + i * 2 + 1, none⟩) hlt).trans (hc i hi).2⟩⟩
theorem Held4.set4 {w : World} {b : Nat} {y0 y1 y2 y3 : Int} (h : Held4 w b y0 y1 y2 y3) (x0 x1 x2 x3 : Int) :
    Held4 ((((w.setCell ⟨b, 0, none⟩ (.int .i64 x0)).setCell ⟨b, 1, none⟩ (.int .i64 x1)).setCell ⟨b, 2, none⟩ (.int .i64 x2)).setCell ⟨b, 3, none⟩ (.int .i64 x3)) b x0 x1 x2 x3 := by
  obtain ⟨c0, c1, c2, c3, fz, lt⟩ := h
  exact ⟨by go_simp, by go_simp, by go_simp, by go_simp, fun o => by go_simp, by simpa using lt⟩
theorem below_dn {B : Nat} {w w1 : World} (h : Below B w w1) (n : Nat) : Below B w (w1.drewN n) := ⟨h.os, h.tape, h.output, h.size, h.block⟩
theorem take_not (L A M E t n : Int) (h : ¬ (Ok L A M E ∧ 1 ≤ n ∧ 0 ≤ t ∧ t ≤ 1000000000) ∨ cnt L A M E t < n) : ∃ r : Int, (r != 0) = true ∧ tk L A M E t n = .tuple #[bk 0 0 0 0, .int .i64 r] := by
  by_cases h0 : Ok L A M E ∧ 1 ≤ n ∧ 0 ≤ t ∧ t ≤ 1000000000
  · have h2 : cnt L A M E t < n := by rcases h with h | h; · exact absurd h0 h
                                      · exact h
    exact ⟨25, rfl, (Ending.returned.inj (tk_few h0 h2)).symm⟩
  · exact ⟨2, rfl, (Ending.returned.inj (tk_bad h0)).symm⟩

set_option maxRecDepth 100000 in
set_option maxHeartbeats 3200000 in
theorem bounds_good (L A M E : Int) (a1 : Option Addr) (len1 cap1 : Nat) (Tm Nm : Nat → Int) (w : World) (ok : Ok L A M E) (hl : len1 ≤ 60) (hp : Prs w a1 len1 Tm Nm) :
    Calls Try.prog 8 #[bk L A M E, .slice a1 len1 cap1] w fun e w' => e = .returned (.bool true) ∧ Below w.heap.size w w' := by
  have HBB := Lib.hid (box_start w L A M E)
  have HPP := Lib.hid (hp.below ((Below.refl w.heap.size w).alloc (Nat.le_refl _) (.cells #[.int .i64 L, .int .i64 A, .int .i64 M, .int .i64 E] 23)))
  have d1 : decide ((60 : Int) < (len1 : Int)) = false := by simp; omega
  clear hp
  go_enter Try.func8, Try.ntmps8
  go_wp2_with (first
    | (go_at_call 12; refine (check_ok ok _).mono ?_; rintro e w1 ⟨rfl, hb1⟩; have HB1 := Lib.hid (HBB.out.below hb1); have HP1 := Lib.hid (HPP.out.below hb1); obtain ⟨k0, k1, k2, k3, kf, kl⟩ := HB1.out)
    | (go_at_call 13; refine (rcheck_ok ok _).mono ?_; rintro e w2 ⟨rfl, hb2⟩; have HB2 := Lib.hid (HB1.out.below hb2); have HP2 := Lib.hid (HP1.out.below hb2); have A2 := Lib.hid (chain2 hb1 hb2); clear hb1 hb2 k0 k1 k2 k3 kf kl; obtain ⟨k0, k1, k2, k3, kf, kl⟩ := HB2.out))
  go_region
  all_goals go_wp2
  have hX : w.heap.size < w2.heap.size := kl
  clear k0 k1 k2 k3 kf kl
  go_loopw [6, 7, 8, 9, 10] (fun u v i _ _ wr => ∃ (k : Nat) (l a taken last : Int), k ≤ len1 ∧ i = .int .i64 k ∧ u = .int .i64 taken ∧ v = .int .i64 last ∧ Hid (Inv L A M E l a taken last) ∧ Hid (Held4 wr w2.heap.size l a M E) ∧ Hid (Held4 wr w.heap.size L A M E) ∧ Hid (Prs wr a1 len1 Tm Nm) ∧ Hid (Below w.heap.size w wr)) (fun _ _ i _ _ _ => len1 - (intOf i).toNat)
  case atStart => exact ⟨0, L, A, 0, A, Nat.zero_le _, rfl, rfl, rfl, Lib.hid (inv_start ok), Lib.hid (held_new w2 L A M E).drew, Lib.hid (HB2.out.alloc _).drew, Lib.hid (HP2.out.below ((Below.refl w2.heap.size w2).alloc (Nat.le_refl _) _)).drew, Lib.hid (A2.out.alloc A2.out.size _).drew⟩
  case round =>
    obtain ⟨k, l, a, taken, last, hk, rfl, rfl, rfl, HI, HX, HB, HP, HA⟩ := hrel
    by_cases hlt : k < len1
    · obtain ⟨b, off, rfl, hbl, hc⟩ := HP.out.2.2 (by omega)
      obtain ⟨ct, cn⟩ := hc k hlt
      have hTb := (HP.out.1 k).1
      have hNb := (HP.out.1 k).2
      obtain ⟨x0, x1, x2, x3, xf, xl⟩ := HX.out
      clear hc
      by_cases hno : ¬ (Ok l a M E ∧ 1 ≤ Nm k ∧ 0 ≤ Tm k ∧ Tm k ≤ 1000000000) ∨ cnt l a M E (Tm k) < Nm k
      · obtain ⟨r, hr, htk⟩ := take_not l a M E (Tm k) (Nm k) hno
        have c1 : ∀ w, Calls Try.prog 15 #[bk l a M E, .int .i64 (Tm k), .int .i64 (Nm k)] w fun e w' => e = .returned (.tuple #[bk 0 0 0 0, .int .i64 r]) ∧ Below w.heap.size w w' := fun w => (take_any l a M E (Tm k) (Nm k) w).mono fun e w' ⟨he, hb⟩ => ⟨by rw [he, htk], hb⟩
        have C1 := Lib.hid c1
        clear c1 htk hno hTb hNb
        generalize Tm k = t at *
        generalize Nm k = n at *
        have n1 : wr.heap.size ≠ w2.heap.size := by omega
        have n2 : wr.heap.size ≠ b := by omega
        have n3 : w2.heap.size ≠ wr.heap.size := by omega
        have n4 : b ≠ wr.heap.size := by omega
        have Ct := Lib.hid ct
        have Cn := Lib.hid cn
        have Hbl := Lib.hid hbl
        go_wp2
        go_region_held3 (fun w' => w'.cell? ⟨w2.heap.size, 0, none⟩ = some (.int .i64 l) ∧ w'.cell? ⟨w2.heap.size, 1, none⟩ = some (.int .i64 a) ∧ w'.cell? ⟨w2.heap.size, 2, none⟩ = some (.int .i64 M) ∧ w'.cell? ⟨w2.heap.size, 3, none⟩ = some (.int .i64 E) ∧ w'.cell? ⟨b, off + k * 2, none⟩ = some (.int .i64 t) ∧ w'.cell? ⟨b, off + k * 2 + 1, none⟩ = some (.int .i64 n)) (go_keep)
          (first | (go_at_call 15; refine (C1.out _).mono ?_; rintro e w4 ⟨rfl, hb4⟩; have hb5 : Below wr.heap.size wr w4 := (by first | exact undrew hb4 | exact unalloc hb4); (first | (have Z4 : Held4 w4 wr.heap.size 0 0 0 0 := (held_new wr.drew 0 0 0 0).below hb4; obtain ⟨z0, z1, z2, z3, zf, zl⟩ := Z4) | skip); have m1 : w4.heap.size ≠ w2.heap.size := (by have := HX.out.lt; have := hb5.size; omega); have m2 : w4.heap.size ≠ b := (by have := Hbl.out; have := hb5.size; omega); have m3 : w2.heap.size ≠ w4.heap.size := (by omega); have m4 : b ≠ w4.heap.size := (by omega); have HX4 := Lib.hid (HX.out.below hb5); have HB4 := Lib.hid (HB.out.below hb5); have HP4 := Lib.hid (HP.out.below hb5); have A4 := Lib.hid (bgo HA.out hb5); have ct4 := (hb5.cell (p := ⟨b, off + k * 2, none⟩) Hbl.out).trans Ct.out; have cn4 := (hb5.cell (p := ⟨b, off + k * 2 + 1, none⟩) Hbl.out).trans Cn.out; obtain ⟨y0, y1, y2, y3, yf, yl⟩ := HX4.out))
        all_goals go_wp2
        · go_roundw
          case rel => refine ⟨k + 1, l, a, taken, last, by omega, by go_num, rfl, rfl, HI, Lib.hid (HX.out.below ?_), Lib.hid (HB.out.below ?_), Lib.hid (HP.out.below ?_), Lib.hid (bgo HA.out ?_)⟩ <;> exact hb5.alloc hb5.size _
          case measure => simp [intOf]; omega
        · go_roundw
          case rel => refine ⟨k + 1, l, a, taken, last, by omega, by go_num, rfl, rfl, HI, Lib.hid (HX.out.below ?_), Lib.hid (HB.out.below ?_), Lib.hid (HP.out.below ?_), Lib.hid (bgo HA.out ?_)⟩ <;> exact (((hb5.setCell (Nat.le_refl _) _).setCell (Nat.le_refl _) _).setCell (Nat.le_refl _) _).setCell (Nat.le_refl _) _
          case measure => simp [intOf]; omega
      · have hg : (Ok l a M E ∧ 1 ≤ Nm k ∧ 0 ≤ Tm k ∧ Tm k ≤ 1000000000) ∧ ¬ cnt l a M E (Tm k) < Nm k := by
          refine ⟨Classical.byContradiction fun h => hno (.inl h), fun h => hno (.inr h)⟩
        obtain ⟨hg1, hg2⟩ := hg
        have htk := (Ending.returned.inj (tk_yes hg1 hg2)).symm
        have hst := inv_step HI.out hg1.2.1 hg1.2.2.1 hg1.2.2.2 hg2
        have hcb := cnt_bd (now := Tm k) HI.out.ok
        have hsm := inv_small ok HI.out
        have hps := HI.out.pos
        have hM1 := ok.m1
        have c1 : ∀ w, Calls Try.prog 15 #[bk l a M E, .int .i64 (Tm k), .int .i64 (Nm k)] w fun e w' => e = .returned (.tuple #[bk (cnt l a M E (Tm k) - Nm k) (tat l a M E (Tm k)) M E, .int .i64 0]) ∧ Below w.heap.size w w' := fun w => (take_any l a M E (Tm k) (Nm k) w).mono fun e w' ⟨he, hb⟩ => ⟨by rw [he, htk], hb⟩
        have g1 : decide (Nm k < 1) = false := by simp; omega
        have g2 : decide (M < Nm k) = false := by simp; omega
        have g3 : decide (Tm k < 0) = false := by simp; omega
        have g4 : decide (1000000000 < Tm k) = false := by simp; omega
        have hN1 : Nm k ≤ 1000000 := by omega
        have hN0 : 1 ≤ Nm k := hg1.2.1
        have wt1 := IntWalk.i64_in (taken + Nm k) (by omega)
        have C1 := Lib.hid c1
        have Hst := Lib.hid hst
        clear c1 htk hno hg1 hg2 hst hcb hTb hNb
        rcases Int.lt_or_le last (Tm k) with hmx | hmx
        · generalize tat l a M E (Tm k) = q at *
          generalize cnt l a M E (Tm k) - Nm k = p at *
          generalize Tm k = t at *
          generalize Nm k = n at *
          have HF : Hid (Inv L A M E p q (taken + n) t) := (by have h := Hst.out; rw [if_pos hmx] at h; exact Lib.hid h)
          clear Hst
          obtain ⟨kb0, kb1, kb2, kb3, kbf, kbl⟩ := HB.out
          have hbX : b < w2.heap.size := by
            obtain ⟨b', off', e, hl, _⟩ := HPP.out.2.2 (by omega)
            injection e with e
            injection e with e1 e2
            subst e1
            simp at hl
            omega
          have n7 : b ≠ w2.heap.size := by omega
          have n8 : w2.heap.size ≠ b := by omega
          have n1 : wr.heap.size ≠ w2.heap.size := by omega
          have n2 : wr.heap.size ≠ b := by omega
          have n3 : w2.heap.size ≠ wr.heap.size := by omega
          have n4 : b ≠ wr.heap.size := by omega
          have n5 : wr.heap.size ≠ w.heap.size := by omega
          have n6 : w.heap.size ≠ wr.heap.size := by omega
          have Ct := Lib.hid ct
          have Cn := Lib.hid cn
          have Hbl := Lib.hid hbl
          go_wp2
          go_region_held3 (fun w' => w'.cell? ⟨w2.heap.size, 0, none⟩ = some (.int .i64 l) ∧ w'.cell? ⟨w2.heap.size, 1, none⟩ = some (.int .i64 a) ∧ w'.cell? ⟨w2.heap.size, 2, none⟩ = some (.int .i64 M) ∧ w'.cell? ⟨w2.heap.size, 3, none⟩ = some (.int .i64 E) ∧ w'.cell? ⟨b, off + k * 2, none⟩ = some (.int .i64 t) ∧ w'.cell? ⟨b, off + k * 2 + 1, none⟩ = some (.int .i64 n)) (go_keep)
            (first | (go_at_call 15; refine (C1.out _).mono ?_; rintro e w4 ⟨rfl, hb4⟩; have hb5 : Below wr.heap.size wr w4 := (by first | exact undrew hb4 | exact unalloc hb4); (first | (have Z4 : Held4 w4 wr.heap.size 0 0 0 0 := (held_new wr.drew 0 0 0 0).below hb4; obtain ⟨z0, z1, z2, z3, zf, zl⟩ := Z4) | skip); have m1 : w4.heap.size ≠ w2.heap.size := (by have := HX.out.lt; have := hb5.size; omega); have m2 : w4.heap.size ≠ b := (by have := Hbl.out; have := hb5.size; omega); have m3 : w2.heap.size ≠ w4.heap.size := (by omega); have m4 : b ≠ w4.heap.size := (by omega); have HX4 := Lib.hid (HX.out.below hb5); have HB4 := Lib.hid (HB.out.below hb5); have ct4 := (hb5.cell (p := ⟨b, off + k * 2, none⟩) Hbl.out).trans Ct.out; have cn4 := (hb5.cell (p := ⟨b, off + k * 2 + 1, none⟩) Hbl.out).trans Cn.out; obtain ⟨y0, y1, y2, y3, yf, yl⟩ := HX4.out; obtain ⟨v0, v1, v2, v3, vf, vl⟩ := HB4.out))
          all_goals go_wp2
          all_goals go_quiet (fail)
          all_goals go_wp2
          · go_region_held3 (fun w' => w'.cell? ⟨w4.heap.size, 0, none⟩ = some (.int .i64 p) ∧ w'.cell? ⟨w4.heap.size, 1, none⟩ = some (.int .i64 q) ∧ w'.cell? ⟨w4.heap.size, 2, none⟩ = some (.int .i64 M) ∧ w'.cell? ⟨w4.heap.size, 3, none⟩ = some (.int .i64 E) ∧ w'.cell? ⟨b, off + k * 2, none⟩ = some (.int .i64 t) ∧ w'.cell? ⟨b, off + k * 2 + 1, none⟩ = some (.int .i64 n)) (go_keep) (fail)
            all_goals go_wp2
            all_goals
              go_roundw
              case rel =>
                refine ⟨k + 1, p, q, taken + n, t, by omega, by go_num, rfl, rfl, HF, Lib.hid (Held4.set4 (y0 := l) (y1 := a) (y2 := M) (y3 := E) ⟨by go_simp, by go_simp, by go_simp, by go_simp, fun o => by go_simp, by simp; omega⟩ p q M E), Lib.hid (HB.out.under (B := w2.heap.size) ?_ hX), Lib.hid (HP.out.under (B := w2.heap.size) ?_ hbX), Lib.hid (HA.out.trans (Below.mono (B := w2.heap.size) ?_ (Nat.le_of_lt hX)))⟩ <;>
                  (repeat (first | refine Below.setCell ?_ (by first | exact Nat.le_refl _ | exact Nat.le_of_lt xl | exact Nat.le_of_lt yl) _ | refine Below.drew ?_ | refine below_dn ?_ _ | refine Below.alloc ?_ (Nat.le_of_lt yl) _)) <;> exact hb5.mono (Nat.le_of_lt xl)
              case measure => simp [intOf]; omega
          · have Z := Held4.set4 (⟨z0, z1, z2, z3, zf, zl⟩ : Held4 w4 wr.heap.size 0 0 0 0) p q M E
            obtain ⟨s0, s1, s2, s3, sf, sl⟩ := Z
            go_region_held3 (fun w' => w'.cell? ⟨wr.heap.size, 0, none⟩ = some (.int .i64 p) ∧ w'.cell? ⟨wr.heap.size, 1, none⟩ = some (.int .i64 q) ∧ w'.cell? ⟨wr.heap.size, 2, none⟩ = some (.int .i64 M) ∧ w'.cell? ⟨wr.heap.size, 3, none⟩ = some (.int .i64 E) ∧ w'.cell? ⟨b, off + k * 2, none⟩ = some (.int .i64 t) ∧ w'.cell? ⟨b, off + k * 2 + 1, none⟩ = some (.int .i64 n)) (go_keep) (fail)
            all_goals go_wp2
            all_goals
              go_roundw
              case rel =>
                refine ⟨k + 1, p, q, taken + n, t, by omega, by go_num, rfl, rfl, HF, Lib.hid (Held4.set4 (y0 := l) (y1 := a) (y2 := M) (y3 := E) ⟨by go_simp, by go_simp, by go_simp, by go_simp, fun o => by go_simp, by simp; omega⟩ p q M E), Lib.hid (HB.out.under (B := w2.heap.size) ?_ hX), Lib.hid (HP.out.under (B := w2.heap.size) ?_ hbX), Lib.hid (HA.out.trans (Below.mono (B := w2.heap.size) ?_ (Nat.le_of_lt hX)))⟩ <;>
                  (repeat (first | refine Below.setCell ?_ (by first | exact Nat.le_refl _ | exact Nat.le_of_lt xl | exact Nat.le_of_lt yl) _ | refine Below.drew ?_ | refine below_dn ?_ _ | refine Below.alloc ?_ (Nat.le_of_lt yl) _)) <;> exact hb5.mono (Nat.le_of_lt xl)
              case measure => simp [intOf]; omega
        · generalize tat l a M E (Tm k) = q at *
          generalize cnt l a M E (Tm k) - Nm k = p at *
          generalize Tm k = t at *
          generalize Nm k = n at *
          have HF : Hid (Inv L A M E p q (taken + n) last) := (by have h := Hst.out; rw [if_neg (by omega)] at h; exact Lib.hid h)
          clear Hst
          obtain ⟨kb0, kb1, kb2, kb3, kbf, kbl⟩ := HB.out
          have hbX : b < w2.heap.size := by
            obtain ⟨b', off', e, hl, _⟩ := HPP.out.2.2 (by omega)
            injection e with e
            injection e with e1 e2
            subst e1
            simp at hl
            omega
          have n7 : b ≠ w2.heap.size := by omega
          have n8 : w2.heap.size ≠ b := by omega
          have n1 : wr.heap.size ≠ w2.heap.size := by omega
          have n2 : wr.heap.size ≠ b := by omega
          have n3 : w2.heap.size ≠ wr.heap.size := by omega
          have n4 : b ≠ wr.heap.size := by omega
          have n5 : wr.heap.size ≠ w.heap.size := by omega
          have n6 : w.heap.size ≠ wr.heap.size := by omega
          have Ct := Lib.hid ct
          have Cn := Lib.hid cn
          have Hbl := Lib.hid hbl
          go_wp2
          go_region_held3 (fun w' => w'.cell? ⟨w2.heap.size, 0, none⟩ = some (.int .i64 l) ∧ w'.cell? ⟨w2.heap.size, 1, none⟩ = some (.int .i64 a) ∧ w'.cell? ⟨w2.heap.size, 2, none⟩ = some (.int .i64 M) ∧ w'.cell? ⟨w2.heap.size, 3, none⟩ = some (.int .i64 E) ∧ w'.cell? ⟨b, off + k * 2, none⟩ = some (.int .i64 t) ∧ w'.cell? ⟨b, off + k * 2 + 1, none⟩ = some (.int .i64 n)) (go_keep)
            (first | (go_at_call 15; refine (C1.out _).mono ?_; rintro e w4 ⟨rfl, hb4⟩; have hb5 : Below wr.heap.size wr w4 := (by first | exact undrew hb4 | exact unalloc hb4); (first | (have Z4 : Held4 w4 wr.heap.size 0 0 0 0 := (held_new wr.drew 0 0 0 0).below hb4; obtain ⟨z0, z1, z2, z3, zf, zl⟩ := Z4) | skip); have m1 : w4.heap.size ≠ w2.heap.size := (by have := HX.out.lt; have := hb5.size; omega); have m2 : w4.heap.size ≠ b := (by have := Hbl.out; have := hb5.size; omega); have m3 : w2.heap.size ≠ w4.heap.size := (by omega); have m4 : b ≠ w4.heap.size := (by omega); have HX4 := Lib.hid (HX.out.below hb5); have HB4 := Lib.hid (HB.out.below hb5); have ct4 := (hb5.cell (p := ⟨b, off + k * 2, none⟩) Hbl.out).trans Ct.out; have cn4 := (hb5.cell (p := ⟨b, off + k * 2 + 1, none⟩) Hbl.out).trans Cn.out; obtain ⟨y0, y1, y2, y3, yf, yl⟩ := HX4.out; obtain ⟨v0, v1, v2, v3, vf, vl⟩ := HB4.out))
          all_goals go_wp2
          all_goals go_quiet (fail)
          all_goals go_wp2
          · go_region_held3 (fun w' => w'.cell? ⟨w4.heap.size, 0, none⟩ = some (.int .i64 p) ∧ w'.cell? ⟨w4.heap.size, 1, none⟩ = some (.int .i64 q) ∧ w'.cell? ⟨w4.heap.size, 2, none⟩ = some (.int .i64 M) ∧ w'.cell? ⟨w4.heap.size, 3, none⟩ = some (.int .i64 E) ∧ w'.cell? ⟨b, off + k * 2, none⟩ = some (.int .i64 t) ∧ w'.cell? ⟨b, off + k * 2 + 1, none⟩ = some (.int .i64 n)) (go_keep) (fail)
            all_goals go_wp2
            all_goals
              go_roundw
              case rel =>
                refine ⟨k + 1, p, q, taken + n, last, by omega, by go_num, rfl, by rw [if_neg (by omega)], HF, Lib.hid (Held4.set4 (y0 := l) (y1 := a) (y2 := M) (y3 := E) ⟨by go_simp, by go_simp, by go_simp, by go_simp, fun o => by go_simp, by simp; omega⟩ p q M E), Lib.hid (HB.out.under (B := w2.heap.size) ?_ hX), Lib.hid (HP.out.under (B := w2.heap.size) ?_ hbX), Lib.hid (HA.out.trans (Below.mono (B := w2.heap.size) ?_ (Nat.le_of_lt hX)))⟩ <;>
                  (repeat (first | refine Below.setCell ?_ (by first | exact Nat.le_refl _ | exact Nat.le_of_lt xl | exact Nat.le_of_lt yl) _ | refine Below.drew ?_ | refine below_dn ?_ _ | refine Below.alloc ?_ (Nat.le_of_lt yl) _)) <;> exact hb5.mono (Nat.le_of_lt xl)
              case measure => simp [intOf]; omega
          · have Z := Held4.set4 (⟨z0, z1, z2, z3, zf, zl⟩ : Held4 w4 wr.heap.size 0 0 0 0) p q M E
            obtain ⟨s0, s1, s2, s3, sf, sl⟩ := Z
            go_region_held3 (fun w' => w'.cell? ⟨wr.heap.size, 0, none⟩ = some (.int .i64 p) ∧ w'.cell? ⟨wr.heap.size, 1, none⟩ = some (.int .i64 q) ∧ w'.cell? ⟨wr.heap.size, 2, none⟩ = some (.int .i64 M) ∧ w'.cell? ⟨wr.heap.size, 3, none⟩ = some (.int .i64 E) ∧ w'.cell? ⟨b, off + k * 2, none⟩ = some (.int .i64 t) ∧ w'.cell? ⟨b, off + k * 2 + 1, none⟩ = some (.int .i64 n)) (go_keep) (fail)
            all_goals go_wp2
            all_goals
              go_roundw
              case rel =>
                refine ⟨k + 1, p, q, taken + n, last, by omega, by go_num, rfl, by rw [if_neg (by omega)], HF, Lib.hid (Held4.set4 (y0 := l) (y1 := a) (y2 := M) (y3 := E) ⟨by go_simp, by go_simp, by go_simp, by go_simp, fun o => by go_simp, by simp; omega⟩ p q M E), Lib.hid (HB.out.under (B := w2.heap.size) ?_ hX), Lib.hid (HP.out.under (B := w2.heap.size) ?_ hbX), Lib.hid (HA.out.trans (Below.mono (B := w2.heap.size) ?_ (Nat.le_of_lt hX)))⟩ <;>
                  (repeat (first | refine Below.setCell ?_ (by first | exact Nat.le_refl _ | exact Nat.le_of_lt xl | exact Nat.le_of_lt yl) _ | refine Below.drew ?_ | refine below_dn ?_ _ | refine Below.alloc ?_ (Nat.le_of_lt yl) _)) <;> exact hb5.mono (Nat.le_of_lt xl)
              case measure => simp [intOf]; omega
    · have hge : len1 ≤ k := by omega
      have hfin := inv_end HI.out
      have hd : decide (taken ≤ L + (last - A) / E) = true := by simpa using hfin
      have hi := HI.out
      have hE0 := ok.e0
      have hA0 := ok.a0
      have hL0 := ok.l0
      have hL1 := ok.l1
      have hM1 := ok.m1
      have hlA : A ≤ last := by have := hi.at0; have := hi.lst; omega
      have htop := hi.top
      have hq0 : 0 ≤ (last - A) / E := Int.ediv_nonneg (by omega) (by omega)
      have hq1 : (last - A) / E ≤ last - A := Int.ediv_le_self E (by omega)
      have ws := IntWalk.i64_in (last - A) (by omega)
      have wp := IntWalk.i64_in (L + (last - A) / E) (by omega)
      have hs0 : 0 ≤ last - A := by omega
      have hEn : (E == 0) = false := beq_eq_false_iff_ne.2 (by omega)
      have hEp : ¬ E = 0 := by omega
      have ht := Int.tdiv_eq_ediv_of_nonneg (b := E) hs0
      have hwq := IntWalk.i64_in ((last - A) / E) (by omega)
      obtain ⟨k0, k1, k2, k3, kf, kl⟩ := HB.out
      clear hfin hi hk hlt
      go_wp2
      go_region_held3 (fun w' => w'.cell? ⟨w.heap.size, 0, none⟩ = some (.int .i64 L) ∧ w'.cell? ⟨w.heap.size, 1, none⟩ = some (.int .i64 A) ∧ w'.cell? ⟨w.heap.size, 2, none⟩ = some (.int .i64 M) ∧ w'.cell? ⟨w.heap.size, 3, none⟩ = some (.int .i64 E)) (go_keep)
        (first | (go_at_call 14; refine (live_any _).mono ?_; rintro e w6 ⟨rfl, hb6⟩; have hb7 := undrew hb6; have HB6 := HB.out.below hb7; obtain ⟨y0, y1, y2, y3, yf, yl⟩ := HB6; have A6 := Lib.hid (bgo HA.out hb7)))
      all_goals go_wp2
      all_goals go_ret
      all_goals exact ⟨rfl, A6.out⟩
end Go.Proofs.Ytcnbeflfndfndaa
