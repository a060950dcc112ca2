/- The walk of MembersWalks. Condition: the two tables stand as the program lays them. -/
import Derived.Test.YtnhjbknhbeicfaaDoorW17
import Derived.Test.YtnhjbknhbeicfaaDoorW19
import Derived.BigQuiet
import Derived.WalkSmall
namespace Go.Proofs.YtnhjbknhbeicfaaDoor
open Go.RowKit
set_option linter.unusedVariables false
set_option linter.unusedSimpArgs false

theorem mv_true {f t : Int} {s : Bool} (h : mv f t s = true) : (f = 4 → s = false ∧ (t = 0 ∨ t = 4)) ∧ (t = 3 → s = true) := by
  by_cases hr : f < 0 ∨ 4 < f ∨ t < 0 ∨ 4 < t
  · rw [mv_out s hr] at h; cases h
  · have hf : f = 0 ∨ f = 1 ∨ f = 2 ∨ f = 3 ∨ f = 4 := by omega
    have ht : t = 0 ∨ t = 1 ∨ t = 2 ∨ t = 3 ∨ t = 4 := by omega
    clear hr
    rcases hf with rfl | rfl | rfl | rfl | rfl <;> rcases ht with rfl | rfl | rfl | rfl | rfl <;> cases s <;> revert h <;> decide
theorem Sts.get {w : World} {A : Option Addr} {m d : Nat} {T : Nat → Sp} (h : Sts w A m d T) {j : Nat} (hj : j < m) : ∃ b off t s, A = some ⟨b, off, none⟩ ∧ (T j).to = t ∧ (T j).self = s ∧ b < w.heap.size ∧ w.cell? ⟨b, off + j * 2, none⟩ = some (.int .i64 t) ∧ w.cell? ⟨b, off + j * 2 + 1, none⟩ = some (.bool s) := by
  obtain ⟨b, off, e, hlt, r⟩ := h.rws.get hj
  exact ⟨b, off, _, _, e, rfl, rfl, hlt, r 0 _ rfl, r 1 _ rfl⟩
set_option maxRecDepth 100000 in
set_option maxHeartbeats 8000000 in
theorem walks8 (a0 : Int) (A : Option Addr) (n c : Nat) (T : Nat → Sp) (w : World) (h : Sts w A n c T) (hM : Mv w) : Calls Tryd.prog 8 #[.int .i64 a0, .slice A n c] w fun e w' => e = .returned (.bool true) ∧ Below w.heap.size w w' := by
  have HS := Lib.hid h
  have HM := Lib.hid hM
  have hbig := h.rws.big
  clear h hM
  by_cases g1 : 100 < n
  · have g2 : (100 : Int) < (n : Int) := by omega
    go_enter Tryd.func8, Tryd.ntmps8
    go_wp2
    go_ret
    exact ⟨rfl, Below.refl _ _⟩
  have g2 : ¬ (100 : Int) < (n : Int) := by omega
  go_enter Tryd.func8, Tryd.ntmps8
  go_wp2
  clear g2 hbig
  go_loopg [5, 6] n (fun gg s5 s6 wr => ∃ (kk : Nat) (f : Int), kk ≤ n ∧ n - kk ≤ gg ∧ s6 = .int .i64 kk ∧ s5 = .int .i64 f ∧ Hid (Below w.heap.size w wr))
  case atStart => exact ⟨0, a0, Nat.zero_le _, by omega, rfl, rfl, Lib.hid (Below.refl _ _)⟩
  case round =>
    obtain ⟨kk, f, hkk, hg, rfl, rfl, BW⟩ := hrel
    by_cases hlt : kk < n
    · have hltz : (kk : Int) < (n : Int) := by omega
      obtain ⟨b, off, t, s, rfl, _, _, hbl, k0, k1⟩ := (HS.out.below BW.out).get hlt
      have CM := Lib.hid (fun m => (show Calls Tryd.prog 18 #[.int .i64 f, .int .i64 t, .bool s] (wr.drewN m) fun e w' => e = .returned (.bool (mv f t s)) ∧ w' = wr.drewN m from (move18 f t s (wr.drewN m) (HM.out.below (below_dn BW.out _))).mono fun e w' h => ⟨h.1, h.2.symm⟩))
      cases hr : mv f t s
      · rw [hr] at CM
        go_wp2
        go_quiet ((go_at_call 18; (with_reducible exact Calls.quiet_of_same (CM.out _))))
        go_wp2
        go_roundg (n - (kk + 1))
        case measure => omega
        case rel => exact ⟨kk + 1, f, by omega, by omega, by go_num, rfl, Lib.hid (below_dn BW.out _)⟩
      · rw [hr] at CM
        obtain ⟨h4, h3⟩ := mv_true hr
        have H4 := Lib.hid h4
        have H3 := Lib.hid h3
        clear hr h4 h3
        go_wp2
        go_quiet ((go_at_call 18; (with_reducible exact Calls.quiet_of_same (CM.out _))))
        generalize hw2 : wr.drewN _ = w2
        have B2 : Hid (Below w.heap.size w w2) := Lib.hid (by rw [← hw2]; exact below_dn BW.out _)
        have Q2 : Below wr.heap.size wr w2 := by rw [← hw2]; exact below_dn (Below.refl _ _) _
        have j0 := (Q2.cell (p := ⟨b, off + kk * 2, none⟩) hbl).trans k0
        have j1 := (Q2.cell (p := ⟨b, off + kk * 2 + 1, none⟩) hbl).trans k1
        clear hw2 Q2 k0 k1 CM
        by_cases e4 : f = 4
        · subst e4
          obtain ⟨rfl, ht⟩ := H4.out rfl
          rcases ht with rfl | rfl
          · go_wp2
            go_roundg (n - (kk + 1))
            case measure => omega
            case rel => exact ⟨kk + 1, 0, by omega, by omega, by go_num, rfl, B2⟩
          · go_wp2
            go_roundg (n - (kk + 1))
            case measure => omega
            case rel => exact ⟨kk + 1, 4, by omega, by omega, by go_num, rfl, B2⟩
        · have q4 : (f == 4) = false := beq_eq_false_iff_ne.2 e4
          by_cases e3 : t = 3
          · obtain rfl := H3.out e3
            subst e3
            go_wp2
            go_roundg (n - (kk + 1))
            case measure => omega
            case rel => exact ⟨kk + 1, 3, by omega, by omega, by go_num, rfl, B2⟩
          · have q3 : (t == 3) = false := beq_eq_false_iff_ne.2 e3
            go_wp2
            go_roundg (n - (kk + 1))
            case measure => omega
            case rel => exact ⟨kk + 1, t, by omega, by omega, by go_num, rfl, B2⟩
    · have hltz : ¬ (kk : Int) < (n : Int) := by omega
      have CL := Lib.hid (live_any wr (HM.out.below BW.out))
      go_wp2_with (go_at_call 15; refine CL.out.mono ?_; rintro e w5 ⟨rfl, hb5⟩; have B5 := Lib.hid (BW.out.trans (hb5.mono BW.out.size)); clear hb5)
      go_ret
      exact ⟨rfl, B5.out⟩
end Go.Proofs.YtnhjbknhbeicfaaDoor
