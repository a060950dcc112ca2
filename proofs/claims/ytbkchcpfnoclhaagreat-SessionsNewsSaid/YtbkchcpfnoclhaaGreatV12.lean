/- Sessions: Reads, SameShares, Same of the reference. Bound: at most 900000 shares. -/
import Derived.Test.YtbkchcpfnoclhaaGreatV11
namespace Go.Proofs.YtbkchcpfnoclhaaGreat
set_option maxRecDepth 100000
open Go Go.RowKit
set_option linter.unusedVariables false
set_option linter.unusedSimpArgs false
set_option maxRecDepth 100000

theorem rdB_sh (l : List Rc) (nx : Int) (u d : ByteArray) (ix : Int) : rdB l nx u d ix = ((shP u d l).2 && decide (0 ≤ ix) && decide ((shP u d l).1.ix ≤ ix) && decide (ix < nx)) := by
  unfold rdB shP
  rcases l.find? (smH u d) with _ | p
  · rfl
  · simp only [Bool.true_and]
set_option maxHeartbeats 4000000 in
theorem same17 (A : Option Addr) (n c : Nat) (A' : Option Addr) (n' c' : Nat) (l : List Rc) (w : World) (h : Rcs w A n c l) (h' : Rcs w A' n' c' l) : Calls Tryz.prog 21 #[.slice A n c, .slice A' n' c'] w fun r w' => r = .returned (.bool true) ∧ Below w.heap.size w w' := by
  obtain rfl : n = n' := h.len.symm.trans h'.len
  have H := Lib.hid h
  have H' := Lib.hid h'
  have hbig := h.rws.big
  unfold maxLen at hbig
  clear h h'
  go_enter Tryz.func21, Tryz.ntmps21
  go_wp2
  go_loopg [5] n (fun gg s5 wr => ∃ (k : Nat), k ≤ n ∧ n - k ≤ gg ∧ s5 = .int .i64 (k : Int) ∧ Hid (Below w.heap.size w wr))
  case atStart => exact ⟨0, Nat.zero_le _, by omega, rfl, Lib.hid (Below.refl _ _)⟩
  case round =>
    obtain ⟨k, hk, hg, rfl, BW⟩ := hrel
    by_cases hlt : k < n
    · have hltz : (k : Int) < (n : Int) := by omega
      have hk0 : (0 : Int) ≤ (k : Int) := by omega
      obtain ⟨b, off, rfl, _, hr, _⟩ := (H.out.below BW.out).get hlt
      obtain ⟨b', off', rfl, _, hr', _⟩ := (H'.out.below BW.out).get hlt
      have q0 : wr.cell? ⟨b, off + k * 3, none⟩ = some (.string (l.getD k t0).us) := hr 0 _ rfl
      have q1 : wr.cell? ⟨b, off + k * 3 + 1, none⟩ = some (.string (l.getD k t0).dv) := hr 1 _ rfl
      have q2 : wr.cell? ⟨b, off + k * 3 + 2, none⟩ = some (.int .i64 (l.getD k t0).ix) := hr 2 _ rfl
      have r0 : wr.cell? ⟨b', off' + k * 3, none⟩ = some (.string (l.getD k t0).us) := hr' 0 _ rfl
      have r1 : wr.cell? ⟨b', off' + k * 3 + 1, none⟩ = some (.string (l.getD k t0).dv) := hr' 1 _ rfl
      have r2 : wr.cell? ⟨b', off' + k * 3 + 2, none⟩ = some (.int .i64 (l.getD k t0).ix) := hr' 2 _ rfl
      clear hr hr'
      generalize l.getD k t0 = p at q0 q1 q2 r0 r1 r2
      obtain ⟨us, dv, ix⟩ := p
      dsimp only at q0 q1 q2 r0 r1 r2
      have z1 : (us.toList == us.toList) = true := beq_self_eq_true _
      have z2 : (dv.toList == dv.toList) = true := beq_self_eq_true _
      go_wp2
      go_quiet (fail)
      go_wp2
      go_roundg (n - (k + 1))
      case measure => omega
      case rel => exact ⟨k + 1, by omega, by omega, by go_num, Lib.hid (bel_dn BW.out _)⟩
    · have hltz : ¬ (k : Int) < (n : Int) := by omega
      go_wp2
      go_ret
      exact ⟨rfl, BW.out⟩
set_option maxHeartbeats 4000000 in
theorem same12 (S : Ses) (v1 v2 : Value) (w : World) (h1 : IsS w S v1) (h2 : IsS w S v2) : Calls Tryz.prog 9 #[v1, v2] w fun r w' => r = .returned (.bool true) ∧ Below w.heap.size w w' := by
  obtain ⟨A, c, rfl, h1⟩ := h1
  obtain ⟨A', c', rfl, h2⟩ := h2
  obtain ⟨id, rm, nx, l⟩ := S
  dsimp only at h1 h2 ⊢
  have BA := Lib.hid (((Below.refl w.heap.size w).alloc (Nat.le_refl _) (.cells #[.int .i64 id, .string rm, .int .i64 nx, .slice A l.length c] 24)).alloc (by simp) (.cells #[.int .i64 id, .string rm, .int .i64 nx, .slice A' l.length c'] 24))
  have XS := Lib.hid ((blk_new w (sC id rm nx A l.length c) 24).alloc (.cells #[.int .i64 id, .string rm, .int .i64 nx, .slice A' l.length c'] 24))
  have XT := Lib.hid (blk_new2 w (.cells #[.int .i64 id, .string rm, .int .i64 nx, .slice A l.length c] 24) (sC id rm nx A' l.length c') 24)
  have HS := Lib.hid (same17 A l.length c A' l.length c' l _ (h1.below BA.out) (h2.below BA.out))
  clear h1 h2
  have x0 := XS.out.cell (i := 0) rfl
  have x1 := XS.out.cell (i := 1) rfl
  have x2 := XS.out.cell (i := 2) rfl
  have x3 := XS.out.cell (i := 3) rfl
  have y0 := XT.out.cell (i := 0) rfl
  have y1 := XT.out.cell (i := 1) rfl
  have y2 := XT.out.cell (i := 2) rfl
  have y3 := XT.out.cell (i := 3) rfl
  have z1 : (rm.toList == rm.toList) = true := beq_self_eq_true _
  go_enter Tryz.func9, Tryz.ntmps9
  go_wp2_with (first
    | (go_at_call 21; (with_reducible refine HS.out.mono ?_); rintro e w1 ⟨rfl, hb⟩; have B1 := Lib.hid (BA.out.trans (hb.mono BA.out.size)); clear hb)
    | go_in)
  go_ret
  exact ⟨rfl, B1.out⟩
end Go.Proofs.YtbkchcpfnoclhaaGreat
