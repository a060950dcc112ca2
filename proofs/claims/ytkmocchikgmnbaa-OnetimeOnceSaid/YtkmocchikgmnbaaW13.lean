/- One-time keys: place and Left of the reference, Left of the program. Bound: at most 900000 entries. -/
import Derived.Test.YtkmocchikgmnbaaW12
namespace Go.Proofs.Ytkmocchikgmnbaa
open Go.RowKit
set_option linter.unusedVariables false
set_option linter.unusedSimpArgs false

theorem dev_eq (u d : ByteArray) (p : Rc) : dev u d p = ((p.us.toList == u.toList) && (p.dv.toList == d.toList)) := by
  rw [Bool.eq_iff_iff, dev_iff, Bool.and_eq_true, beq_iff_eq, beq_iff_eq]
  exact ⟨fun ⟨h1, h2⟩ => ⟨by rw [h1], by rw [h2]⟩, fun ⟨h1, h2⟩ => ⟨eq_of_toList h1, eq_of_toList h2⟩⟩
set_option maxRecDepth 100000 in
set_option maxHeartbeats 4000000 in
theorem place_any (A : Option Addr) (n c : Nat) (zs : List Rc) (u d : ByteArray) (w : World) (h : Rcs w A n c zs) (hn : n ≤ 900000) : Calls Try.prog 28 #[.slice A n c, .string u, .string d] w fun e w' => e = .returned (.int .i64 (fidx (dev u d) zs)) ∧ w = w' := by
  have H := Lib.hid h
  have HL := Lib.hid h.len
  clear h
  go_enter Try.func28, Try.ntmps28
  go_wp2
  go_loopg [7] n (fun gg s7 wr => ∃ kk : Nat, kk ≤ n ∧ n - kk ≤ gg ∧ s7 = .int .i64 kk ∧ Hid (∀ j, j < kk → dev u d (zs.getD j t0) = false) ∧ wr = w)
  case atStart => exact ⟨0, Nat.zero_le _, by omega, rfl, Lib.hid (fun j hj => absurd hj (Nat.not_lt_zero _)), rfl⟩
  case round =>
    obtain ⟨kk, hkk, hg, rfl, O, rfl⟩ := hrel
    by_cases hlt : kk < n
    · have hltz : (kk : Int) < (n : Int) := by omega
      obtain ⟨b, off, rfl, hbl, k0, k1, k2, k3, _⟩ := H.out.at_ hlt
      have HV : Hid (∀ v, dev u d (zs.getD kk t0) = v → dev u d (zs.getD kk t0) = v) := Lib.hid (fun v h => h)
      have HD := Lib.hid (dev_eq u d (zs.getD kk t0))
      generalize hz : zs.getD kk t0 = p at k0 k1 k2 k3 HV HD
      have HZ := Lib.hid hz
      clear hz
      cases h1 : (p.us.toList == u.toList)
      · have HF := Lib.hid (show dev u d p = false by rw [HD.out, h1]; rfl)
        go_wp2
        go_roundg (n - (kk + 1))
        case measure => omega
        case rel =>
          refine ⟨kk + 1, by omega, by omega, by go_num, Lib.hid (fun j hj => ?_), rfl⟩
          by_cases e : j = kk
          · subst e; rw [HZ.out]; exact HF.out
          · exact O.out j (by omega)
      · cases h2 : (p.dv.toList == d.toList)
        · have HF := Lib.hid (show dev u d p = false by rw [HD.out, h1, h2]; rfl)
          go_wp2
          go_roundg (n - (kk + 1))
          case measure => omega
          case rel =>
            refine ⟨kk + 1, by omega, by omega, by go_num, Lib.hid (fun j hj => ?_), rfl⟩
            by_cases e : j = kk
            · subst e; rw [HZ.out]; exact HF.out
            · exact O.out j (by omega)
        · have HF := Lib.hid (fidx_at (q := dev u d) (by rw [HL.out]; exact hlt) (by rw [HZ.out, HD.out, h1, h2]; rfl) O.out)
          go_wp2
          go_ret
          exact ⟨ret_i64 HF.out.symm, rfl⟩
    · have hltz : ¬ (kk : Int) < (n : Int) := by omega
      have HF := Lib.hid (fidx_no (q := dev u d) (zs := zs) (fun j hj => O.out j (by rw [HL.out] at hj; omega)))
      go_wp2
      go_ret
      exact ⟨ret_i64 HF.out.symm, rfl⟩
theorem lk_fidx (zs : List Rc) (u d : ByteArray) : (fidx (dev u d) zs = -1 ∧ lk zs u d = t0 ∧ ∀ p ∈ zs, dev u d p = false) ∨ ∃ k, k < zs.length ∧ fidx (dev u d) zs = (k : Int) ∧ lk zs u d = zs.getD k t0 ∧ dev u d (zs.getD k t0) = true := by
  rcases fidx_cases (dev u d) zs with ⟨h1, h2⟩ | ⟨k, hk, h1, h2, h3⟩
  · refine .inl ⟨h1, ?_, h2⟩
    unfold lk
    rw [List.find?_eq_none.2 (fun p hp => by rw [h2 p hp]; decide)]
    rfl
  · refine .inr ⟨k, hk, h1, ?_, h2⟩
    unfold lk
    have e : zs.find? (dev u d) = some zs[k] := by
      rw [List.find?_eq_some_iff_getElem]
      rw [getD_at hk] at h2
      refine ⟨h2, k, hk, rfl, fun j hj => ?_⟩
      have := h3 zs[j] (List.mem_take_iff_getElem.2 ⟨j, by omega, rfl⟩)
      rw [this]; rfl
    rw [e, getD_at hk]; rfl
theorem rleft_any (A : Option Addr) (n c : Nat) (zs : List Rc) (u d : ByteArray) (w : World) (h : Rcs w A n c zs) (hn : n ≤ 900000) : Calls Try.prog 18 #[.slice A n c, .string u, .string d] w fun e w' => e = .returned (.int .i64 (lk zs u d).lf) ∧ w = w' := by
  have HC := Lib.hid (place_any A n c zs u d w h hn)
  rcases lk_fidx zs u d with ⟨h1, h2, _⟩ | ⟨k, hk, h1, h2, _⟩
  · have HF := Lib.hid (show (lk zs u d).lf = 0 by rw [h2]; rfl)
    rw [h1] at HC
    clear h1 h2 h
    go_enter Try.func18, Try.ntmps18
    go_wp2_with (first | (go_at_call 28; (with_reducible refine HC.out.mono ?_); rintro e w1 ⟨rfl, rfl⟩) | go_in)
    go_ret
    exact ⟨ret_i64 HF.out.symm, rfl⟩
  · have hkn : k < n := by rw [h.len] at hk; exact hk
    obtain ⟨b, off, rfl, hbl, k0, k1, k2, k3, _⟩ := h.at_ hkn
    have HF := Lib.hid h2
    generalize zs.getD k t0 = p at k0 k1 k2 k3 HF
    rw [h1] at HC
    clear h1 h2 h
    have hltz : (k : Int) < (n : Int) := by omega
    have h0 : ¬ (k : Int) < 0 := by omega
    go_enter Try.func18, Try.ntmps18
    go_wp2_with (first | (go_at_call 28; (with_reducible refine HC.out.mono ?_); rintro e w1 ⟨rfl, rfl⟩) | go_in)
    go_ret
    exact ⟨by rw [HF.out]; rfl, rfl⟩
set_option maxRecDepth 100000 in
set_option maxHeartbeats 4000000 in
theorem left_any (A : Option Addr) (n c : Nat) (zs : List Rc) (u d : ByteArray) (w : World) (h : Rcs w A n c zs) (hn : n ≤ 900000) : Calls Try.prog 17 #[.slice A n c, .string u, .string d] w fun e w' => e = .returned (.int .i64 (lk zs u d).lf) ∧ Below w.heap.size w w' := by
  have H := Lib.hid h
  have HL := Lib.hid h.len
  have HOw := Lib.hid (fun p w => owner_x p w)
  clear h
  go_enter Try.func17, Try.ntmps17
  go_wp2
  go_loopg [8, 11] n (fun gg _ s11 wr => ∃ kk : Nat, kk ≤ n ∧ n - kk ≤ gg ∧ s11 = .int .i64 kk ∧ Hid (∀ j, j < kk → dev u d (zs.getD j t0) = false) ∧ Hid (Below w.heap.size w wr))
  case atStart => exact ⟨0, Nat.zero_le _, by omega, rfl, Lib.hid (fun j hj => absurd hj (Nat.not_lt_zero _)), Lib.hid (Below.refl _ _)⟩
  case round =>
    obtain ⟨kk, hkk, hg, rfl, O, BW⟩ := hrel
    by_cases hlt : kk < n
    · have hltz : (kk : Int) < (n : Int) := by omega
      obtain ⟨b, off, rfl, hbl, k0, k1, k2, k3, _⟩ := (H.out.below BW.out).at_ hlt
      have HD := Lib.hid (dev_eq u d (zs.getD kk t0))
      generalize hz : zs.getD kk t0 = p at k0 k1 k2 k3 HD
      have HZ := Lib.hid hz
      clear hz
      have BA := Lib.hid (BW.out.alloc BW.out.size (.cells #[.string p.us, .string p.dv, .int .i64 p.nx, .int .i64 p.lf] 45))
      have XN := Lib.hid (blk_new wr [.string p.us, .string p.dv, .int .i64 p.nx, .int .i64 p.lf] 45)
      by_cases h1 : p.us.toList = u.toList
      · by_cases h2 : p.dv.toList = d.toList
        · have HV := Lib.hid (fidx_at (q := dev u d) (by rw [HL.out]; exact hlt) (by rw [HZ.out, HD.out, h1, h2]; simp) O.out)
          have HG := Lib.hid (show (lk zs u d).lf = p.lf by
            rcases lk_fidx zs u d with ⟨h3, _⟩ | ⟨k, hk, h3, h4, _⟩
            · rw [HV.out] at h3; omega
            · rw [HV.out] at h3
              obtain rfl : k = kk := by omega
              rw [h4, HZ.out])
          go_wp2_with (first | (go_at_call 21; (with_reducible refine (HOw.out p _).mono ?_); rintro e w2 ⟨rfl, hg2⟩; have B2 := Lib.hid (BA.out.trans (hg2.bel.mono BA.out.size)); have X2 := Lib.hid (XN.out.below hg2.bel); have q3 := X2.out.cell (i := 3) rfl; clear hg2) | go_in)
          go_ret
          exact ⟨ret_i64 HG.out.symm, B2.out⟩
        · have HF := Lib.hid (show dev u d p = false by rw [HD.out, Bool.and_eq_false_iff]; exact .inr (beq_eq_false_iff_ne.2 h2))
          go_wp2_with (first | (go_at_call 21; (with_reducible refine (HOw.out p _).mono ?_); rintro e w2 ⟨rfl, hg2⟩; have B2 := Lib.hid (BA.out.trans (hg2.bel.mono BA.out.size)); have X2 := Lib.hid (XN.out.below hg2.bel); have q3 := X2.out.cell (i := 3) rfl; clear hg2) | go_in)
          go_roundg (n - (kk + 1))
          case measure => omega
          case rel =>
            refine ⟨kk + 1, by omega, by omega, by go_num, Lib.hid (fun j hj => ?_), B2⟩
            by_cases e : j = kk
            · subst e; rw [HZ.out]; exact HF.out
            · exact O.out j (by omega)
      · have HF := Lib.hid (show dev u d p = false by rw [HD.out, Bool.and_eq_false_iff]; exact .inl (beq_eq_false_iff_ne.2 h1))
        go_wp2_with (first | (go_at_call 21; (with_reducible refine (HOw.out p _).mono ?_); rintro e w2 ⟨rfl, hg2⟩; have B2 := Lib.hid (BA.out.trans (hg2.bel.mono BA.out.size)); have X2 := Lib.hid (XN.out.below hg2.bel); have q3 := X2.out.cell (i := 3) rfl; clear hg2) | go_in)
        go_roundg (n - (kk + 1))
        case measure => omega
        case rel =>
          refine ⟨kk + 1, by omega, by omega, by go_num, Lib.hid (fun j hj => ?_), B2⟩
          by_cases e : j = kk
          · subst e; rw [HZ.out]; exact HF.out
          · exact O.out j (by omega)
    · have hltz : ¬ (kk : Int) < (n : Int) := by omega
      have HF := Lib.hid (fidx_no (q := dev u d) (zs := zs) (fun j hj => O.out j (by rw [HL.out] at hj; omega)))
      have HG := Lib.hid (show (lk zs u d).lf = 0 by
        rcases lk_fidx zs u d with ⟨_, h2, _⟩ | ⟨k, hk, h1, _⟩
        · rw [h2]; rfl
        · rw [HF.out] at h1; omega)
      go_wp2
      go_ret
      exact ⟨ret_i64 HG.out.symm, BW.out⟩
end Go.Proofs.Ytkmocchikgmnbaa
