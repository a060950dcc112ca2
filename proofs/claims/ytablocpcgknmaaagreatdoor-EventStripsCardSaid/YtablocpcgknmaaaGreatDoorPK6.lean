/- The checks of lists of rooms. No condition. -/
import Derived.Test.YtablocpcgknmaaaGreatDoorPK5
namespace Go.Proofs.YtablocpcgknmaaaGreatDoor
open Go Go.RowKit
set_option linter.unusedVariables false
set_option linter.unusedSimpArgs false
set_option maxRecDepth 100000

theorem blk_dn {w : World} {t : Nat} {cs : List Value} {T : TypeId} (h : Blk w t cs T) (n : Nat) : Blk (w.drewN n) t cs T := ⟨h.heap⟩
theorem room_ok (s : ByteArray) (hs : s.size ≤ 9223372036854775807) (hq : I.mkd 33 (bys s) = true) (w : World) : Calls Tryz.prog 90 #[.string s] w fun e w' => e = .returned (.int .i64 0) ∧ Below w.heap.size w w' := by
  have := room_any s hs w
  rwa [hq] at this
theorem room_no (s : ByteArray) (hs : s.size ≤ 9223372036854775807) (hq : I.mkd 33 (bys s) = false) (w : World) : Calls Tryz.prog 90 #[.string s] w fun e w' => e = .returned (.int .i64 3) ∧ Below w.heap.size w w' := by
  have := room_any s hs w
  rwa [hq] at this
theorem rroom_ok (s : ByteArray) (hs : s.size ≤ 9223372036854775807) (hq : I.mkd 33 (bys s) = true) (w : World) : Calls Tryz.prog 99 #[.string s] w fun e w' => e = .returned (.int .i64 0) ∧ w = w' := by
  have HM := Lib.hid (marked_any s 33 (by decide) hs w)
  rw [hq] at HM
  clear hq
  go_enter Tryz.func99, Tryz.ntmps99
  go_wp2_with (go_at_call 56; (with_reducible refine HM.out.mono ?_); rintro e w' ⟨rfl, rfl⟩)
  go_ret
  exact ⟨rfl, rfl⟩
theorem rroom_no (s : ByteArray) (hs : s.size ≤ 9223372036854775807) (hq : I.mkd 33 (bys s) = false) (w : World) : Calls Tryz.prog 99 #[.string s] w fun e w' => e = .returned (.int .i64 3) ∧ w = w' := by
  have HM := Lib.hid (marked_any s 33 (by decide) hs w)
  rw [hq] at HM
  clear hq
  go_enter Tryz.func99, Tryz.ntmps99
  go_wp2_with (go_at_call 56; (with_reducible refine HM.out.mono ?_); rintro e w' ⟨rfl, rfl⟩)
  go_ret
  exact ⟨rfl, rfl⟩
set_option maxHeartbeats 8000000 in
theorem rooms135 (C : Cn) (a : Ads) (w : World) (h : IsC w C a) : Calls Tryz.prog 200 #[.agg (ccs C a).toArray] w fun e w' => e = .returned (.int .i64 (chkR C.n C.al)) ∧ Below w.heap.size w w' := by
  obtain ⟨tx, n, tg, th, via, al, dn, us, ks, d, x3, x4, x5, x6, x7, x8⟩ := C
  obtain ⟨aA, aC, dA, dC, uA, uC, kA, kC⟩ := a
  have H := Lib.hid h.al
  dsimp only at H ⊢
  clear h
  have BA := Lib.hid ((Below.refl w.heap.size w).alloc (Nat.le_refl _) (.cells #[.string tx, .int .i64 n, .int .i64 tg, .bool th, .string via, .slice aA al.length aC, .slice dA dn.length dC, .slice uA us.length uC, .slice kA ks.length kC, .int .i64 d, .int .i64 x3, .int .i64 x4, .int .i64 x5, .int .i64 x6, .int .i64 x7, .int .i64 x8] 30))
  have X0 := Lib.hid (blk_new w [.string tx, .int .i64 n, .int .i64 tg, .bool th, .string via, .slice aA al.length aC, .slice dA dn.length dC, .slice uA us.length uC, .slice kA ks.length kC, .int .i64 d, .int .i64 x3, .int .i64 x4, .int .i64 x5, .int .i64 x6, .int .i64 x7, .int .i64 x8] 30)
  have HC := Lib.hid (show chkR n al = if 0 < al.length ∧ n ≠ 3 then 1 else if 100 < al.length then 7 else chkRs none al from rfl)
  generalize chkR n al = r at HC ⊢
  have hbig := H.out.rws.big
  unfold maxLen at hbig
  have y5 := X0.out.cell (i := 5) rfl
  have y1 := X0.out.cell (i := 1) rfl
  show Calls Tryz.prog 200 #[.agg #[.string tx, .int .i64 n, .int .i64 tg, .bool th, .string via, .slice aA al.length aC, .slice dA dn.length dC, .slice uA us.length uC, .slice kA ks.length kC, .int .i64 d, .int .i64 x3, .int .i64 x4, .int .i64 x5, .int .i64 x6, .int .i64 x7, .int .i64 x8]] w _
  by_cases hl0 : 0 < al.length
  · have hl0z : (0 : Int) < (al.length : Int) := by omega
    have d0 : decide (0 < al.length) = true := decide_eq_true hl0
    have d1 : decide ((0 : Int) < (al.length : Int)) = true := decide_eq_true hl0z
    by_cases hn3 : n = 3
    · have HC2 := Lib.hid (HC.out.trans (if_neg (fun q => q.2 hn3)))
      subst hn3
      clear HC
      by_cases hn : (100 : Int) < (al.length : Int)
      · have HE := Lib.hid (HC2.out.trans (if_pos (by omega)))
        go_enter Tryz.func200, Tryz.ntmps200
        go_wp2
        go_ret
        exact ⟨ret_i HE.out, BA.out⟩
      · have HE := Lib.hid (HC2.out.trans (if_neg (by omega)))
        clear HC2
        go_enter Tryz.func200, Tryz.ntmps200
        go_wp2
        clear d0 d1
        go_loopg [21] al.length (fun gg s wr => ∃ (k : Nat), k ≤ al.length ∧ al.length - k ≤ gg ∧ s = .int .i64 (k : Int) ∧ Hid (r = chkRs (prR al k) (al.drop k)) ∧ Hid (Below w.heap.size w wr) ∧ Hid (Blk wr w.heap.size [.string tx, .int .i64 3, .int .i64 tg, .bool th, .string via, .slice aA al.length aC, .slice dA dn.length dC, .slice uA us.length uC, .slice kA ks.length kC, .int .i64 d, .int .i64 x3, .int .i64 x4, .int .i64 x5, .int .i64 x6, .int .i64 x7, .int .i64 x8] 30))
        case atStart => exact ⟨0, Nat.zero_le _, by omega, by go_num, HE, BA, X0⟩
        case round =>
          clear HE X0 BA y5 y1
          obtain ⟨k, hk, hg, rfl, HR, BW, X⟩ := hrel
          have y5 := X.out.cell (i := 5) rfl
          by_cases hlt : k < al.length
          · have hltz : (k : Int) < (al.length : Int) := by omega
            have hk0 : (0 : Int) ≤ (k : Int) := by omega
            have HS := Lib.hid (HR.out.trans (stepR hlt))
            have HPr := Lib.hid (fun (h0 : 0 < k) => (H.out.below BW.out).strs.str (k := k - 1) (by omega))
            have HLe := Lib.hid (fun (h0 : ¬ 0 < k) => leR_none (x := al.getD k ByteArray.empty) (l := al) h0)
            have HLs := Lib.hid (fun (h0 : 0 < k) => leR_some (x := al.getD k ByteArray.empty) (l := al) h0)
            obtain ⟨b, off, rfl, t, ht, hts, hb0, q0⟩ := (H.out.below BW.out).strs.str hlt
            have HB0 := Lib.hid hb0
            rw [← ht] at HS HLe HLs
            have HT := Lib.hid hts
            clear ht hts HR hb0
            rcases hq : I.mkd 33 (bys t) with _ | _
            · have HQ := Lib.hid hq
              have HE := Lib.hid (HS.out.trans (if_pos hq))
              clear hq HS
              go_wp2_with (first | (go_at_call 90; (with_reducible refine (room_no t HT.out HQ.out _).mono ?_); rintro e w2 ⟨rfl, hb⟩; have C2 := Lib.hid hb; have B2 := Lib.hid (BW.out.trans (hb.mono BW.out.size)); have X2 := Lib.hid (X.out.below hb); clear hb y5; have y5 := X2.out.cell (i := 5) rfl) | fail)
              go_ret
              exact ⟨ret_i HE.out, B2.out⟩
            · have HQ := Lib.hid hq
              have HS2 := Lib.hid (HS.out.trans (if_neg (by rw [hq]; simp)))
              clear hq HS
              go_upto_region 10 with (first | (go_at_call 90; (with_reducible refine (room_ok t HT.out HQ.out _).mono ?_); rintro e w2 ⟨rfl, hb⟩; have C2 := Lib.hid hb; have B2 := Lib.hid (BW.out.trans (hb.mono BW.out.size)); have X2 := Lib.hid (X.out.below hb); clear hb y5; have y5 := X2.out.cell (i := 5) rfl) | fail)
              by_cases h0 : 0 < k
              · have h0z : (0 : Int) < (k : Int) := by omega
                have d0 : decide (0 < k) = true := decide_eq_true h0
                have d1 : decide ((0 : Int) < (k : Int)) = true := decide_eq_true h0z
                have hk1 : ((k : Int) - 1).toNat = k - 1 := by omega
                have hk2 : (0 : Int) ≤ (k : Int) - 1 := by omega
                have hk3 : (k : Int) - 1 < (al.length : Int) := by omega
                have hk4 : (1 : Int) ≤ (k : Int) := by omega
                obtain ⟨b', off', hAd, v, hv, hvs, _, q1⟩ := HPr.out h0
                simp only [Option.some.injEq, Addr.mk.injEq, and_true] at hAd
                obtain ⟨rfl, rfl⟩ := hAd
                have HLt := Lib.hid (HLs.out h0)
                rw [← hv] at HLt
                clear HLs HLe HPr hv hvs
                have q2 : w2.cell? ⟨b, off + (k - 1), none⟩ = some (.string v) := (C2.out.cell (p := ⟨b, _, none⟩) HB0.out).trans q1
                clear q1
                unfold leS at HLt
                cases e1 : Op.bytesLess t.toList v.toList
                · cases e2 : t.toList == v.toList
                  · rw [e1, e2] at HLt
                    have HR2 := Lib.hid (HS2.out.trans (if_neg (by rw [HLt.out]; simp)))
                    clear HS2 HLt
                    go_wp2
                    go_roundg (al.length - (k + 1))
                    case measure => omega
                    case rel => exact ⟨k + 1, by omega, by omega, by go_num, HR2, B2, X2⟩
                  · rw [e1, e2] at HLt
                    have HE := Lib.hid (HS2.out.trans (if_pos HLt.out))
                    clear HS2 HLt
                    go_wp2
                    go_ret
                    exact ⟨ret_i HE.out, B2.out⟩
                · rw [e1] at HLt
                  have HE := Lib.hid (HS2.out.trans (if_pos HLt.out))
                  clear HS2 HLt
                  go_wp2
                  go_ret
                  exact ⟨ret_i HE.out, B2.out⟩
              · have h0z : ¬ (0 : Int) < (k : Int) := by omega
                have d0 : decide (0 < k) = false := decide_eq_false h0
                have d1 : decide ((0 : Int) < (k : Int)) = false := decide_eq_false h0z
                have HLt := Lib.hid (HLe.out h0)
                clear HLs HLe HPr
                have HR2 := Lib.hid (HS2.out.trans (if_neg (by rw [HLt.out]; simp)))
                clear HS2 HLt
                go_wp2
                go_roundg (al.length - (k + 1))
                case measure => omega
                case rel => exact ⟨k + 1, by omega, by omega, by go_num, HR2, B2, X2⟩
          · have hltz : ¬ (k : Int) < (al.length : Int) := by omega
            have HE := Lib.hid (HR.out.trans (show chkRs (prR al k) (al.drop k) = 0 by rw [List.drop_eq_nil_of_le (by omega)]; rfl))
            go_wp2
            go_ret
            exact ⟨ret_i HE.out, BW.out⟩
    · have HE := Lib.hid (HC.out.trans (if_pos ⟨hl0, hn3⟩))
      have hq : (n == 3) = false := by simpa using hn3
      clear HC
      go_enter Tryz.func200, Tryz.ntmps200
      go_wp2
      go_ret
      exact ⟨ret_i HE.out, BA.out⟩
  · have hal : al = [] := List.eq_nil_of_length_eq_zero (by omega)
    subst hal
    have HE := Lib.hid (HC.out.trans ((if_neg (fun q => hl0 q.1)).trans ((if_neg (by simp)).trans (show chkRs none [] = 0 from rfl))))
    clear HC H hl0 hbig BA
    have BA := Lib.hid ((Below.refl w.heap.size w).alloc (Nat.le_refl _) (.cells #[.string tx, .int .i64 n, .int .i64 tg, .bool th, .string via, .slice aA 0 aC, .slice dA dn.length dC, .slice uA us.length uC, .slice kA ks.length kC, .int .i64 d, .int .i64 x3, .int .i64 x4, .int .i64 x5, .int .i64 x6, .int .i64 x7, .int .i64 x8] 30))
    have y5 : (w.alloc (.cells #[.string tx, .int .i64 n, .int .i64 tg, .bool th, .string via, .slice aA 0 aC, .slice dA dn.length dC, .slice uA us.length uC, .slice kA ks.length kC, .int .i64 d, .int .i64 x3, .int .i64 x4, .int .i64 x5, .int .i64 x6, .int .i64 x7, .int .i64 x8] 30)).cell? ⟨w.heap.size, 5, none⟩ = some (.slice aA 0 aC) := (blk_new w [.string tx, .int .i64 n, .int .i64 tg, .bool th, .string via, .slice aA 0 aC, .slice dA dn.length dC, .slice uA us.length uC, .slice kA ks.length kC, .int .i64 d, .int .i64 x3, .int .i64 x4, .int .i64 x5, .int .i64 x6, .int .i64 x7, .int .i64 x8] 30).cell (i := 5) rfl
    have y1 : (w.alloc (.cells #[.string tx, .int .i64 n, .int .i64 tg, .bool th, .string via, .slice aA 0 aC, .slice dA dn.length dC, .slice uA us.length uC, .slice kA ks.length kC, .int .i64 d, .int .i64 x3, .int .i64 x4, .int .i64 x5, .int .i64 x6, .int .i64 x7, .int .i64 x8] 30)).cell? ⟨w.heap.size, 1, none⟩ = some (.int .i64 n) := (blk_new w [.string tx, .int .i64 n, .int .i64 tg, .bool th, .string via, .slice aA 0 aC, .slice dA dn.length dC, .slice uA us.length uC, .slice kA ks.length kC, .int .i64 d, .int .i64 x3, .int .i64 x4, .int .i64 x5, .int .i64 x6, .int .i64 x7, .int .i64 x8] 30).cell (i := 1) rfl
    clear X0
    show Calls Tryz.prog 200 #[.agg #[.string tx, .int .i64 n, .int .i64 tg, .bool th, .string via, .slice aA 0 aC, .slice dA dn.length dC, .slice uA us.length uC, .slice kA ks.length kC, .int .i64 d, .int .i64 x3, .int .i64 x4, .int .i64 x5, .int .i64 x6, .int .i64 x7, .int .i64 x8]] w _
    go_enter Tryz.func200, Tryz.ntmps200
    go_wp2
    go_loopg [21] 1 (fun gg s wr => s = .int .i64 0 ∧ Hid (Below w.heap.size w wr) ∧ Hid (Blk wr w.heap.size [.string tx, .int .i64 n, .int .i64 tg, .bool th, .string via, .slice aA 0 aC, .slice dA dn.length dC, .slice uA us.length uC, .slice kA ks.length kC, .int .i64 d, .int .i64 x3, .int .i64 x4, .int .i64 x5, .int .i64 x6, .int .i64 x7, .int .i64 x8] 30))
    case atStart => exact ⟨rfl, BA, Lib.hid (blk_new w [.string tx, .int .i64 n, .int .i64 tg, .bool th, .string via, .slice aA 0 aC, .slice dA dn.length dC, .slice uA us.length uC, .slice kA ks.length kC, .int .i64 d, .int .i64 x3, .int .i64 x4, .int .i64 x5, .int .i64 x6, .int .i64 x7, .int .i64 x8] 30)⟩
    case round =>
      obtain ⟨rfl, BW, X⟩ := hrel
      clear y5 y1
      have y5 := X.out.cell (i := 5) rfl
      go_wp2
      go_ret
      exact ⟨ret_i HE.out, BW.out⟩
set_option maxHeartbeats 8000000 in
theorem rooms46 (C : Cn) (a : Ads) (w : World) (h : IsC w C a) : Calls Tryz.prog 110 #[.agg (ccs C a).toArray] w fun e w' => e = .returned (.int .i64 (chkR C.n C.al)) ∧ Below w.heap.size w w' := by
  obtain ⟨tx, n, tg, th, via, al, dn, us, ks, d, x3, x4, x5, x6, x7, x8⟩ := C
  obtain ⟨aA, aC, dA, dC, uA, uC, kA, kC⟩ := a
  have H := Lib.hid h.al
  dsimp only at H ⊢
  clear h
  have BA := Lib.hid ((Below.refl w.heap.size w).alloc (Nat.le_refl _) (.cells #[.string tx, .int .i64 n, .int .i64 tg, .bool th, .string via, .slice aA al.length aC, .slice dA dn.length dC, .slice uA us.length uC, .slice kA ks.length kC, .int .i64 d, .int .i64 x3, .int .i64 x4, .int .i64 x5, .int .i64 x6, .int .i64 x7, .int .i64 x8] 30))
  have X0 := Lib.hid (blk_new w [.string tx, .int .i64 n, .int .i64 tg, .bool th, .string via, .slice aA al.length aC, .slice dA dn.length dC, .slice uA us.length uC, .slice kA ks.length kC, .int .i64 d, .int .i64 x3, .int .i64 x4, .int .i64 x5, .int .i64 x6, .int .i64 x7, .int .i64 x8] 30)
  have HC := Lib.hid (show chkR n al = if 0 < al.length ∧ n ≠ 3 then 1 else if 100 < al.length then 7 else chkRs none al from rfl)
  generalize chkR n al = r at HC ⊢
  have hbig := H.out.rws.big
  unfold maxLen at hbig
  have y5 := X0.out.cell (i := 5) rfl
  have y1 := X0.out.cell (i := 1) rfl
  show Calls Tryz.prog 110 #[.agg #[.string tx, .int .i64 n, .int .i64 tg, .bool th, .string via, .slice aA al.length aC, .slice dA dn.length dC, .slice uA us.length uC, .slice kA ks.length kC, .int .i64 d, .int .i64 x3, .int .i64 x4, .int .i64 x5, .int .i64 x6, .int .i64 x7, .int .i64 x8]] w _
  by_cases hl0 : 0 < al.length
  · have hl0z : (0 : Int) < (al.length : Int) := by omega
    have d0 : decide (0 < al.length) = true := decide_eq_true hl0
    have d1 : decide ((0 : Int) < (al.length : Int)) = true := decide_eq_true hl0z
    by_cases hn3 : n = 3
    · have HC2 := Lib.hid (HC.out.trans (if_neg (fun q => q.2 hn3)))
      subst hn3
      clear HC
      by_cases hn : (100 : Int) < (al.length : Int)
      · have HE := Lib.hid (HC2.out.trans (if_pos (by omega)))
        go_enter Tryz.func110, Tryz.ntmps110
        go_wp2
        go_ret
        exact ⟨ret_i HE.out, BA.out⟩
      · have HE := Lib.hid (HC2.out.trans (if_neg (by omega)))
        clear HC2
        go_enter Tryz.func110, Tryz.ntmps110
        go_wp2
        clear d0 d1
        go_loopg [3] al.length (fun gg s wr => ∃ (k : Nat), k ≤ al.length ∧ al.length - k ≤ gg ∧ s = .int .i64 (k : Int) ∧ Hid (r = chkRs (prR al k) (al.drop k)) ∧ Hid (Below w.heap.size w wr) ∧ Hid (Blk wr w.heap.size [.string tx, .int .i64 3, .int .i64 tg, .bool th, .string via, .slice aA al.length aC, .slice dA dn.length dC, .slice uA us.length uC, .slice kA ks.length kC, .int .i64 d, .int .i64 x3, .int .i64 x4, .int .i64 x5, .int .i64 x6, .int .i64 x7, .int .i64 x8] 30))
        case atStart => exact ⟨0, Nat.zero_le _, by omega, by go_num, HE, BA, X0⟩
        case round =>
          clear HE X0 BA y5 y1
          obtain ⟨k, hk, hg, rfl, HR, BW, X⟩ := hrel
          have y5 := X.out.cell (i := 5) rfl
          by_cases hlt : k < al.length
          · have hltz : (k : Int) < (al.length : Int) := by omega
            have hk0 : (0 : Int) ≤ (k : Int) := by omega
            have HS := Lib.hid (HR.out.trans (stepR hlt))
            have HPr := Lib.hid (fun (h0 : 0 < k) => (H.out.below BW.out).strs.str (k := k - 1) (by omega))
            have HLe := Lib.hid (fun (h0 : ¬ 0 < k) => leR_none (x := al.getD k ByteArray.empty) (l := al) h0)
            have HLs := Lib.hid (fun (h0 : 0 < k) => leR_some (x := al.getD k ByteArray.empty) (l := al) h0)
            obtain ⟨b, off, rfl, t, ht, hts, hb0, q0⟩ := (H.out.below BW.out).strs.str hlt
            have HB0 := Lib.hid hb0
            rw [← ht] at HS HLe HLs
            have HT := Lib.hid hts
            clear ht hts HR hb0
            rcases hq : I.mkd 33 (bys t) with _ | _
            · have HQ := Lib.hid hq
              have HE := Lib.hid (HS.out.trans (if_pos hq))
              clear hq HS
              go_wp2_with (first | (go_at_call 99; (with_reducible refine (rroom_no t HT.out HQ.out _).mono ?_); rintro e w2 ⟨rfl, rfl⟩) | fail)
              go_ret
              exact ⟨ret_i HE.out, BW.out⟩
            · have HQ := Lib.hid hq
              have HS2 := Lib.hid (HS.out.trans (if_neg (by rw [hq]; simp)))
              clear hq HS
              go_upto_region 10 with (first | (go_at_call 99; (with_reducible refine (rroom_ok t HT.out HQ.out _).mono ?_); rintro e w2 ⟨rfl, rfl⟩) | fail)
              by_cases h0 : 0 < k
              · have h0z : (0 : Int) < (k : Int) := by omega
                have d0 : decide (0 < k) = true := decide_eq_true h0
                have d1 : decide ((0 : Int) < (k : Int)) = true := decide_eq_true h0z
                have hk1 : ((k : Int) - 1).toNat = k - 1 := by omega
                have hk2 : (0 : Int) ≤ (k : Int) - 1 := by omega
                have hk3 : (k : Int) - 1 < (al.length : Int) := by omega
                have hk4 : (1 : Int) ≤ (k : Int) := by omega
                obtain ⟨b', off', hAd, v, hv, hvs, _, q1⟩ := HPr.out h0
                simp only [Option.some.injEq, Addr.mk.injEq, and_true] at hAd
                obtain ⟨rfl, rfl⟩ := hAd
                have HLt := Lib.hid (HLs.out h0)
                rw [← hv] at HLt
                clear HLs HLe HPr hv hvs
                have q2 : wr.cell? ⟨b, off + (k - 1), none⟩ = some (.string v) := q1
                clear q1
                unfold leS at HLt
                cases e1 : Op.bytesLess t.toList v.toList
                · cases e2 : t.toList == v.toList
                  · rw [e1, e2] at HLt
                    have HR2 := Lib.hid (HS2.out.trans (if_neg (by rw [HLt.out]; simp)))
                    clear HS2 HLt
                    go_quiet (fail)
                    go_wp2
                    go_roundg (al.length - (k + 1))
                    case measure => omega
                    case rel => exact ⟨k + 1, by omega, by omega, by go_num, HR2, Lib.hid (bel_dn BW.out _), Lib.hid (blk_dn X.out _)⟩
                  · rw [e1, e2] at HLt
                    have HE := Lib.hid (HS2.out.trans (if_pos HLt.out))
                    clear HS2 HLt
                    go_quiet (fail)
                    go_wp2
                    go_ret
                    exact ⟨ret_i HE.out, bel_dn BW.out _⟩
                · rw [e1] at HLt
                  have HE := Lib.hid (HS2.out.trans (if_pos HLt.out))
                  clear HS2 HLt
                  go_quiet (fail)
                  go_wp2
                  go_ret
                  exact ⟨ret_i HE.out, bel_dn BW.out _⟩
              · have h0z : ¬ (0 : Int) < (k : Int) := by omega
                have d0 : decide (0 < k) = false := decide_eq_false h0
                have d1 : decide ((0 : Int) < (k : Int)) = false := decide_eq_false h0z
                have HLt := Lib.hid (HLe.out h0)
                clear HLs HLe HPr
                have HR2 := Lib.hid (HS2.out.trans (if_neg (by rw [HLt.out]; simp)))
                clear HS2 HLt
                go_quiet (fail)
                go_wp2
                go_roundg (al.length - (k + 1))
                case measure => omega
                case rel => exact ⟨k + 1, by omega, by omega, by go_num, HR2, Lib.hid (bel_dn BW.out _), Lib.hid (blk_dn X.out _)⟩
          · have hltz : ¬ (k : Int) < (al.length : Int) := by omega
            have HE := Lib.hid (HR.out.trans (show chkRs (prR al k) (al.drop k) = 0 by rw [List.drop_eq_nil_of_le (by omega)]; rfl))
            go_wp2
            go_ret
            exact ⟨ret_i HE.out, BW.out⟩
    · have HE := Lib.hid (HC.out.trans (if_pos ⟨hl0, hn3⟩))
      have hq : (n == 3) = false := by simpa using hn3
      clear HC
      go_enter Tryz.func110, Tryz.ntmps110
      go_wp2
      go_ret
      exact ⟨ret_i HE.out, BA.out⟩
  · have hal : al = [] := List.eq_nil_of_length_eq_zero (by omega)
    subst hal
    have HE := Lib.hid (HC.out.trans ((if_neg (fun q => hl0 q.1)).trans ((if_neg (by simp)).trans (show chkRs none [] = 0 from rfl))))
    clear HC H hl0 hbig BA
    have BA := Lib.hid ((Below.refl w.heap.size w).alloc (Nat.le_refl _) (.cells #[.string tx, .int .i64 n, .int .i64 tg, .bool th, .string via, .slice aA 0 aC, .slice dA dn.length dC, .slice uA us.length uC, .slice kA ks.length kC, .int .i64 d, .int .i64 x3, .int .i64 x4, .int .i64 x5, .int .i64 x6, .int .i64 x7, .int .i64 x8] 30))
    have y5 : (w.alloc (.cells #[.string tx, .int .i64 n, .int .i64 tg, .bool th, .string via, .slice aA 0 aC, .slice dA dn.length dC, .slice uA us.length uC, .slice kA ks.length kC, .int .i64 d, .int .i64 x3, .int .i64 x4, .int .i64 x5, .int .i64 x6, .int .i64 x7, .int .i64 x8] 30)).cell? ⟨w.heap.size, 5, none⟩ = some (.slice aA 0 aC) := (blk_new w [.string tx, .int .i64 n, .int .i64 tg, .bool th, .string via, .slice aA 0 aC, .slice dA dn.length dC, .slice uA us.length uC, .slice kA ks.length kC, .int .i64 d, .int .i64 x3, .int .i64 x4, .int .i64 x5, .int .i64 x6, .int .i64 x7, .int .i64 x8] 30).cell (i := 5) rfl
    have y1 : (w.alloc (.cells #[.string tx, .int .i64 n, .int .i64 tg, .bool th, .string via, .slice aA 0 aC, .slice dA dn.length dC, .slice uA us.length uC, .slice kA ks.length kC, .int .i64 d, .int .i64 x3, .int .i64 x4, .int .i64 x5, .int .i64 x6, .int .i64 x7, .int .i64 x8] 30)).cell? ⟨w.heap.size, 1, none⟩ = some (.int .i64 n) := (blk_new w [.string tx, .int .i64 n, .int .i64 tg, .bool th, .string via, .slice aA 0 aC, .slice dA dn.length dC, .slice uA us.length uC, .slice kA ks.length kC, .int .i64 d, .int .i64 x3, .int .i64 x4, .int .i64 x5, .int .i64 x6, .int .i64 x7, .int .i64 x8] 30).cell (i := 1) rfl
    clear X0
    show Calls Tryz.prog 110 #[.agg #[.string tx, .int .i64 n, .int .i64 tg, .bool th, .string via, .slice aA 0 aC, .slice dA dn.length dC, .slice uA us.length uC, .slice kA ks.length kC, .int .i64 d, .int .i64 x3, .int .i64 x4, .int .i64 x5, .int .i64 x6, .int .i64 x7, .int .i64 x8]] w _
    go_enter Tryz.func110, Tryz.ntmps110
    go_wp2
    go_loopg [3] 1 (fun gg s wr => s = .int .i64 0 ∧ Hid (Below w.heap.size w wr) ∧ Hid (Blk wr w.heap.size [.string tx, .int .i64 n, .int .i64 tg, .bool th, .string via, .slice aA 0 aC, .slice dA dn.length dC, .slice uA us.length uC, .slice kA ks.length kC, .int .i64 d, .int .i64 x3, .int .i64 x4, .int .i64 x5, .int .i64 x6, .int .i64 x7, .int .i64 x8] 30))
    case atStart => exact ⟨rfl, BA, Lib.hid (blk_new w [.string tx, .int .i64 n, .int .i64 tg, .bool th, .string via, .slice aA 0 aC, .slice dA dn.length dC, .slice uA us.length uC, .slice kA ks.length kC, .int .i64 d, .int .i64 x3, .int .i64 x4, .int .i64 x5, .int .i64 x6, .int .i64 x7, .int .i64 x8] 30)⟩
    case round =>
      obtain ⟨rfl, BW, X⟩ := hrel
      clear y5 y1
      have y5 := X.out.cell (i := 5) rfl
      go_wp2
      go_ret
      exact ⟨ret_i HE.out, BW.out⟩
end Go.Proofs.YtablocpcgknmaaaGreatDoor
