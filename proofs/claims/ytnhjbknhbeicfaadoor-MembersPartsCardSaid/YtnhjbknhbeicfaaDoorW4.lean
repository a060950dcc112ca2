/- The reference's With; SameTexts at equal lists. Bound: at most 90000 events. -/
import Derived.Test.YtnhjbknhbeicfaaDoorW3
import Derived.BigQuiet
import Derived.WalkSmall
namespace Go.Proofs.YtnhjbknhbeicfaaDoor
open Go.RowKit
set_option linter.unusedVariables false
set_option linter.unusedSimpArgs false

theorem bs_txr (zs : List T.Rc) : bs (txr zs) = zs.map T.Rc.s := by rw [← tx_txr, bs_tx]
theorem names_of {w w' : World} {A : Option Addr} {n c : Nat} {zz : List T.Rc} {l : List I.Txt} (h : T.Rcs w' A n c zz) (e : txr zz = l) (hb : Below w.heap.size w w') : NamesP w l (.returned (.slice A n c)) w' := by
  have hl : l.length = n := by rw [← e, txr_len, h.len]
  refine ⟨A, c, by rw [hl], by rw [hl]; exact h.cap, ?_, hb⟩
  rw [hl, ← e, bs_txr]
  exact h.strs
set_option maxRecDepth 100000 in
set_option maxHeartbeats 8000000 in
theorem rwith14 (A : Option Addr) (n c : Nat) (K : Nat → Kc) (m : Int) (w : World) (h : Evk w A n K) (hn : n ≤ 90000) : Calls Tryd.prog 14 #[.slice A n c, .int .i64 m] w (NamesP w (wl n K m)) := by
  have H := Lib.hid h
  have B0 := Lib.hid ((Below.refl w.heap.size w).alloc (Nat.le_refl _) (.cells #[] 9))
  have R0 : Hid (T.Rcs (w.alloc (.cells #[] 9)) (some ⟨w.heap.size, 0, none⟩) 0 0 []) := Lib.hid (T.Rcs.ofBlk (blk_new w [] 9) rfl rfl (Nat.le_refl _) (by omega) (by simp))
  clear h
  go_enter Tryd.func14, Tryd.ntmps14
  go_wp2
  go_loopg [5, 6] n (fun gg s5 s6 wr => ∃ (kk nz : Nat) (zz : List T.Rc) (A1 : Option Addr) (c1 : Nat), kk ≤ n ∧ n - kk ≤ gg ∧ s6 = .int .i64 kk ∧ s5 = .slice A1 nz c1 ∧ nz ≤ kk ∧ Hid (Gs (cores n K) m kk (txr zz)) ∧ Hid (T.Rcs wr A1 nz c1 zz) ∧ Hid (Below w.heap.size w wr))
  case atStart => exact ⟨0, 0, [], _, 0, Nat.zero_le _, by omega, rfl, rfl, Nat.le_refl _, Lib.hid (Gs.nil _ m), R0, B0⟩
  case round =>
    obtain ⟨kk, nz, zz, A1, c1, hkk, hg, rfl, rfl, hnz, HG, HR, BW⟩ := hrel
    by_cases hlt : kk < n
    · have hltz : (kk : Int) < (n : Int) := by omega
      obtain ⟨b, off, rfl, _, k3, k5, k11⟩ := (H.out.below BW.out).get hlt
      have hfit := H.out.fit kk hlt
      have hL : kk < (cores n K).length := by rw [cores_len]; exact hlt
      have HCg := Lib.hid (cores_get (K := K) hlt)
      have HGk := HG
      generalize hp : K kk = p at k3 k5 k11 hfit HCg
      have C11 := Lib.hid (fun wr' (hb : Below w.heap.size w wr') => of11 (some ⟨b, off, none⟩) n c K p.key wr' (H.out.below hb))
      cases q1 : (p.kd == 2)
      · have HS2 : Hid (Gs (cores n K) m (kk + 1) (txr zz)) := Lib.hid (HGk.out.skip hL (by rw [HCg.out]; intro hc; rw [beq_eq_false_iff_ne] at q1; exact q1 hc.1))
        have q1b : (p.kd != 2) = true := by rw [bne, q1]; rfl
        clear C11 hp
        go_wp2
        go_roundg (n - (kk + 1))
        case measure => omega
        case rel => exact ⟨kk + 1, nz, zz, A1, c1, by omega, by omega, by go_num, rfl, by omega, HS2, HR, BW⟩
      · have hk2 : p.kd = 2 := by rw [beq_iff_eq] at q1; exact q1
        by_cases hm2 : memC (cores n K) p.key.data.toList = m
        · have HAd : Hid (∀ out', I.Srt out' → (∀ x, x ∈ out' ↔ x = p.key.data.toList ∨ x ∈ txr zz) → Gs (cores n K) m (kk + 1) out') := Lib.hid (fun out' h1 h2 => HGk.out.add hL (by rw [HCg.out]; exact hk2) (by rw [HCg.out]; exact hm2) h1 (by rw [HCg.out]; exact h2))
          have q3b : (memC (cores n K) p.key.data.toList == m) = true := by rw [hm2]; exact beq_self_eq_true _
          have HS2 : Hid (Gs (cores n K) m (kk + 1) (putT (txr zz) p.key.data.toList)) := Lib.hid (HAd.out _ (put_srt HGk.out.1 _) (put_mem _ _))
          clear HAd hm2 hp hk2
          generalize memC (cores n K) p.key.data.toList = r at *
          go_wp2_with (first
            | (go_at_call 11; refine (C11.out _ BW.out).mono ?_; rintro e w3 ⟨rfl, rfl⟩)
            | (go_at_call 25; refine (put25 A1 nz c1 zz p.key _ HR.out hfit (by omega)).mono ?_; rintro e w4 ⟨A4, n4, c4, z4, rfl, h4, e4, b4⟩; have R4 := Lib.hid h4; have E4 := Lib.hid e4; have B4 := Lib.hid (BW.out.trans (b4.mono BW.out.size)); have hn4 : n4 ≤ nz + 1 := (by have h5 := put_len (txr zz) p.key.data.toList; rw [← e4, txr_len, txr_len, h4.len, HR.out.len] at h5; exact h5); clear h4 e4 b4))
          go_roundg (n - (kk + 1))
          case measure => omega
          case rel => exact ⟨kk + 1, n4, z4, A4, c4, by omega, by omega, by go_num, rfl, by omega, by rw [E4.out]; exact HS2, R4, B4⟩
        · have HS2 : Hid (Gs (cores n K) m (kk + 1) (txr zz)) := Lib.hid (HGk.out.skip hL (by rw [HCg.out]; intro hc; exact hm2 hc.2))
          have q3b : (memC (cores n K) p.key.data.toList == m) = false := beq_eq_false_iff_ne.2 hm2
          clear hm2 hp hk2
          generalize memC (cores n K) p.key.data.toList = r at *
          go_wp2_with (go_at_call 11; refine (C11.out _ BW.out).mono ?_; rintro e w3 ⟨rfl, rfl⟩)
          go_roundg (n - (kk + 1))
          case measure => omega
          case rel => exact ⟨kk + 1, nz, zz, A1, c1, by omega, by omega, by go_num, rfl, by omega, HS2, HR, BW⟩
    · have hltz : ¬ (kk : Int) < (n : Int) := by omega
      obtain rfl : kk = n := by omega
      have HE := Lib.hid (names_of (l := wl kk K m) HR.out (Gs.nm (by rw [cores_len]; exact HG.out)) BW.out)
      go_wp2
      go_ret
      exact HE.out
set_option maxRecDepth 100000 in
set_option maxHeartbeats 4000000 in
theorem same12 (A B : Option Addr) (n c d : Nat) (ls : List ByteArray) (w : World) (h1 : Strs w A n ls) (h2 : Strs w B n ls) : Calls Tryd.prog 12 #[.slice A n c, .slice B n d] w fun e w' => e = .returned (.bool true) ∧ Below w.heap.size w w' := by
  have H1 := Lib.hid h1
  have H2 := Lib.hid h2
  have hbig := h1.2.1
  clear h1 h2
  go_enter Tryd.func12, Tryd.ntmps12
  go_wp2
  go_loopg [5] n (fun gg s5 wr => ∃ kk : Nat, kk ≤ n ∧ n - kk ≤ gg ∧ s5 = .int .i64 kk ∧ Hid (Below w.heap.size w wr))
  case atStart => exact ⟨0, Nat.zero_le _, by omega, rfl, Lib.hid (Below.refl _ _)⟩
  case round =>
    obtain ⟨kk, hkk, hg, rfl, BW⟩ := hrel
    by_cases hlt : kk < n
    · have hltz : (kk : Int) < (n : Int) := by omega
      obtain ⟨b1, off1, rfl, t1, ht1, _, _, k1⟩ := (StrsB.below H1.out BW.out (Nat.le_refl _)).str hlt
      obtain ⟨b2, off2, rfl, t2, ht2, _, _, k2⟩ := (StrsB.below H2.out BW.out (Nat.le_refl _)).str hlt
      obtain rfl : t1 = t2 := ht1.trans ht2.symm
      have q : (t1.toList == t1.toList) = true := beq_self_eq_true _
      clear ht1 ht2
      go_wp2
      go_quiet (fail)
      go_wp2
      go_roundg (n - (kk + 1))
      case measure => omega
      case rel => exact ⟨kk + 1, by omega, by omega, by go_num, Lib.hid (below_drewN BW.out _)⟩
    · have hltz : ¬ (kk : Int) < (n : Int) := by omega
      go_wp2
      go_ret
      exact ⟨rfl, BW.out⟩
end Go.Proofs.YtnhjbknhbeicfaaDoor
