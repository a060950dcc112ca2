/- The reference's Servers. Bound: at most 90000 events. -/
import Derived.Test.YtnhjbknhbeicfaaDoorW7
namespace Go.Proofs.YtnhjbknhbeicfaaDoor
open Go.RowKit
set_option linter.unusedVariables false
set_option linter.unusedSimpArgs false

theorem Gv.nil (ls : List ByteArray) : Gv ls 0 [] := ⟨List.Pairwise.nil, fun x => by simp [svB, txr]⟩
set_option maxRecDepth 100000 in
set_option maxHeartbeats 8000000 in
theorem rservers17 (A : Option Addr) (n c : Nat) (K : Nat → Kc) (w : World) (h : Evk w A n K) (hn : n ≤ 90000) : Calls Tryd.prog 17 #[.slice A n c] w (NamesP w (svN (bs (wl n K 3)))) := by
  have C14 := Lib.hid (rwith14 A n c K 3 w h hn)
  have hll : (bs (wl n K 3)).length ≤ n := by unfold bs; rw [List.length_map]; exact wl_le n K 3
  have hls : (wl n K 3).length = (bs (wl n K 3)).length := by unfold bs; rw [List.length_map]
  have HLL := Lib.hid (And.intro hll hls)
  clear hll hls
  generalize wl n K 3 = ns at *
  generalize hbn : bs ns = ls at *
  have HBN := Lib.hid hbn
  clear hbn
  clear h
  go_enter Tryd.func17, Tryd.ntmps17
  go_wp2_with (go_at_call 14; refine C14.out.mono ?_; rintro e w1 ⟨A0, c0, rfl, hc0, hS, hb0⟩; have B1 := Lib.hid (hb0.alloc hb0.size (.cells #[] 9)); have HS := Lib.hid (hS.below ((Below.refl _ w1).alloc (Nat.le_refl _) (.cells #[] 9))); have HC := Lib.hid hc0; have R0 : Hid (T.Rcs (w1.alloc (.cells #[] 9)) (some ⟨w1.heap.size, 0, none⟩) 0 0 []) := Lib.hid (T.Rcs.ofBlk (blk_new w1 [] 9) rfl rfl (Nat.le_refl _) (by omega) (by simp)); clear hS hc0 hb0)
  rw [HLL.out.2] at HS HC
  rw [HBN.out] at HS
  rw [HLL.out.2]
  have HLN := Lib.hid (show ls.length ≤ n from HLL.out.1)
  clear HLL C14
  generalize hN : ls.length = N at HS HC HLN ⊢
  have HN := Lib.hid hN
  have hN9 : N ≤ 90000 := by have := HLN.out; omega
  clear hN
  have HS0 := Lib.hid (fun (wr : World) (hb : Below (w1.alloc (.cells #[] 9)).heap.size (w1.alloc (.cells #[] 9)) wr) => HS.out.below hb)
  go_loopg [4, 5] N (fun gg s5 s6 wr => ∃ (kk nz : Nat) (zz : List T.Rc) (A1 : Option Addr) (c1 : Nat), kk ≤ N ∧ N - kk ≤ gg ∧ s6 = .int .i64 kk ∧ s5 = .slice A1 nz c1 ∧ nz ≤ kk ∧ Hid (Gv ls kk (txr zz)) ∧ Hid (T.Rcs wr A1 nz c1 zz) ∧ Hid (Below w.heap.size w wr) ∧ Hid (Strs wr A0 N ls))
  case atStart => exact ⟨0, 0, [], _, 0, Nat.zero_le _, by omega, rfl, rfl, Nat.le_refl _, Lib.hid (Gv.nil _), R0, B1, HS⟩
  case round =>
    obtain ⟨kk, nz, zz, A1, c1, hkk, hg, rfl, rfl, hnz, HG, HR, BW, HW⟩ := hrel
    by_cases hlt : kk < N
    · have hltz : (kk : Int) < (N : Int) := by omega
      obtain ⟨b, off, rfl, t, ht, hfit, _, k0⟩ := HW.out.str hlt
      have hlt2 : kk < ls.length := by rw [HN.out]; exact hlt
      have HSk := Lib.hid (HG.out.skip hlt2)
      have HAd := Lib.hid (HG.out.add hlt2)
      rw [← ht] at HSk HAd
      clear ht
      have CU := Lib.hid (ruser_any t hfit)
      cases hu : usr t
      · have hu2 : I.mkd 64 (bys t) = false := hu
        rw [hu2] at CU
        have e0 : ((err false : Int) == 0) = false := err_eq false
        have HG2 := Lib.hid (HSk.out hu)
        clear HSk HAd hu hu2
        go_wp2_with (go_at_call 28; refine (CU.out _).mono ?_; rintro e w3 ⟨rfl, rfl⟩)
        go_roundg (N - (kk + 1))
        case measure => omega
        case rel => exact ⟨kk + 1, nz, zz, A1, c1, by omega, by omega, by go_num, rfl, by omega, HG2, HR, BW, HW⟩
      · have hu2 : I.mkd 64 (bys t) = true := hu
        rw [hu2] at CU
        have e0 : ((err true : Int) == 0) = true := err_eq true
        have HG2 := Lib.hid (HAd.out hu)
        have CS := Lib.hid (rserverOf_any t hfit)
        have hsz := srvA_size (m := 9223372036854775807) hfit
        clear HSk HAd hu hu2
        generalize srvA t = x at *
        go_wp2_with (first
          | (go_at_call 28; refine (CU.out _).mono ?_; rintro e w3 ⟨rfl, rfl⟩)
          | (go_at_call 29; refine (CS.out _).mono ?_; rintro e w4 ⟨rfl, rfl⟩)
          | (go_at_call 25; refine (put25 A1 nz c1 zz x _ HR.out hsz (by omega)).mono ?_; rintro e w5 ⟨A4, n4, c4, z4, rfl, h4, e4, b4⟩; have R4 := Lib.hid h4; have E4 := Lib.hid e4; have W4 := Lib.hid (HW.out.below b4); have B4 := Lib.hid (BW.out.trans (b4.mono BW.out.size)); have hn4 : n4 ≤ nz + 1 := (by have h5 := put_len (txr zz) x.data.toList; rw [← e4, txr_len, txr_len, h4.len, HR.out.len] at h5; exact h5); clear h4 e4 b4))
        go_roundg (N - (kk + 1))
        case measure => omega
        case rel => exact ⟨kk + 1, n4, z4, A4, c4, by omega, by omega, by go_num, rfl, by omega, by rw [E4.out]; exact HG2, R4, B4, W4⟩
    · have hltz : ¬ (kk : Int) < (N : Int) := by omega
      have HE := Lib.hid (names_of (l := svN ls) HR.out (Gv.nm (by have := HG.out; rw [show kk = ls.length by rw [HN.out]; omega] at this; exact this)) BW.out)
      go_wp2
      go_ret
      exact HE.out
end Go.Proofs.YtnhjbknhbeicfaaDoor
