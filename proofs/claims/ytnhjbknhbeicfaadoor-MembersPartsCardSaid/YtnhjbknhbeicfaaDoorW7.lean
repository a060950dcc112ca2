/- members.Servers of both. Bound: at most 90000 events. -/
import Derived.Test.YtnhjbknhbeicfaaDoorW6
namespace Go.Proofs.YtnhjbknhbeicfaaDoor
open Go.RowKit
set_option linter.unusedVariables false
set_option linter.unusedSimpArgs false

theorem svB_last (ls : List ByteArray) {kk : Nat} (h : kk = ls.length) : I.nm (txr (svB (ls.take kk))) = svN ls := by rw [h, List.take_length]; rfl
theorem err_eq (b : Bool) : (err b == 0) = b := by cases b <;> decide
/-- The texts at A do not lie in the block of v. -/
def Clr (A : Option Addr) (N : Nat) (v : Value) : Prop := 0 < N → ∀ b off, A = some ⟨b, off, none⟩ → v.ownBlock ≠ some b
theorem strs_keep {w w1 : World} {A : Option Addr} {N : Nat} {ls : List ByteArray} (h : Strs w A N ls) (hs : w.heap.size ≤ w1.heap.size) (hk : 0 < N → ∀ b off, A = some ⟨b, off, none⟩ → w1.heap[b]? = w.heap[b]?) : Strs w1 A N ls := by
  obtain ⟨h1, h2, h3, h4⟩ := h
  refine ⟨h1, h2, h3, fun h0 => ?_⟩
  obtain ⟨b, off, e, hlt, hc⟩ := h4 h0
  refine ⟨b, off, e, Nat.lt_of_lt_of_le hlt hs, fun i hi => ?_⟩
  rw [← hc i hi]
  unfold World.cell?
  rw [hk h0 b off e]
theorem strs_grew {w w1 : World} {A : Option Addr} {N n base sz : Nat} {e : TypeId} {ls : List ByteArray} {v v' : Value} {xs : List Value} (h : Strs w A N ls) (hg : Grew w w1 base e sz v v' n xs) (hc : Clr A N v) : Strs w1 A N ls ∧ Clr A N v' := by
  have hlt : 0 < N → ∀ b off, A = some ⟨b, off, none⟩ → b < w.heap.size := fun h0 b off ea => by
    obtain ⟨b', off', e', hlt, _⟩ := h.2.2.2 h0
    rw [ea] at e'; cases e'; exact hlt
  refine ⟨strs_keep h hg.grow.size (fun h0 b off ea => hg.grow.block b (hlt h0 b off ea) (fun e => hc h0 b off ea e.symm)), fun h0 b off ea e2 => ?_⟩
  rcases hg.at_ with h3 | h3
  · rw [h3] at e2; exact hc h0 b off ea e2
  · rw [h3] at e2
    have h5 := hlt h0 b off ea
    simp only [Option.some.injEq] at e2
    omega
theorem clr_new {w w1 : World} {A : Option Addr} {N : Nat} {ls : List ByteArray} (h : Strs w1 A N ls) (hb : Below (w.alloc (.cells #[] 9)).heap.size (w.alloc (.cells #[] 9)) w1) : Clr A N (.slice (some ⟨w.heap.size, 0, none⟩) 0 0) := by
  intro h0 b off ea e2
  obtain ⟨b', off', e', _, hc⟩ := h.2.2.2 h0
  rw [ea] at e'; cases e'
  have h1 : b = w.heap.size := by simp [Value.ownBlock] at e2; omega
  subst h1
  have h2 := hb.block w.heap.size (by simp)
  rw [at_new] at h2
  have h3 := hc 0 h0
  unfold World.cell? at h3
  rw [h2] at h3
  simp at h3
set_option maxRecDepth 100000 in
set_option maxHeartbeats 8000000 in
theorem servers16 (A : Option Addr) (n c : Nat) (K : Nat → Kc) (w : World) (h : Evk w A n K) (hn : n ≤ 90000) : Calls Tryd.prog 16 #[.slice A n c] w (NamesP w (svN (bs (wl n K 3)))) := by
  have C13 := Lib.hid (fun w1 (hb : Below w.heap.size w w1) => with13 A n c K 3 w1 (h.below hb) (by omega))
  have hll : (bs (wl n K 3)).length ≤ n := by unfold bs; rw [List.length_map]; exact wl_le n K 3
  have hls : (wl n K 3).length = (bs (wl n K 3)).length := by unfold bs; rw [List.length_map]
  have HLL := Lib.hid (And.intro hll hls)
  clear hll hls
  generalize wl n K 3 = ns at *
  generalize hbn : bs ns = ls at *
  have HBN := Lib.hid hbn
  clear hbn
  obtain ⟨i0, hi, hz0, hz1, hz2⟩ := info_parts info9s
  have HI := Lib.hid (And.intro hi (And.intro hz0 (And.intro hz1 hz2)))
  have B0 := Lib.hid ((Below.refl w.heap.size w).alloc (Nat.le_refl _) (.cells #[] 9))
  have O0 : Hid ((w.alloc (.cells #[] 9)).ownsRow w.heap.size 9 1 (.slice (some ⟨w.heap.size, 0, none⟩) 0 0) 0 (T.cl [])) := Lib.hid (World.ownsRow_made (base := w.heap.size) (e := 9) (size := 1) w #[] 0 (Nat.le_refl _) (by decide) (by simp))
  clear h hi hz0 hz1 hz2
  go_enter Tryd.func16, Tryd.ntmps16
  go_wp2_with (go_at_call 13; refine (C13.out _ B0.out).mono ?_; rintro e w1 ⟨A0, c0, rfl, hc0, hS, hb0⟩; have HS := Lib.hid hS; have HC := Lib.hid hc0; have O1 := Lib.hid (own_below O0.out hb0); have B1 := Lib.hid (B0.out.trans (hb0.mono B0.out.size)); have HCl := Lib.hid (clr_new hS hb0); clear hS hc0 hb0)
  rw [HLL.out.2] at HS HC HCl
  rw [HBN.out] at HS
  rw [HLL.out.2]
  have HLN := Lib.hid (show ls.length ≤ n from HLL.out.1)
  clear HLL C13
  generalize hN : ls.length = N at HS HC HCl HLN ⊢
  have HN := Lib.hid hN
  have hN9 : N ≤ 90000 := by have := HLN.out; omega
  clear hN O0
  go_loopg [3, 5, 10] N (fun gg s3 _ s10 wr => ∃ (kk nu : Nat) (A1 : Option Addr) (c1 : Nat), kk ≤ N ∧ N - kk ≤ gg ∧ s10 = .int .i64 kk ∧ s3 = .slice A1 nu c1 ∧ nu ≤ kk ∧ Hid ((svB (ls.take kk)).length = nu) ∧ Hid (wr.ownsRow w.heap.size 9 1 (.slice A1 nu c1) nu (T.cl (svB (ls.take kk)))) ∧ Hid (Strs wr A0 N ls) ∧ Hid (Clr A0 N (.slice A1 nu c1)) ∧ Hid (Below w.heap.size w wr))
  case atStart => exact ⟨0, 0, _, 0, Nat.zero_le _, by omega, rfl, rfl, Nat.le_refl _, Lib.hid rfl, O1, HS, HCl, B1⟩
  case round =>
    obtain ⟨kk, nu, A1, c1, hkk, hg, rfl, rfl, hnu, HL, HO, HW, HK, BW⟩ := hrel
    by_cases hlt : kk < N
    · have hltz : (kk : Int) < (N : Int) := by omega
      obtain ⟨b, off, rfl, t, ht, hfit, _, k0⟩ := HW.out.str hlt
      have HT := Lib.hid (svB_take (ls := ls) (k := kk) (by rw [HN.out]; exact hlt))
      rw [← ht] at HT
      clear ht
      have CU := Lib.hid (user_any t hfit)
      cases hu : usr t
      · have hu2 : I.mkd 64 (bys t) = false := hu
        rw [hu2] at CU
        have e0 : ((err false : Int) == 0) = false := err_eq false
        have HT2 : Hid (svB (ls.take (kk + 1)) = svB (ls.take kk)) := Lib.hid (by rw [HT.out, hu]; simp)
        clear HT hu hu2
        go_wp2_with (go_at_call 26; refine (CU.out _).mono ?_; rintro e w3 ⟨rfl, hb3⟩; have HB3 := Lib.hid hb3; clear hb3)
        go_roundg (N - (kk + 1))
        case measure => omega
        case rel => exact ⟨kk + 1, nu, A1, c1, by omega, by omega, by go_num, rfl, by omega, by rw [HT2.out]; exact HL, Lib.hid (by rw [HT2.out]; exact own_below HO.out HB3.out), Lib.hid (HW.out.below HB3.out), HK, Lib.hid (BW.out.trans (HB3.out.mono BW.out.size))⟩
      · have hu2 : I.mkd 64 (bys t) = true := hu
        rw [hu2] at CU
        have e0 : ((err true : Int) == 0) = true := err_eq true
        have HT2 : Hid (svB (ls.take (kk + 1)) = svB (ls.take kk) ++ [⟨srvA t⟩]) := Lib.hid (by rw [HT.out, hu]; simp)
        have CS := Lib.hid (serverOf_any t hfit)
        clear HT hu hu2
        generalize srvA t = x at *
        generalize svB (ls.take kk) = us at *
        go_wp2_with (first
          | (go_at_call 26; refine (CU.out _).mono ?_; rintro e w3 ⟨rfl, hb3⟩; have HB3 := Lib.hid hb3; clear hb3)
          | (go_at_call 27; refine (CS.out _).mono ?_; rintro e w4 ⟨rfl, hb4⟩; have HB4 := Lib.hid (HB3.out.trans (hb4.mono HB3.out.size)); have O4 := Lib.hid (own_below HO.out HB4.out); have V4 := Lib.hid (HW.out.below HB4.out); have B4 := Lib.hid (BW.out.trans (HB4.out.mono BW.out.size)); clear hb4)
          | (at_builtin; refine wpList_append_any _ rfl _ _ 26 rfl w.heap.size 9 i0 _ 1 16 Tryd.underlying26 HI.out.1 HI.out.2.1 HI.out.2.2.1 HI.out.2.2.2 rfl (by decide) (.slice A1 nu c1) nu (T.cl us) rfl (own_below O4.out ((Below.refl _ w4).alloc (Nat.le_refl _) (.cells #[.string x] 9))) (some ⟨w4.heap.size, 0, none⟩) 1 1 (T.cl [⟨x⟩]) rfl (src_one w4 x) (by unfold maxLen; omega) (by omega) (by have := B4.out.size; simp; omega) ?_; intro v6 w6 hgr; have G6 := Lib.hid (strs_grew (V4.out.below ((Below.refl _ w4).alloc (Nat.le_refl _) (.cells #[.string x] 9))) hgr HK.out); have B6 := Lib.hid (hgr.below (B4.out.alloc B4.out.size (.cells #[.string x] 9)) (own_below O4.out ((Below.refl _ w4).alloc (Nat.le_refl _) (.cells #[.string x] 9)))); have O6 := Lib.hid hgr.own; clear hgr; rw [← T.cl_append] at O6; obtain ⟨A6, c6, rfl⟩ := own_slice O6.out))
        go_roundg (N - (kk + 1))
        case measure => omega
        case rel =>
          refine ⟨kk + 1, nu + 1, A6, c6, by omega, by omega, by go_num, rfl, by omega, Lib.hid (by rw [HT2.out, List.length_append, HL.out]; rfl), Lib.hid (by rw [HT2.out]; exact O6.out), Lib.hid G6.out.1, Lib.hid G6.out.2, B6⟩
    · have hltz : ¬ (kk : Int) < (N : Int) := by omega
      have HC7 := Lib.hid (names_own (l := svN ls) HO.out HL.out (by omega) (svB_fit (fun s hs => HS.out.2.2.1 s (List.mem_of_mem_take hs))) BW.out (svB_last ls (by rw [HN.out]; omega)))
      go_wp2_with (go_at_call 24; refine HC7.out.mono ?_; intro e w7 h7; have H7 := Lib.hid (names_mono h7 BW.out); obtain ⟨A7, c7, rfl, _⟩ := h7)
      go_ret
      exact H7.out
end Go.Proofs.YtnhjbknhbeicfaaDoor
