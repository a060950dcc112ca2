/- access.Of, of the program and of the reference. Condition: few enough users and kinds to be copied. -/
import Derived.Test.YtokofmolbdpklaaG8
namespace Go.Proofs.Ytokofmolbdpklaa
open Go.RowKit
set_option linter.unusedVariables false

/-- A list of events, as far as Of reads it. -/
structure Evl (w : World) (A : Option Addr) (n : Nat) (kd : Nat → Int) (C : Nat → Ct) (ad : Nat → Ads) : Prop where
  big : n ≤ 9223372036854775807
  at_ : 0 < n → ∃ b off, A = some ⟨b, off, none⟩ ∧ b < w.heap.size ∧ ∀ j, j < n → w.cell? ⟨b, off + j * 29 + 3, none⟩ = some (.int .i64 (kd j)) ∧ w.rangeAt b (off + j * 29 + 10) (cells (C j) (ad j))
  ct : ∀ j, j < n → IsCt w (C j) (ad j)
theorem range_below {w w1 : World} {b o : Nat} {cs : List Value} (h : w.rangeAt b o cs) (hlt : b < w.heap.size) (hb : Below w.heap.size w w1) : w1.rangeAt b o cs := fun j v hv => (hb.cell (p := ⟨b, o + j, none⟩) hlt).trans (h j v hv)
theorem Evl.below {w w1 : World} {A : Option Addr} {n : Nat} {kd : Nat → Int} {C : Nat → Ct} {ad : Nat → Ads} (h : Evl w A n kd C ad) (hb : Below w.heap.size w w1) : Evl w1 A n kd C ad := by
  refine ⟨h.big, fun h0 => ?_, fun j hj => (h.ct j hj).below hb⟩
  obtain ⟨b, off, e, hlt, hc⟩ := h.at_ h0
  exact ⟨b, off, e, Nat.lt_of_lt_of_le hlt hb.size, fun j hj => ⟨(hb.cell (p := ⟨b, off + j * 29 + 3, none⟩) hlt).trans (hc j hj).1, range_below (hc j hj).2 hlt hb⟩⟩
theorem Evl.get {w : World} {A : Option Addr} {n : Nat} {kd : Nat → Int} {C : Nat → Ct} {ad : Nat → Ads} (h : Evl w A n kd C ad) {j : Nat} (hj : j < n) :
    ∃ b off, A = some ⟨b, off, none⟩ ∧ w.cell? ⟨b, off + j * 29 + 3, none⟩ = some (.int .i64 (kd j)) ∧ Hid (w.rangeAt b (off + j * 29 + 10) (cells (C j) (ad j))) := by
  obtain ⟨b, off, e, _, hc⟩ := h.at_ (by omega)
  exact ⟨b, off, e, (hc j hj).1, Lib.hid (hc j hj).2⟩
/-- The place of the first access list. -/
def fk (n : Nat) (kd : Nat → Int) : Option Nat := (List.range n).find? (fun j => kd j == 6)
theorem fk_some {n k : Nat} {kd : Nat → Int} (hk : k < n) (h : kd k = 6) (hn : ∀ j, j < k → kd j ≠ 6) : fk n kd = some k := by
  unfold fk
  rw [List.find?_range_eq_some]
  exact ⟨by simp [h], by simpa using hk, fun j hj => by simpa using hn j hj⟩
theorem fk_none {n : Nat} {kd : Nat → Int} (hn : ∀ j, j < n → kd j ≠ 6) : fk n kd = none := by
  unfold fk
  rw [List.find?_eq_none]
  intro j hj
  simpa using hn j (by simpa using hj)
theorem cloneC (C : Ct) (a : Ads) (w : World) (h : IsCt w C a) (hs : Sm C) : Calls Try.prog 22 #[.agg (cells C a).toArray] w (CtP w C) := by
  obtain ⟨tx, n, tg, th, via, nA, al, nD, dn, ⟨nU, U, nK, K, d, x3, x4, x5, x6, x7, x8⟩⟩ := C
  obtain ⟨aA, aC, dA, dC, uA, uC, kA, kC⟩ := a
  exact clone22 tx n tg th via aA nA aC dA nD dC uA nU uC kA nK kC d x3 x4 x5 x6 x7 x8 al dn U K w h.al h.dn h.us h.ks hs
def OfP (n : Nat) (kd : Nat → Int) (C : Nat → Ct) (e : Ending) (w' : World) : Prop :=
  (∃ k a, fk n kd = some k ∧ e = .returned (.tuple #[.agg (cells (C k) a).toArray, .bool true]) ∧ IsCt w' (C k) a) ∨ (fk n kd = none ∧ e = .returned (.tuple #[.agg (cells ct0 ad0).toArray, .bool false]))
set_option maxHeartbeats 2000000 in
theorem of14 (A : Option Addr) (n c : Nat) (kd : Nat → Int) (C : Nat → Ct) (ad : Nat → Ads) (w : World) (h : Evl w A n kd C ad) (hs : ∀ j, j < n → Sm (C j)) :
    Calls Try.prog 14 #[.slice A n c] w fun e w' => OfP n kd C e w' ∧ Below w.heap.size w w' := by
  have H := Lib.hid h
  have hbig := h.big
  clear h
  have B1 := Lib.hid ((Below.refl _ w).alloc (Nat.le_refl _) (.cells c16.toArray 28))
  have X1 := Lib.hid (blk_new w c16 28)
  have HSz := Lib.hid B1.out.size
  go_enter Try.func14, Try.ntmps14
  go_upto_region 1 with (fail)
  generalize hb0 : w.heap.size = b1 at X1 ⊢
  generalize hw2 : (w.alloc _) = w2 at X1 B1 HSz ⊢
  have HB0 := Lib.hid hb0
  clear hb0 hw2
  go_wp2
  go_loopg [4, 7] n (fun gg _ i wr => ∃ kk : Nat, kk ≤ n ∧ n - kk ≤ gg ∧ i = .int .i64 kk ∧ Hid (∀ j, j < kk → kd j ≠ 6) ∧ Hid (Below w2.heap.size w2 wr))
  case atStart => exact ⟨0, Nat.zero_le _, by omega, rfl, Lib.hid (fun j hj => absurd hj (Nat.not_lt_zero _)), Lib.hid (Below.refl _ _)⟩
  case round =>
    obtain ⟨kk, hkk, hg, rfl, HO, BW⟩ := hrel
    by_cases hlt : kk < n
    · have hltz : (kk : Int) < (n : Int) := by omega
      obtain ⟨b, off, rfl, k3, R⟩ := (H.out.below (B1.out.trans (BW.out.mono HSz.out))).get hlt
      by_cases hk : kd kk = 6
      · have HF := Lib.hid (fk_some hlt hk HO.out)
        rw [hk] at k3
        have HC := Lib.hid ((H.out.below (B1.out.trans (BW.out.mono HSz.out))).ct kk hlt)
        have HCA := Lib.hid (fun (g : Nat) (hg : w.heap.size ≤ g) => (H.out.ct kk hlt).apart hg)
        have HM := Lib.hid (hs kk hlt)
        generalize hCk : C kk = Ck at R HC HCA HM
        generalize ad kk = ak at R HC HCA
        have HCk := Lib.hid hCk
        clear hCk hk
        go_wp2_with (first
          | (refine wpList_load_mid rfl 28 _ rfl b (off + kk * 29 + 10) rfl (cells Ck ak) _ R.out Try.underlying28 rfl size28c ?_)
          | (go_at_call 22; (with_reducible refine (cloneC Ck ak _ HC.out HM.out).mono ?_); rintro e w3 ⟨a3, rfl, hc3, hn3, hb3⟩; have HC3 := Lib.hid hc3; have HN3 := Lib.hid hn3; clear hn3; have BZ := Lib.hid (BW.out.trans (hb3.mono BW.out.size)); clear hc3)
          | (refine store_mid_as rfl 28 _ _ rfl b1 0 (cells Ck a3).toArray rfl rfl (Blk.there (n := 16) (X1.out.below BZ.out) (by decide)) size28c (ctc_one _ _) ?_; intro w4 e4; have E4 : Hid (w4 = w3.setCells b1 0 (cells Ck a3)) := Lib.hid e4; clear e4))
        (try simp only [Exit.inBlock, Exit.then])
        refine bodyPost_ret (results_cell_tmp_blk rfl _ _ b1 (cells Ck a3) 28 _ rfl (by rw [E4.out]; exact (X1.out.below BZ.out).setAll _ rfl) Try.underlying28 rfl size28c) rfl ?_
        refine ⟨.inl ⟨kk, a3, HF.out, by rw [HCk.out]; rfl, ?_⟩, ?_⟩
        · rw [HCk.out, E4.out]
          exact HC3.out.otherAll _ _ _ (HN3.out _ (Nat.lt_of_lt_of_le X1.out.lt BW.out.size))
        · rw [E4.out]
          exact below_setAll (by have := HB0.out; omega) _ _ _ (B1.out.trans (BZ.out.mono HSz.out))
      · have q1 : (kd kk == 6) = false := by simpa using hk
        have HN := Lib.hid hk
        go_wp2
        go_roundg (n - (kk + 1))
        case measure => omega
        case rel =>
          refine ⟨kk + 1, by omega, by omega, by go_num, Lib.hid (fun j hj => ?_), BW⟩
          by_cases e : j = kk
          · subst e; exact HN.out
          · exact HO.out j (by omega)
    · have hltz : ¬ (kk : Int) < (n : Int) := by omega
      have HF := Lib.hid (fk_none (n := n) (kd := kd) (fun j hj => HO.out j (by omega)))
      go_wp2_with (refine store_mid_as rfl 28 _ _ rfl b1 0 c16.toArray rfl rfl (Blk.there (n := 16) (X1.out.below BW.out) (by decide)) size28c (by simp [Value.oneCell']) ?_; intro w4 e4; have E4 : Hid (w4 = wr.setCells b1 0 c16) := Lib.hid e4; clear e4)
      (try simp only [Exit.inBlock, Exit.then])
      refine bodyPost_ret (results_cell_tmp_blk rfl _ _ b1 c16 28 _ rfl (by rw [E4.out]; exact (X1.out.below BW.out).setAll _ rfl) Try.underlying28 rfl size28c) rfl ?_
      refine ⟨.inr ⟨HF.out, rfl⟩, ?_⟩
      rw [E4.out]
      exact below_setAll (by have := HB0.out; omega) _ _ _ (B1.out.trans (BW.out.mono HSz.out))
set_option maxHeartbeats 2000000 in
theorem of15 (A : Option Addr) (n c : Nat) (kd : Nat → Int) (C : Nat → Ct) (ad : Nat → Ads) (w : World) (h : Evl w A n kd C ad) :
    Calls Try.prog 15 #[.slice A n c] w fun e w' => OfP n kd C e w' ∧ Below w.heap.size w w' := by
  have H := Lib.hid h
  have hbig := h.big
  clear h
  have B1 := Lib.hid ((Below.refl _ w).alloc (Nat.le_refl _) (.cells c16.toArray 28))
  have X1 := Lib.hid (blk_new w c16 28)
  have HSz := Lib.hid B1.out.size
  go_enter Try.func15, Try.ntmps15
  go_upto_region 1 with (fail)
  generalize hb0 : w.heap.size = b1 at X1 ⊢
  generalize hw2 : (w.alloc _) = w2 at X1 B1 HSz ⊢
  have HB0 := Lib.hid hb0
  clear hb0 hw2
  go_wp2
  go_loopg [4] n (fun gg i wr => ∃ kk : Nat, kk ≤ n ∧ n - kk ≤ gg ∧ i = .int .i64 kk ∧ Hid (∀ j, j < kk → kd j ≠ 6) ∧ Hid (Below w2.heap.size w2 wr))
  case atStart => exact ⟨0, Nat.zero_le _, by omega, rfl, Lib.hid (fun j hj => absurd hj (Nat.not_lt_zero _)), Lib.hid (Below.refl _ _)⟩
  case round =>
    obtain ⟨kk, hkk, hg, rfl, HO, BW⟩ := hrel
    by_cases hlt : kk < n
    · have hltz : (kk : Int) < (n : Int) := by omega
      obtain ⟨b, off, rfl, k3, R⟩ := (H.out.below (B1.out.trans (BW.out.mono HSz.out))).get hlt
      by_cases hk : kd kk = 6
      · have HF := Lib.hid (fk_some hlt hk HO.out)
        rw [hk] at k3
        have HC := Lib.hid ((H.out.below (B1.out.trans (BW.out.mono HSz.out))).ct kk hlt)
        have HCA := Lib.hid (fun (g : Nat) (hg : w.heap.size ≤ g) => (H.out.ct kk hlt).apart hg)
        generalize hCk : C kk = Ck at R HC HCA
        generalize ad kk = ak at R HC HCA
        have HCk := Lib.hid hCk
        clear hCk hk
        go_wp2_with (first
          | (refine wpList_load_mid rfl 28 _ rfl b (off + kk * 29 + 10) rfl (cells Ck ak) _ R.out Try.underlying28 rfl size28c ?_)
          | (refine store_mid_as rfl 28 _ _ rfl b1 0 (cells Ck ak).toArray rfl rfl (Blk.there (n := 16) (X1.out.below BW.out) (by decide)) size28c (ctc_one _ _) ?_; intro w4 e4; have E4 : Hid (w4 = wr.setCells b1 0 (cells Ck ak)) := Lib.hid e4; clear e4))
        (try simp only [Exit.inBlock, Exit.then])
        refine bodyPost_ret (results_cell_tmp_blk rfl _ _ b1 (cells Ck ak) 28 _ rfl (by rw [E4.out]; exact (X1.out.below BW.out).setAll _ rfl) Try.underlying28 rfl size28c) rfl ?_
        refine ⟨.inl ⟨kk, ak, HF.out, by rw [HCk.out]; rfl, ?_⟩, ?_⟩
        · rw [HCk.out, E4.out]
          exact HC.out.otherAll _ _ _ (HCA.out b1 (by have := HB0.out; omega))
        · rw [E4.out]
          exact below_setAll (by have := HB0.out; omega) _ _ _ (B1.out.trans (BW.out.mono HSz.out))
      · have q1 : (kd kk == 6) = false := by simpa using hk
        have HN := Lib.hid hk
        go_wp2
        go_roundg (n - (kk + 1))
        case measure => omega
        case rel =>
          refine ⟨kk + 1, by omega, by omega, by go_num, Lib.hid (fun j hj => ?_), BW⟩
          by_cases e : j = kk
          · subst e; exact HN.out
          · exact HO.out j (by omega)
    · have hltz : ¬ (kk : Int) < (n : Int) := by omega
      have HF := Lib.hid (fk_none (n := n) (kd := kd) (fun j hj => HO.out j (by omega)))
      go_wp2_with (refine store_mid_as rfl 28 _ _ rfl b1 0 c16.toArray rfl rfl (Blk.there (n := 16) (X1.out.below BW.out) (by decide)) size28c (by simp [Value.oneCell']) ?_; intro w4 e4; have E4 : Hid (w4 = wr.setCells b1 0 c16) := Lib.hid e4; clear e4)
      (try simp only [Exit.inBlock, Exit.then])
      refine bodyPost_ret (results_cell_tmp_blk rfl _ _ b1 c16 28 _ rfl (by rw [E4.out]; exact (X1.out.below BW.out).setAll _ rfl) Try.underlying28 rfl size28c) rfl ?_
      refine ⟨.inr ⟨HF.out, rfl⟩, ?_⟩
      rw [E4.out]
      exact below_setAll (by have := HB0.out; omega) _ _ _ (B1.out.trans (BW.out.mono HSz.out))
end Go.Proofs.Ytokofmolbdpklaa
