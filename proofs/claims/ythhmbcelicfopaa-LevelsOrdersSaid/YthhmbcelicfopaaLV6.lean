/- levels.Of: its walk. -/
import Derived.Test.YthhmbcelicfopaaLV5
namespace Go.Proofs.Ythhmbcelicfopaa
open Go.RowKit
set_option linter.unusedVariables false

set_option maxHeartbeats 2000000 in
theorem of19_cp {w : World} {A : Option Addr} {n : Nat} {E : Nat → Ev} {LV : Nat → Lvl} {s : ByteArray} {L : Lvl} (c : Nat) (hE : EvsA w A n E) (hV : Leveled w n E LV) (hB : Bounded n LV) (i : Nat) (h1 : FirstPost E 1 n i) (hi : i < n) (hs : s = (E i).snd) (k : Nat) (h3 : FirstPost E 3 n k) (hk : k < n) (hL : L = LV k) :
    Calls Try.prog 18 #[.slice A n c] w (OfP w s L) := by
  have HW := Lib.hid (Below.alloc (Below.refl w.heap.size w) (Nat.le_refl _) (.cells lzc.toArray 25))
  have HT := Lib.hid (blk_new w lzc 25)
  have HE0 := Lib.hid (hE.below HW.out)
  have H1 := Lib.hid h1
  have H3 := Lib.hid h3
  have HI := Lib.hid hi
  have HSn := Lib.hid hs
  have hii : (i : Int) < (n : Int) := by omega
  have hgi : decide ((0 : Int) ≤ (i : Int)) = true := by simp
  clear hi hs
  have HK := Lib.hid hk
  have HVk := Lib.hid (hV k hk)
  have HBk := Lib.hid (hB k hk)
  have hkk : (k : Int) < (n : Int) := by omega
  have hgk : decide ((0 : Int) ≤ (k : Int)) = true := by simp
  subst hL
  clear hk
  obtain ⟨b, off, rfl, hEv⟩ := hE.at_ HI.out
  have HEv := Lib.hid (hEv.below HW.out)
  clear hEv
  clear hE hV hB h1 h3
  go_enter Try.func18, Try.ntmps18
  go_wp2_with (first
    | (go_at_call 26; (with_reducible refine (first_all c 1 i HE0.out H1.out).mono ?_); rintro e w1 ⟨rfl, hb1⟩; have D1 := Lib.hid hb1; have cs0 := ((HEv.out.below hb1).snd HI.out); rw [← HSn.out] at cs0; clear hb1)
    | (go_at_call 26; (with_reducible refine (first_all c 3 k (HE0.out.below D1.out) H3.out).mono ?_); rintro e w2 ⟨rfl, hb2⟩; have D2 := Lib.hid (D1.out.trans (hb2.mono D1.out.size)); obtain ⟨uA, uC, kA, kC, hcs, RU, RK⟩ := (HVk.out.below HW.out).below D2.out; have HR := Lib.hid (show World.rangeAt w2 b (off + k * 29 + 10 + 7) (lvc uA (LV k).nU uC kA (LV k).nK kC (LV k).d (LV k).x3 (LV k).x4 (LV k).x5 (LV k).x6 (LV k).x7 (LV k).x8) by rw [← hcs]; exact (HEv.out.below D2.out).lvr HK.out); have HRU := Lib.hid RU; have HRK := Lib.hid RK; clear hcs RU RK; clear hb2)
    | (refine wpList_load_mid rfl 25 _ rfl b (off + k * 29 + 10 + 7) rfl (lvc uA (LV k).nU uC kA (LV k).nK kC (LV k).d (LV k).x3 (LV k).x4 (LV k).x5 (LV k).x6 (LV k).x7 (LV k).x8) _ HR.out Try.underlying25 rfl size28 ?_)
    | (go_at_call 27; refine (clone26 uA (LV k).nU uC kA (LV k).nK kC (LV k).U (LV k).K (LV k).d (LV k).x3 (LV k).x4 (LV k).x5 (LV k).x6 (LV k).x7 (LV k).x8 w2 HRU.out HRK.out HBk.out.1 HBk.out.2).mono ?_; rintro e w3 ⟨uA3, uC3, kA3, kC3, rfl, hu3, hk3, hb3, nu3, nk3⟩; have U3 := Lib.hid hu3; have K3 := Lib.hid hk3; have B3 := Lib.hid hb3; have NU := Lib.hid nu3; have NK := Lib.hid nk3; have T3 := Lib.hid ((HT.out.below D2.out).at_ hb3 (Nat.lt_of_lt_of_le HT.out.lt D2.out.size)); clear hu3 hk3 hb3 nu3 nk3)
    | (refine wpList_store_mid rfl 25 _ _ rfl w.heap.size 0 (lvc uA3 (LV k).nU uC3 kA3 (LV k).nK kC3 (LV k).d (LV k).x3 (LV k).x4 (LV k).x5 (LV k).x6 (LV k).x7 (LV k).x8).toArray rfl rfl (Blk.there (n := 9) T3.out (by decide)) size28 (lvc_one _ _ _ _ _ _ _ _ _ _ _ _ _) ?_))
  (try simp only [Exit.inBlock, Exit.then])
  refine bodyPost_ret (results_cell_tmp_blk rfl _ _ w.heap.size (lvc uA3 (LV k).nU uC3 kA3 (LV k).nK kC3 (LV k).d (LV k).x3 (LV k).x4 (LV k).x5 (LV k).x6 (LV k).x7 (LV k).x8) 25 _ rfl (T3.out.setAll _ rfl) Try.underlying25 rfl size28) rfl ?_
  have hlt : w.heap.size < w2.heap.size := Nat.lt_of_lt_of_le HT.out.lt D2.out.size
  exact ⟨_, rfl, ⟨uA3, uC3, kA3, kC3, rfl, U3.out.otherAll _ _ _ (NU.out.ne hlt), K3.out.otherAll _ _ _ (NK.out.ne hlt)⟩, below_setAll (Nat.le_refl _) _ _ _ (HW.out.trans ((D2.out.trans (B3.out.mono D2.out.size)).mono HW.out.size))⟩

set_option maxHeartbeats 2000000 in
theorem of19_c {w : World} {A : Option Addr} {n : Nat} {E : Nat → Ev} {LV : Nat → Lvl} {s : ByteArray} {L : Lvl} (c : Nat) (hE : EvsA w A n E) (hV : Leveled w n E LV) (hB : Bounded n LV) (i : Nat) (h1 : FirstPost E 1 n i) (hi : i < n) (hs : s = (E i).snd) (h3 : FirstPost E 3 n (-1)) (hL : L = defLv s) :
    Calls Try.prog 18 #[.slice A n c] w (OfP w s L) := by
  have HW := Lib.hid (Below.alloc (Below.refl w.heap.size w) (Nat.le_refl _) (.cells lzc.toArray 25))
  have HT := Lib.hid (blk_new w lzc 25)
  have HE0 := Lib.hid (hE.below HW.out)
  have H1 := Lib.hid h1
  have H3 := Lib.hid h3
  have HI := Lib.hid hi
  have HSn := Lib.hid hs
  have hii : (i : Int) < (n : Int) := by omega
  have hgi : decide ((0 : Int) ≤ (i : Int)) = true := by simp
  clear hi hs
  subst hL
  obtain ⟨b, off, rfl, hEv⟩ := hE.at_ HI.out
  have HEv := Lib.hid (hEv.below HW.out)
  clear hEv
  clear hE hV hB h1 h3
  go_enter Try.func18, Try.ntmps18
  go_wp2_with (first
    | (go_at_call 26; (with_reducible refine (first_all c 1 i HE0.out H1.out).mono ?_); rintro e w1 ⟨rfl, hb1⟩; have D1 := Lib.hid hb1; have cs0 := ((HEv.out.below hb1).snd HI.out); rw [← HSn.out] at cs0; clear hb1)
    | (go_at_call 26; (with_reducible refine (first_all c 3 (-1) (HE0.out.below D1.out) H3.out).mono ?_); rintro e w2 ⟨rfl, hb2⟩; have D2 := Lib.hid (D1.out.trans (hb2.mono D1.out.size)); clear hb2)
    | (go_at_call 16; refine (default27 s w2).mono ?_; rintro e w3 ⟨uA3, uC3, kA3, kC3, rfl, hu3, hk3, hb3, nu3, nk3⟩; have U3 := Lib.hid hu3; have K3 := Lib.hid hk3; have B3 := Lib.hid hb3; have NU := Lib.hid nu3; have NK := Lib.hid nk3; have T3 := Lib.hid ((HT.out.below D2.out).at_ hb3 (Nat.lt_of_lt_of_le HT.out.lt D2.out.size)); clear hu3 hk3 hb3 nu3 nk3)
    | (refine wpList_store_mid rfl 25 _ _ rfl w.heap.size 0 (lvc uA3 (defLv s).nU uC3 kA3 (defLv s).nK kC3 (defLv s).d (defLv s).x3 (defLv s).x4 (defLv s).x5 (defLv s).x6 (defLv s).x7 (defLv s).x8).toArray rfl rfl (Blk.there (n := 9) T3.out (by decide)) size28 (lvc_one _ _ _ _ _ _ _ _ _ _ _ _ _) ?_))
  (try simp only [Exit.inBlock, Exit.then])
  refine bodyPost_ret (results_cell_tmp_blk rfl _ _ w.heap.size (lvc uA3 (defLv s).nU uC3 kA3 (defLv s).nK kC3 (defLv s).d (defLv s).x3 (defLv s).x4 (defLv s).x5 (defLv s).x6 (defLv s).x7 (defLv s).x8) 25 _ rfl (T3.out.setAll _ rfl) Try.underlying25 rfl size28) rfl ?_
  have hlt : w.heap.size < w2.heap.size := Nat.lt_of_lt_of_le HT.out.lt D2.out.size
  exact ⟨_, rfl, ⟨uA3, uC3, kA3, kC3, rfl, U3.out.otherAll _ _ _ (NU.out.ne hlt), K3.out.otherAll _ _ _ (NK.out.ne hlt)⟩, below_setAll (Nat.le_refl _) _ _ _ (HW.out.trans ((D2.out.trans (B3.out.mono D2.out.size)).mono HW.out.size))⟩

set_option maxHeartbeats 2000000 in
theorem of19_p {w : World} {A : Option Addr} {n : Nat} {E : Nat → Ev} {LV : Nat → Lvl} {s : ByteArray} {L : Lvl} (c : Nat) (hE : EvsA w A n E) (hV : Leveled w n E LV) (hB : Bounded n LV) (h1 : FirstPost E 1 n (-1)) (hs : s = ⟨#[]⟩) (k : Nat) (h3 : FirstPost E 3 n k) (hk : k < n) (hL : L = LV k) :
    Calls Try.prog 18 #[.slice A n c] w (OfP w s L) := by
  have HW := Lib.hid (Below.alloc (Below.refl w.heap.size w) (Nat.le_refl _) (.cells lzc.toArray 25))
  have HT := Lib.hid (blk_new w lzc 25)
  have HE0 := Lib.hid (hE.below HW.out)
  have H1 := Lib.hid h1
  have H3 := Lib.hid h3
  subst hs
  have HK := Lib.hid hk
  have HVk := Lib.hid (hV k hk)
  have HBk := Lib.hid (hB k hk)
  have hkk : (k : Int) < (n : Int) := by omega
  have hgk : decide ((0 : Int) ≤ (k : Int)) = true := by simp
  subst hL
  clear hk
  obtain ⟨b, off, rfl, hEv⟩ := hE.at_ HK.out
  have HEv := Lib.hid (hEv.below HW.out)
  clear hEv
  clear hE hV hB h1 h3
  go_enter Try.func18, Try.ntmps18
  go_wp2_with (first
    | (go_at_call 26; (with_reducible refine (first_all c 1 (-1) HE0.out H1.out).mono ?_); rintro e w1 ⟨rfl, hb1⟩; have D1 := Lib.hid hb1; clear hb1)
    | (go_at_call 26; (with_reducible refine (first_all c 3 k (HE0.out.below D1.out) H3.out).mono ?_); rintro e w2 ⟨rfl, hb2⟩; have D2 := Lib.hid (D1.out.trans (hb2.mono D1.out.size)); obtain ⟨uA, uC, kA, kC, hcs, RU, RK⟩ := (HVk.out.below HW.out).below D2.out; have HR := Lib.hid (show World.rangeAt w2 b (off + k * 29 + 10 + 7) (lvc uA (LV k).nU uC kA (LV k).nK kC (LV k).d (LV k).x3 (LV k).x4 (LV k).x5 (LV k).x6 (LV k).x7 (LV k).x8) by rw [← hcs]; exact (HEv.out.below D2.out).lvr HK.out); have HRU := Lib.hid RU; have HRK := Lib.hid RK; clear hcs RU RK; clear hb2)
    | (refine wpList_load_mid rfl 25 _ rfl b (off + k * 29 + 10 + 7) rfl (lvc uA (LV k).nU uC kA (LV k).nK kC (LV k).d (LV k).x3 (LV k).x4 (LV k).x5 (LV k).x6 (LV k).x7 (LV k).x8) _ HR.out Try.underlying25 rfl size28 ?_)
    | (go_at_call 27; refine (clone26 uA (LV k).nU uC kA (LV k).nK kC (LV k).U (LV k).K (LV k).d (LV k).x3 (LV k).x4 (LV k).x5 (LV k).x6 (LV k).x7 (LV k).x8 w2 HRU.out HRK.out HBk.out.1 HBk.out.2).mono ?_; rintro e w3 ⟨uA3, uC3, kA3, kC3, rfl, hu3, hk3, hb3, nu3, nk3⟩; have U3 := Lib.hid hu3; have K3 := Lib.hid hk3; have B3 := Lib.hid hb3; have NU := Lib.hid nu3; have NK := Lib.hid nk3; have T3 := Lib.hid ((HT.out.below D2.out).at_ hb3 (Nat.lt_of_lt_of_le HT.out.lt D2.out.size)); clear hu3 hk3 hb3 nu3 nk3)
    | (refine wpList_store_mid rfl 25 _ _ rfl w.heap.size 0 (lvc uA3 (LV k).nU uC3 kA3 (LV k).nK kC3 (LV k).d (LV k).x3 (LV k).x4 (LV k).x5 (LV k).x6 (LV k).x7 (LV k).x8).toArray rfl rfl (Blk.there (n := 9) T3.out (by decide)) size28 (lvc_one _ _ _ _ _ _ _ _ _ _ _ _ _) ?_))
  (try simp only [Exit.inBlock, Exit.then])
  refine bodyPost_ret (results_cell_tmp_blk rfl _ _ w.heap.size (lvc uA3 (LV k).nU uC3 kA3 (LV k).nK kC3 (LV k).d (LV k).x3 (LV k).x4 (LV k).x5 (LV k).x6 (LV k).x7 (LV k).x8) 25 _ rfl (T3.out.setAll _ rfl) Try.underlying25 rfl size28) rfl ?_
  have hlt : w.heap.size < w2.heap.size := Nat.lt_of_lt_of_le HT.out.lt D2.out.size
  exact ⟨_, rfl, ⟨uA3, uC3, kA3, kC3, rfl, U3.out.otherAll _ _ _ (NU.out.ne hlt), K3.out.otherAll _ _ _ (NK.out.ne hlt)⟩, below_setAll (Nat.le_refl _) _ _ _ (HW.out.trans ((D2.out.trans (B3.out.mono D2.out.size)).mono HW.out.size))⟩

set_option maxHeartbeats 2000000 in
theorem of19_ {w : World} {A : Option Addr} {n : Nat} {E : Nat → Ev} {LV : Nat → Lvl} {s : ByteArray} {L : Lvl} (c : Nat) (hE : EvsA w A n E) (hV : Leveled w n E LV) (hB : Bounded n LV) (h1 : FirstPost E 1 n (-1)) (hs : s = ⟨#[]⟩) (h3 : FirstPost E 3 n (-1)) (hL : L = defLv s) :
    Calls Try.prog 18 #[.slice A n c] w (OfP w s L) := by
  have HW := Lib.hid (Below.alloc (Below.refl w.heap.size w) (Nat.le_refl _) (.cells lzc.toArray 25))
  have HT := Lib.hid (blk_new w lzc 25)
  have HE0 := Lib.hid (hE.below HW.out)
  have H1 := Lib.hid h1
  have H3 := Lib.hid h3
  subst hs
  subst hL
  clear hE hV hB h1 h3
  go_enter Try.func18, Try.ntmps18
  go_wp2_with (first
    | (go_at_call 26; (with_reducible refine (first_all c 1 (-1) HE0.out H1.out).mono ?_); rintro e w1 ⟨rfl, hb1⟩; have D1 := Lib.hid hb1; clear hb1)
    | (go_at_call 26; (with_reducible refine (first_all c 3 (-1) (HE0.out.below D1.out) H3.out).mono ?_); rintro e w2 ⟨rfl, hb2⟩; have D2 := Lib.hid (D1.out.trans (hb2.mono D1.out.size)); clear hb2)
    | (go_at_call 16; refine (default27 ⟨#[]⟩ w2).mono ?_; rintro e w3 ⟨uA3, uC3, kA3, kC3, rfl, hu3, hk3, hb3, nu3, nk3⟩; have U3 := Lib.hid hu3; have K3 := Lib.hid hk3; have B3 := Lib.hid hb3; have NU := Lib.hid nu3; have NK := Lib.hid nk3; have T3 := Lib.hid ((HT.out.below D2.out).at_ hb3 (Nat.lt_of_lt_of_le HT.out.lt D2.out.size)); clear hu3 hk3 hb3 nu3 nk3)
    | (refine wpList_store_mid rfl 25 _ _ rfl w.heap.size 0 (lvc uA3 (defLv ⟨#[]⟩).nU uC3 kA3 (defLv ⟨#[]⟩).nK kC3 (defLv ⟨#[]⟩).d (defLv ⟨#[]⟩).x3 (defLv ⟨#[]⟩).x4 (defLv ⟨#[]⟩).x5 (defLv ⟨#[]⟩).x6 (defLv ⟨#[]⟩).x7 (defLv ⟨#[]⟩).x8).toArray rfl rfl (Blk.there (n := 9) T3.out (by decide)) size28 (lvc_one _ _ _ _ _ _ _ _ _ _ _ _ _) ?_))
  (try simp only [Exit.inBlock, Exit.then])
  refine bodyPost_ret (results_cell_tmp_blk rfl _ _ w.heap.size (lvc uA3 (defLv ⟨#[]⟩).nU uC3 kA3 (defLv ⟨#[]⟩).nK kC3 (defLv ⟨#[]⟩).d (defLv ⟨#[]⟩).x3 (defLv ⟨#[]⟩).x4 (defLv ⟨#[]⟩).x5 (defLv ⟨#[]⟩).x6 (defLv ⟨#[]⟩).x7 (defLv ⟨#[]⟩).x8) 25 _ rfl (T3.out.setAll _ rfl) Try.underlying25 rfl size28) rfl ?_
  have hlt : w.heap.size < w2.heap.size := Nat.lt_of_lt_of_le HT.out.lt D2.out.size
  exact ⟨_, rfl, ⟨uA3, uC3, kA3, kC3, rfl, U3.out.otherAll _ _ _ (NU.out.ne hlt), K3.out.otherAll _ _ _ (NK.out.ne hlt)⟩, below_setAll (Nat.le_refl _) _ _ _ (HW.out.trans ((D2.out.trans (B3.out.mono D2.out.size)).mono HW.out.size))⟩

theorem of19 {w : World} {A : Option Addr} {n : Nat} {E : Nat → Ev} {LV : Nat → Lvl} {s : ByteArray} {L : Lvl} (c : Nat) (hE : EvsA w A n E) (hV : Leveled w n E LV) (hB : Bounded n LV) (hs : CreatorPost E n s) (hL : LevelsPost E LV n s L) :
    Calls Try.prog 18 #[.slice A n c] w (OfP w s L) := by
  rcases hs with ⟨i, h1, hi, hs⟩ | ⟨h1, hs⟩ <;> rcases hL with ⟨k, h3, hk, hL⟩ | ⟨h3, hL⟩
  · exact of19_cp c hE hV hB i h1 hi hs k h3 hk hL
  · exact of19_c c hE hV hB i h1 hi hs h3 hL
  · exact of19_p c hE hV hB h1 hs k h3 hk hL
  · exact of19_ c hE hV hB h1 hs h3 hL
end Go.Proofs.Ythhmbcelicfopaa
