/- The reference of Receive. No condition. -/
import Derived.Test.YtablocpcgknmaaaGreatDoorQPo
import Derived.Test.YtablocpcgknmaaaGreatDoorQV14R
namespace Go.Proofs.YtablocpcgknmaaaGreatDoor
open Go.Lib (hid)
open Go Go.RowKit
set_option linter.unusedVariables false
set_option linter.unusedSimpArgs false
set_option maxRecDepth 100000

set_option maxHeartbeats 16000000 in
theorem rreceive31 (E : Ew) (a : Aw) (w : World) (h : IsE w E a) (hs : SmZ E) : Calls Tryz.prog 31 #[.agg (ecs E a).toArray] w (RcP (rcvE E) (rcvI E) w) := by
 unfold RcP
 have BA := hid (((Below.refl w.heap.size w).alloc (Nat.le_refl _) (.cells (ecs E a).toArray 34)).alloc (by simp) (.cells z29.toArray 34))
 have X0 := hid ((blk_new w (ecs E a) 34).alloc (.cells z29.toArray 34))
 have R0 := hid (blk_new2 w (.cells (ecs E a).toArray 34) z29 34)
 have HE := hid h
 have HW := hid (fun y (hb : Below w.heap.size w y) => rwhole22 E a y (h.below hb) hs.c)
 have HC := hid (fun y (hb : Below w.heap.size w y) => rstrip25 E a y (h.below hb))
 unfold StE at HC
 have HSM := hid hs
 have HRD := hid (show rcvE E = if rcvI E = 0 then kptE E else e0 from rfl)
 have HRI := hid (show rcvI E = verI (kptE E) (whoB (kptE E)) from rfl)
 clear h hs
 generalize hW0 : (w.alloc (.cells (ecs E a).toArray 34)).alloc (.cells z29.toArray 34) = W0 at BA X0 R0
 dsimp only [ecs, z29] at hW0 X0 R0 ⊢
 cases hwb : whoB E
 ·have HKP := hid (kpt_f hwb)
  simp only [hwb] at HW
  rw [HKP.out] at HRD HRI
  have HSK := hid (str_smz HSM.out)
  generalize strE E = K at HC HRD HRI HSK
  have HVK := hid (fun b y (hi : IsE y K b) => rverify32 K b y hi HSK.out)
  rw [← HRI.out] at HVK
  generalize rcvI E = v at HRD HVK ⊢
  clear hwb
  go_enter Tryz.func31, Tryz.ntmps31
  go_upto_region 3 with (first
   | (refine wpList_load_mid rfl 34 _ rfl w.heap.size 0 rfl (ecs E a) _ X0.out.range Tryz.underlying34 rfl size34 ?_)
   | (refine store_as34 rfl 34 _ _ rfl z29 (ecs E a) rfl rfl rfl size34 (ecs_one _ _) ?_; intro w2 hx hb; have P2 := hid hx; have B2 := hid (BA.out.trans (hb.mono BA.out.size)); have X2 := hid (X0.out.below hb); have R2 := hid (R0.out.below hb); have L2 := hid (R0.out.lt); clear hx hb)
   | (refine wpList_load_mid rfl 34 _ rfl w.heap.size 0 rfl (ecs E a) _ X2.out.range Tryz.underlying34 rfl size34 ?_)
   | (go_at_call 22; (with_reducible refine (HW.out w2 B2.out).mono ?_); rintro e w3 ⟨rfl, hb⟩; have P3 := hid (P2.out.below hb); have B3 := hid (B2.out.trans (hb.mono B2.out.size)); have X3 := hid (X2.out.below hb); have R3 := hid (R2.out.below hb); clear hb HW)
   | fail)
  go_upto_region 4 with (first
   | (refine wpList_load_mid rfl 34 _ rfl w.heap.size 0 rfl (ecs E a) _ X3.out.range Tryz.underlying34 rfl size34 ?_)
   | (go_at_call 25; (with_reducible refine (HC.out w3 B3.out).mono ?_); rintro e w4 ⟨b, rfl, hi, hb, hn⟩; have I4 := hid hi; have N4 := hid hn; have P4 := hid (P3.out.below hb); have B4 := hid (B3.out.trans (hb.mono B3.out.size)); have R4 := hid (R3.out.below hb); clear hi hn hb HC)
   | (refine store_mid_as rfl 34 _ _ rfl W0.heap.size 0 (ecs K b).toArray rfl rfl (Blk.there (n := 29) P4.out (Nat.le_refl 29)) size34 (ecs_one _ _) ?_; intro u5 eu; have P := hid (show Blk u5 W0.heap.size (ecs K b) 34 by rw [eu]; exact Blk.setAll P4.out _ rfl); have R := hid (show Blk u5 (w.heap.size + 1) [.int .i64 0, .string ⟨#[]⟩, .string ⟨#[]⟩, .int .i64 0, .bool false, .string ⟨#[]⟩, .int .i64 0, .int .i64 0, .slice none 0 0, .slice none 0 0, .string ⟨#[]⟩, .int .i64 0, .int .i64 0, .bool false, .string ⟨#[]⟩, .slice none 0 0, .slice none 0 0, .slice none 0 0, .slice none 0 0, .int .i64 0, .int .i64 0, .int .i64 0, .int .i64 0, .int .i64 0, .int .i64 0, .int .i64 0, .int .i64 0, .string ⟨#[]⟩, .int .i64 0] 34 by rw [eu]; exact R4.out.otherAll _ _ _ (by have := L2.out; omega)); have Bl := hid (show Below w.heap.size w u5 by rw [eu]; exact below_setAll BA.out.size _ _ _ B4.out); have I := hid (show IsE u5 K b by rw [eu]; exact I4.out.otherE _ _ _ (N4.out _ (HE.out.ap BA.out.size))); clear eu I4 P4 R4 B4)
   | fail)
  have HVF := hid (HVK.out b u5 I.out)
  have AR := hid (N4.out (w.heap.size + 1) (HE.out.ap (Nat.le_succ _)))
  clear HVK
  by_cases hv : v = 0
  ·subst hv
   have HY := hid (show rcvE E = K by rw [HRD.out]; exact if_pos rfl)
   go_wp2_with (first
    | (refine wpList_load_mid rfl 34 _ rfl W0.heap.size 0 rfl (ecs K b) _ P.out.range Tryz.underlying34 rfl size34 ?_)
    | (go_at_call 32; (with_reducible refine HVF.out.mono ?_); rintro e wv ⟨rfl, hb⟩; replace P := hid (P.out.below hb); replace I := hid (I.out.below hb); replace R := hid (R.out.below hb); replace Bl := hid (Bl.out.trans (hb.mono Bl.out.size)); clear hb)
    | (refine wpList_load_mid rfl 34 _ rfl W0.heap.size 0 rfl (ecs K b) _ P.out.range Tryz.underlying34 rfl size34 ?_)
    | (refine store_mid_as rfl 34 _ _ rfl (w.heap.size + 1) 0 (ecs K b).toArray rfl rfl (Blk.there (n := 29) R.out (Nat.le_refl 29)) size34 (ecs_one _ _) ?_; intro wz ez; have EZ := hid ez; clear ez)
    | fail)
   (try simp only [Exit.inBlock, Exit.then])
   refine bodyPost_ret (results_cell_tmp_blk rfl _ _ (w.heap.size + 1) (ecs K b) 34 _ rfl (by rw [EZ.out]; exact Blk.setAll R.out _ rfl) Tryz.underlying34 rfl size34) rfl ?_
   rw [EZ.out, HY.out]
   exact ⟨b, rfl, I.out.otherE _ _ _ AR.out, below_setAll (Nat.le_succ _) _ _ _ Bl.out⟩
  ·have HY := hid (show rcvE E = e0 by rw [HRD.out]; exact if_neg hv)
   have z0 : (v == 0) = false := beq_eq_false_iff_ne.2 hv
   have z0b : (v != 0) = true := by simp [bne, z0]
   clear hv
   go_wp2_with (first
    | (refine wpList_load_mid rfl 34 _ rfl W0.heap.size 0 rfl (ecs K b) _ P.out.range Tryz.underlying34 rfl size34 ?_)
    | (go_at_call 32; (with_reducible refine HVF.out.mono ?_); rintro e wv ⟨rfl, hb⟩; replace R := hid (R.out.below hb); replace Bl := hid (Bl.out.trans (hb.mono Bl.out.size)); clear hb)
    | (refine store_mid_as rfl 34 _ _ rfl (w.heap.size + 1) 0 (#[.int .i64 0, .string ⟨#[]⟩, .string ⟨#[]⟩, .int .i64 0, .bool false, .string ⟨#[]⟩, .int .i64 0, .int .i64 0, .slice none 0 0, .slice none 0 0, .string ⟨#[]⟩, .int .i64 0, .int .i64 0, .bool false, .string ⟨#[]⟩, .slice none 0 0, .slice none 0 0, .slice none 0 0, .slice none 0 0, .int .i64 0, .int .i64 0, .int .i64 0, .int .i64 0, .int .i64 0, .int .i64 0, .int .i64 0, .int .i64 0, .string ⟨#[]⟩, .int .i64 0] : Array Value) rfl rfl (Blk.there (n := 29) R.out (Nat.le_refl 29)) size34 (by simp [Value.oneCell']) ?_; intro wz ez; have EZ := hid ez; clear ez)
    | fail)
   (try simp only [Exit.inBlock, Exit.then])
   refine bodyPost_ret (results_cell_tmp_blk rfl _ _ (w.heap.size + 1) [.int .i64 0, .string ⟨#[]⟩, .string ⟨#[]⟩, .int .i64 0, .bool false, .string ⟨#[]⟩, .int .i64 0, .int .i64 0, .slice none 0 0, .slice none 0 0, .string ⟨#[]⟩, .int .i64 0, .int .i64 0, .bool false, .string ⟨#[]⟩, .slice none 0 0, .slice none 0 0, .slice none 0 0, .slice none 0 0, .int .i64 0, .int .i64 0, .int .i64 0, .int .i64 0, .int .i64 0, .int .i64 0, .int .i64 0, .int .i64 0, .string ⟨#[]⟩, .int .i64 0] 34 _ rfl (by rw [EZ.out]; exact Blk.setAll R.out _ rfl) Tryz.underlying34 rfl size34) rfl ?_
   rw [EZ.out, HY.out]
   exact ⟨aw0, rfl, e0_is _, below_setAll (Nat.le_succ _) _ _ _ Bl.out⟩
 ·have HKP := hid (kpt_t hwb)
  simp only [hwb] at HW
  rw [HKP.out] at HRD HRI
  have HVK := hid (fun y (hi : IsE y E a) => rverify32 E a y hi HSM.out)
  rw [← HRI.out] at HVK
  generalize rcvI E = v at HRD HVK ⊢
  clear hwb
  go_enter Tryz.func31, Tryz.ntmps31
  go_upto_region 4 with (first
   | (refine wpList_load_mid rfl 34 _ rfl w.heap.size 0 rfl (ecs E a) _ X0.out.range Tryz.underlying34 rfl size34 ?_)
   | (refine store_as34 rfl 34 _ _ rfl z29 (ecs E a) rfl rfl rfl size34 (ecs_one _ _) ?_; intro w2 hx hb; have P2 := hid hx; have B2 := hid (BA.out.trans (hb.mono BA.out.size)); have X2 := hid (X0.out.below hb); have R2 := hid (R0.out.below hb); clear hx hb)
   | (refine wpList_load_mid rfl 34 _ rfl w.heap.size 0 rfl (ecs E a) _ X2.out.range Tryz.underlying34 rfl size34 ?_)
   | (go_at_call 22; (with_reducible refine (HW.out w2 B2.out).mono ?_); rintro e w3 ⟨rfl, hb⟩; have P := hid (P2.out.below hb); have Bl := hid (B2.out.trans (hb.mono B2.out.size)); have R := hid (R2.out.below hb); clear hb HW)
   | fail)
  have I := hid (HE.out.below Bl.out)
  have HVF := hid (HVK.out w3 I.out)
  have AR := hid (HE.out.ap (Nat.le_succ _))
  clear HVK
  by_cases hv : v = 0
  ·subst hv
   have HY := hid (show rcvE E = E by rw [HRD.out]; exact if_pos rfl)
   go_wp2_with (first
    | (refine wpList_load_mid rfl 34 _ rfl W0.heap.size 0 rfl (ecs E a) _ P.out.range Tryz.underlying34 rfl size34 ?_)
    | (go_at_call 32; (with_reducible refine HVF.out.mono ?_); rintro e wv ⟨rfl, hb⟩; replace P := hid (P.out.below hb); replace I := hid (I.out.below hb); replace R := hid (R.out.below hb); replace Bl := hid (Bl.out.trans (hb.mono Bl.out.size)); clear hb)
    | (refine wpList_load_mid rfl 34 _ rfl W0.heap.size 0 rfl (ecs E a) _ P.out.range Tryz.underlying34 rfl size34 ?_)
    | (refine store_mid_as rfl 34 _ _ rfl (w.heap.size + 1) 0 (ecs E a).toArray rfl rfl (Blk.there (n := 29) R.out (Nat.le_refl 29)) size34 (ecs_one _ _) ?_; intro wz ez; have EZ := hid ez; clear ez)
    | fail)
   (try simp only [Exit.inBlock, Exit.then])
   refine bodyPost_ret (results_cell_tmp_blk rfl _ _ (w.heap.size + 1) (ecs E a) 34 _ rfl (by rw [EZ.out]; exact Blk.setAll R.out _ rfl) Tryz.underlying34 rfl size34) rfl ?_
   rw [EZ.out, HY.out]
   exact ⟨a, rfl, I.out.otherE _ _ _ AR.out, below_setAll (Nat.le_succ _) _ _ _ Bl.out⟩
  ·have HY := hid (show rcvE E = e0 by rw [HRD.out]; exact if_neg hv)
   have z0 : (v == 0) = false := beq_eq_false_iff_ne.2 hv
   have z0b : (v != 0) = true := by simp [bne, z0]
   clear hv
   go_wp2_with (first
    | (refine wpList_load_mid rfl 34 _ rfl W0.heap.size 0 rfl (ecs E a) _ P.out.range Tryz.underlying34 rfl size34 ?_)
    | (go_at_call 32; (with_reducible refine HVF.out.mono ?_); rintro e wv ⟨rfl, hb⟩; replace R := hid (R.out.below hb); replace Bl := hid (Bl.out.trans (hb.mono Bl.out.size)); clear hb)
    | (refine store_mid_as rfl 34 _ _ rfl (w.heap.size + 1) 0 (#[.int .i64 0, .string ⟨#[]⟩, .string ⟨#[]⟩, .int .i64 0, .bool false, .string ⟨#[]⟩, .int .i64 0, .int .i64 0, .slice none 0 0, .slice none 0 0, .string ⟨#[]⟩, .int .i64 0, .int .i64 0, .bool false, .string ⟨#[]⟩, .slice none 0 0, .slice none 0 0, .slice none 0 0, .slice none 0 0, .int .i64 0, .int .i64 0, .int .i64 0, .int .i64 0, .int .i64 0, .int .i64 0, .int .i64 0, .int .i64 0, .string ⟨#[]⟩, .int .i64 0] : Array Value) rfl rfl (Blk.there (n := 29) R.out (Nat.le_refl 29)) size34 (by simp [Value.oneCell']) ?_; intro wz ez; have EZ := hid ez; clear ez)
    | fail)
   (try simp only [Exit.inBlock, Exit.then])
   refine bodyPost_ret (results_cell_tmp_blk rfl _ _ (w.heap.size + 1) [.int .i64 0, .string ⟨#[]⟩, .string ⟨#[]⟩, .int .i64 0, .bool false, .string ⟨#[]⟩, .int .i64 0, .int .i64 0, .slice none 0 0, .slice none 0 0, .string ⟨#[]⟩, .int .i64 0, .int .i64 0, .bool false, .string ⟨#[]⟩, .slice none 0 0, .slice none 0 0, .slice none 0 0, .slice none 0 0, .int .i64 0, .int .i64 0, .int .i64 0, .int .i64 0, .int .i64 0, .int .i64 0, .int .i64 0, .int .i64 0, .string ⟨#[]⟩, .int .i64 0] 34 _ rfl (by rw [EZ.out]; exact Blk.setAll R.out _ rfl) Tryz.underlying34 rfl size34) rfl ?_
   rw [EZ.out, HY.out]
   exact ⟨aw0, rfl, e0_is _, below_setAll (Nat.le_succ _) _ _ _ Bl.out⟩
end Go.Proofs.YtablocpcgknmaaaGreatDoor
