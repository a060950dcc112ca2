/- The walk of the statement that what is written is read back. -/
import Derived.Test.YtgfodleoollmmaaW19
import Derived.Test.YtgfodleoollmmaaW20
import Derived.Deep.RegionHeld3
import Derived.Deep.Cut
import Derived.Deep.CutRange
namespace Go.Proofs.Ytgfodleoollmmaa
open Go.RowKit
set_option linter.unusedVariables false

theorem Tw.below {w w' : World} {a : Option Addr} {len cap : Nat} {zs : List ByteArray} (h : Tw w a len cap zs) (hb : Below w.heap.size w w') : Tw w' a len cap zs :=
  ⟨h.sz, h.bd, h.le, h.nl, fun h0 => by
    obtain ⟨b, off, e, hl, hc⟩ := h.cell h0
    exact ⟨b, off, e, Nat.lt_of_lt_of_le hl hb.size, fun i hi => (hb.cell (p := ⟨b, off + i, none⟩) hl).trans (hc i hi)⟩⟩
theorem same_self (a1 : Option Addr) (l1 c1 : Nat) (a2 : Option Addr) (l2 c2 : Nat) (x : List Int) (w : World) (h1 : Sl w a1 l1 c1 x) (h2 : Sl w a2 l2 c2 x) :
    Calls Try.prog 11 #[.slice a1 l1 c1, .slice a2 l2 c2] w fun e w' => e = .returned (.bool true) ∧ w = w' :=
  (same_any a1 l1 c1 x a2 l2 c2 x w h1 h2).mono fun e w' ⟨he, hw⟩ => ⟨by rw [he, beq_self_eq_true], hw⟩
theorem undrew {w w' : World} (h : Below w.drew.heap.size w.drew w') : Below w.heap.size w w' := ⟨h.os, h.tape, h.output, h.size, h.block⟩

set_option maxRecDepth 100000 in
set_option maxHeartbeats 20000000 in
theorem back_any (aB : Option Addr) (lB cB : Nat) (N : Int) (S : ByteArray) (aL : Option Addr) (lL cL : Nat) (zL : List Int) (aT : Option Addr) (lT cT : Nat) (ss : List ByteArray) (b : Bool) (aM : Option Addr) (lM cM : Nat) (zM : List Int) (w : World)
    (hN : C.in64 N) (hL : Is w aL lL cL zL) (hT : Tw w aT lT cT ss) (hM : Sl w aM lM cM zM) :
    Calls Try.prog 6 #[vl aB lB cB N S aL lL cL aT lT cT b, .slice aM lM cM] w fun e w' => e = .returned (.bool true) ∧ Below w.heap.size w w' := by
  have HTw := Lib.hid hT
  have HW := Lib.hid (Below.alloc (Below.refl w.heap.size w) (Nat.le_refl _) (bx aB lB cB N S aL lL cL aT lT cT b))
  have hx := held6_new w (.slice aB lB cB) (.int .i64 N) (.string S) (.slice aL lL cL) (.slice aT lT cT) (.bool b)
  have HBx := Lib.hid hx
  obtain ⟨k0, k1, k2, k3, k4, k5, kl⟩ := hx
  by_cases hf : Fits lB S lL lT ss
  · have HF := Lib.hid hf
    by_cases hm : 2000 < lM
    · have d : decide ((2000 : Int) < (lM : Int)) = true := by simp; omega
      clear hf hm hL hT hM
      go_enter Try.func6, Try.ntmps6
      go_wp2_with (first
        | (go_at_call 9; refine (great_any aB lB cB N S aL lL cL aT lT cT b ss _ (HTw.out.below (Below.alloc (Below.refl _ w) (Nat.le_refl _) _))).mono ?_; rintro e w1 ⟨hg, hb⟩; obtain rfl := great_false hg HF.out; have D1 := Lib.hid hb; clear k0 k1 k2 k3 k4 k5 kl; obtain ⟨k0, k1, k2, k3, k4, k5, kl⟩ := HBx.out.below D1.out; clear hg hb)
        | (go_at_call 10; refine (awake_any _).mono ?_; rintro e wl ⟨rfl, hbl⟩))
      go_ret
      exact ⟨rfl, (HW.out.trans (D1.out.mono (by simp))).trans (hbl.mono (by have := D1.out.size; simp at this; omega))⟩
    have d : decide ((2000 : Int) < (lM : Int)) = false := by simp; omega
    have hS : Small S := by unfold Small; have := hf.s; omega
    have hL5 : lL ≤ 5000 := by have := hf.l; omega
    have hT5 : lT ≤ 5000 := by have := hf.t; omega
    have hS2 : S.size ≤ 2000 := hf.s
    have hTs := hT.small hf.e
    have hLs := hL.sz
    have hTsz := hT.sz
    have hMs := hM.sz
    have hents := ents_len ss hTs.bd
    have hencs := encs_len zL hL.bd
    have hbN := C.enc_bd (C.zig_lt hN)
    have hbl := C.enc_bd (C.zig_lt (in_len lL (by omega)))
    have hbt := C.enc_bd (C.zig_lt (in_len lT (by omega)))
    have hbs := C.enc_bd (C.zig_lt (in_len S.size (by omega)))
    have hentS := ent_bd hS
    have hfn := hf.n
    have hfl := hf.l
    have hft := hf.t
    have hsum : (ents ss).length ≤ 400000 := by omega
    have HB1 := Lib.hid (show (C.enc (C.zig N)).length ≤ 20 by omega)
    have HB2 := Lib.hid (show (C.enc (C.zig N) ++ ent S).length ≤ 3000 by simp only [List.length_append]; omega)
    have HB3 := Lib.hid (show ((C.enc (C.zig N) ++ ent S) ++ C.enc (C.zig (lL : Int)) ++ encs zL).length ≤ 30000 by simp only [List.length_append]; omega)
    have HB4 := Lib.hid (show (((C.enc (C.zig N) ++ ent S) ++ C.enc (C.zig (lL : Int)) ++ encs zL) ++ C.enc (C.zig (lT : Int)) ++ ents ss).length ≤ 60000 by simp only [List.length_append]; omega)
    have HB6 := Lib.hid (show ((((C.enc (C.zig N) ++ ent S) ++ C.enc (C.zig (lL : Int)) ++ encs zL) ++ C.enc (C.zig (lT : Int)) ++ ents ss) ++ [if b then (1 : Int) else 0]).length + lM ≤ 1000000 by simp only [List.length_append, List.length_cons, List.length_nil]; omega)
    have HY1 := Lib.hid hbN.1
    have HY2 := Lib.hid (app_bd hbN.1 hentS.1)
    have HY3 := Lib.hid (app_bd (app_bd (app_bd hbN.1 hentS.1) hbl.1) hencs.2)
    have HY4 := Lib.hid (app_bd (app_bd (app_bd (app_bd (app_bd hbN.1 hentS.1) hbl.1) hencs.2) hbt.1) (ents_bd hTs.bd))
    have hZ0 := app_bd (app_bd (app_bd (app_bd (app_bd (app_bd (app_bd hbN.1 hentS.1) hbl.1) hencs.2) hbt.1) (ents_bd hTs.bd)) (bool_bd b)) hM.bd
    obtain ⟨r4, e4⟩ : ∃ r, r = [if b then (1 : Int) else 0] ++ zM := ⟨_, rfl⟩
    obtain ⟨r3, e3⟩ : ∃ r, r = C.enc (C.zig (lT : Int)) ++ ents ss ++ r4 := ⟨_, rfl⟩
    obtain ⟨r2, e2⟩ : ∃ r, r = C.enc (C.zig (lL : Int)) ++ encs zL ++ r3 := ⟨_, rfl⟩
    obtain ⟨r1, e1⟩ : ∃ r, r = ent S ++ r2 := ⟨_, rfl⟩
    obtain ⟨Z, eZ⟩ : ∃ r, r = C.enc (C.zig N) ++ r1 := ⟨_, rfl⟩
    have HZ := Lib.hid (show ((((C.enc (C.zig N) ++ ent S) ++ C.enc (C.zig (lL : Int)) ++ encs zL) ++ C.enc (C.zig (lT : Int)) ++ ents ss) ++ [if b then (1 : Int) else 0]) ++ zM = Z by rw [eZ, e1, e2, e3, e4]; simp only [List.append_assoc])
    rw [HZ.out] at hZ0
    have HYZ := Lib.hid hZ0
    have G1 := Lib.hid (show gi Z = some (.int .i64 N, r1) by rw [eZ]; exact gi_enc hN r1)
    have G2 := Lib.hid (show gt r1 = some (.string S, r2) by rw [e1]; exact gt_enc hS r2)
    have G3 := Lib.hid (show gis r2 = some (zL, r3) by rw [e2, ← hLs]; exact gis_enc hL.bd (by omega) r3)
    have G4 := Lib.hid (show gts r3 = some (ss, r4) by rw [e3, ← hTsz]; exact gts_enc hTs.bd (by omega) r4)
    have G5 := Lib.hid (show gb r4 = some (.bool b, zM) by rw [e4]; exact gb_enc b zM)
    have l4 := congrArg List.length e4
    have l3 := congrArg List.length e3
    have l2 := congrArg List.length e2
    have l1 := congrArg List.length e1
    have lZ := congrArg List.length eZ
    simp only [List.length_append, List.length_cons, List.length_nil] at l4 l3 l2 l1 lZ
    have hZ8 : Z.length ≤ 800000 := by omega
    have hr1 : r1.length ≤ 800000 := by omega
    have hr2 : r2.length ≤ 800000 := by omega
    have hr3 : r3.length ≤ 800000 := by omega
    have hr4 : r4.length ≤ 800000 := by omega
    have hzl : zL.length ≤ 1000000 := by omega
    have hsl : ss.length ≤ 1000000 := by omega
    have HSum := Lib.hid hsum
    have HS := Lib.hid hS
    have HN := Lib.hid hN
    have HMo := Lib.hid (hM.below HW.out)
    have HIs := Lib.hid (hL.below HW.out)
    have HTs := Lib.hid (hTs.below HW.out)
    have q1 : (N != N) = false := bne_self_eq_false N
    have q2 : (S.toList == S.toList) = true := beq_self_eq_true _
    have q3 : (zL == zL) = true := beq_self_eq_true _
    have q4 : decide (ss = ss) = true := by simp
    have q5 : (b == b) = true := beq_self_eq_true _
    clear hf hS hsum hL hT hM hTs hbN hbl hbt hbs hentS hencs hents hLs hTsz hMs hm e4 e3 e2 e1 eZ l4 l3 l2 l1 lZ hZ0 hfn hfl hft
    go_enter Try.func6, Try.ntmps6
    go_upto_region 3 with (go_at_call 9; refine (great_any aB lB cB N S aL lL cL aT lT cT b ss _ (HTw.out.below (Below.alloc (Below.refl _ w) (Nat.le_refl _) _))).mono ?_; rintro e w1 ⟨hg, hb⟩; obtain rfl := great_false hg HF.out; have D1 := Lib.hid hb; clear k0 k1 k2 k3 k4 k5 kl; obtain ⟨k0, k1, k2, k3, k4, k5, kl⟩ := HBx.out.below D1.out; clear hg hb)
    trace "R3"
    go_region_held3 (fun w' => w'.cell? ⟨w.heap.size, 0, none⟩ = some (.slice aB lB cB) ∧ w'.cell? ⟨w.heap.size, 1, none⟩ = some (.int .i64 N) ∧ w'.cell? ⟨w.heap.size, 2, none⟩ = some (.string S) ∧ w'.cell? ⟨w.heap.size, 3, none⟩ = some (.slice aL lL cL) ∧ w'.cell? ⟨w.heap.size, 4, none⟩ = some (.slice aT lT cT) ∧ w'.cell? ⟨w.heap.size, 5, none⟩ = some (.bool b)) (first | exact ⟨k0, k1, k2, k3, k4, k5⟩ | go_keep)
      (first
        | (go_at_call 12; refine (putInt_any none 0 0 [] N HN.out (by omega) _ (sl_nil _)).mono ?_; rw [List.nil_append]; intro e w2 hp; obtain ⟨L2, A2, c2, hL2, rfl, hs, hb⟩ := own_len hp HY1.out; have E2 := Lib.hid (show L2 ≤ 20 by rw [hL2]; exact HB1.out); have S2 := Lib.hid hs; have D2 := Lib.hid (D1.out.trans ((undrew hb).mono D1.out.size)); clear k0 k1 k2 k3 k4 k5 kl; obtain ⟨k0, k1, k2, k3, k4, k5, kl⟩ := HBx.out.below D2.out; clear hp hL2 hs hb)
        | (go_at_call 14; refine (putText_any A2 L2 c2 (C.enc (C.zig N)) S HS.out (by have := E2.out; omega) _ S2.out).mono ?_; intro e w3 hp; obtain ⟨L3, A3, c3, hL3, rfl, hs, hb⟩ := own_len hp HY2.out; have E3 := Lib.hid (show L3 ≤ 3000 by rw [hL3]; exact HB2.out); have S3 := Lib.hid hs; have D3 := Lib.hid (D2.out.trans ((id hb).mono D2.out.size)); clear k0 k1 k2 k3 k4 k5 kl; obtain ⟨k0, k1, k2, k3, k4, k5, kl⟩ := HBx.out.below D3.out; clear hp hL3 hs hb)
        | (go_at_call 16; refine (putInts_any A3 L3 c3 (C.enc (C.zig N) ++ ent S) aL lL cL zL (by have := E3.out; omega) hL5 _ S3.out (HIs.out.below D3.out)).mono ?_; intro e w4 hp; obtain ⟨L4, A4, c4, hL4, rfl, hs, hb⟩ := own_len hp HY3.out; have E4 := Lib.hid (show L4 ≤ 30000 by rw [hL4]; exact HB3.out); have S4 := Lib.hid hs; have D4 := Lib.hid (D3.out.trans ((id hb).mono D3.out.size)); clear k0 k1 k2 k3 k4 k5 kl; obtain ⟨k0, k1, k2, k3, k4, k5, kl⟩ := HBx.out.below D4.out; clear hp hL4 hs hb)
        | (go_at_call 18; refine (putTexts_any A4 L4 c4 ((C.enc (C.zig N) ++ ent S) ++ C.enc (C.zig (lL : Int)) ++ encs zL) aT lT cT ss (by have := E4.out; omega) hT5 HSum.out _ S4.out (HTs.out.below D4.out)).mono ?_; intro e w5 hp; obtain ⟨L5, A5, c5, hL5b, rfl, hs, hb⟩ := own_len hp HY4.out; have E5 := Lib.hid (show L5 ≤ 60000 by rw [hL5b]; exact HB4.out); have S5 := Lib.hid hs; have D5 := Lib.hid (D4.out.trans ((id hb).mono D4.out.size)); clear k0 k1 k2 k3 k4 k5 kl; obtain ⟨k0, k1, k2, k3, k4, k5, kl⟩ := HBx.out.below D5.out; clear hp hL5b hs hb)
        | (go_at_call 20; refine (putBool_any A5 L5 c5 (((C.enc (C.zig N) ++ ent S) ++ C.enc (C.zig (lL : Int)) ++ encs zL) ++ C.enc (C.zig (lT : Int)) ++ ents ss) b (by have := E5.out; omega) _ S5.out).mono ?_; intro e w6 hp; obtain ⟨v6, rfl, ho, hb⟩ := own_some hp; have O6 := Lib.hid ho; have B6 := Lib.hid hb.size; have D6 := Lib.hid (D5.out.trans ((id hb).mono D5.out.size)); clear k0 k1 k2 k3 k4 k5 kl; obtain ⟨k0, k1, k2, k3, k4, k5, kl⟩ := HBx.out.below D6.out; clear hp ho hb))
    trace "BEHIND"
    all_goals go_wp2_with (first
      | (at_builtin; (refine app_bytes rfl (.tmp 35) (.tmp 36) ?_ (B := w5.heap.size) v6 ((((C.enc (C.zig N) ++ ent S) ++ C.enc (C.zig (lL : Int)) ++ encs zL) ++ C.enc (C.zig (lT : Int)) ++ ents ss) ++ [if b then (1 : Int) else 0]) ?_ O6.out B6.out aM lM cM zM ?_ (HMo.out.below D6.out) HB6.out ?_); (rfl); (rfl); (rfl); intro v7 w7 ho hb; rw [HZ.out] at ho; obtain ⟨A7, c7, rfl, hs⟩ := Own.sl ho HYZ.out; have S7 := Lib.hid hs; have D7 := Lib.hid (D6.out.trans (hb.mono D5.out.size)); clear k0 k1 k2 k3 k4 k5 kl; obtain ⟨k0, k1, k2, k3, k4, k5, kl⟩ := HBx.out.below D7.out; clear ho hs hb)
      | (go_at_call 22; refine (getInt_any _ _ _ Z hZ8 _ S7.out).mono ?_; intro e w8 hg; obtain ⟨A8, c8, rfl, hs, hb⟩ := got_yes hg G1.out; have S8 := Lib.hid hs; have D8 := Lib.hid (D7.out.trans ((id hb).mono D7.out.size)); clear k0 k1 k2 k3 k4 k5 kl; obtain ⟨k0, k1, k2, k3, k4, k5, kl⟩ := HBx.out.below D8.out; clear hg hs hb)
      | (go_at_call 29; refine (getText_any _ _ _ r1 hr1 _ S8.out).mono ?_; intro e w9 hg; obtain ⟨A9, c9, rfl, hs, hb⟩ := got_yes hg G2.out; have S9 := Lib.hid hs; have D9 := Lib.hid (D8.out.trans ((id hb).mono D8.out.size)); clear k0 k1 k2 k3 k4 k5 kl; obtain ⟨k0, k1, k2, k3, k4, k5, kl⟩ := HBx.out.below D9.out; clear hg hs hb)
      | (go_at_call 24; refine (getInts_any _ _ _ r2 hr2 _ S9.out).mono ?_; intro e w10 hg; obtain ⟨A10, c10, AL10, cl10, rfl, hi, hs, hb⟩ := gotl_yes hg G3.out; have I10 := Lib.hid hi; have S10 := Lib.hid hs; have D10 := Lib.hid (D9.out.trans ((id hb).mono D9.out.size)); clear k0 k1 k2 k3 k4 k5 kl; obtain ⟨k0, k1, k2, k3, k4, k5, kl⟩ := HBx.out.below D10.out; clear hg hi hs hb)
      | (go_at_call 26; refine (sameInts_any A10 zL.length c10 zL aL lL cL zL hzl _ I10.out (HIs.out.below D10.out)).mono ?_; rintro e w11 ⟨rfl, hb⟩; have S11 := Lib.hid (S10.out.below hb); have D11 := Lib.hid (D10.out.trans ((id hb).mono D10.out.size)); clear k0 k1 k2 k3 k4 k5 kl; obtain ⟨k0, k1, k2, k3, k4, k5, kl⟩ := HBx.out.below D11.out; clear hb)
      | (go_at_call 31; refine (getTexts_any _ _ _ r3 hr3 _ S11.out).mono ?_; intro e w12 hg; obtain ⟨A12, c12, AL12, cl12, rfl, hi, hs, hb⟩ := gotl_yes hg G4.out; have I12 := Lib.hid hi; have S12 := Lib.hid hs; have D12 := Lib.hid (D11.out.trans ((id hb).mono D11.out.size)); clear k0 k1 k2 k3 k4 k5 kl; obtain ⟨k0, k1, k2, k3, k4, k5, kl⟩ := HBx.out.below D12.out; clear hg hi hs hb)
      | (go_at_call 33; refine (sameTexts_any A12 ss.length c12 ss aT lT cT ss hsl _ I12.out (HTs.out.below D12.out)).mono ?_; rintro e w13 ⟨rfl, hb⟩; have S13 := Lib.hid (S12.out.below hb); have D13 := Lib.hid (D12.out.trans ((id hb).mono D12.out.size)); clear k0 k1 k2 k3 k4 k5 kl; obtain ⟨k0, k1, k2, k3, k4, k5, kl⟩ := HBx.out.below D13.out; clear hb)
      | (go_at_call 27; refine (getBool_any _ _ _ r4 hr4 _ S13.out).mono ?_; intro e w14 hg; obtain ⟨A14, c14, rfl, hs, hb⟩ := got_yes hg G5.out; have S14 := Lib.hid hs; have D14 := Lib.hid (D13.out.trans ((id hb).mono D13.out.size)); clear k0 k1 k2 k3 k4 k5 kl; obtain ⟨k0, k1, k2, k3, k4, k5, kl⟩ := HBx.out.below D14.out; clear hg hs hb)
      | (go_at_call 11; (refine (same_self A14 zM.length c14 aM lM cM zM _ S14.out (HMo.out.below D14.out)).mono ?_); rintro e w' ⟨rfl, rfl⟩)
      | (go_at_call 10; refine (awake_any _).mono ?_; rintro e wl ⟨rfl, hbl⟩))
    trace "END"
    go_ret
    exact ⟨rfl, (HW.out.trans (D14.out.mono (by simp))).trans (hbl.mono (by have := D14.out.size; simp at this; omega))⟩
  · have HF := Lib.hid hf
    clear hf hL hT hM
    go_enter Try.func6, Try.ntmps6
    go_wp2_with (first
      | (go_at_call 9; refine (great_any aB lB cB N S aL lL cL aT lT cT b ss _ (HTw.out.below (Below.alloc (Below.refl _ w) (Nat.le_refl _) _))).mono ?_; rintro e w1 ⟨hg, hb⟩; obtain rfl := great_true hg HF.out; have D1 := Lib.hid hb; clear k0 k1 k2 k3 k4 k5 kl; obtain ⟨k0, k1, k2, k3, k4, k5, kl⟩ := HBx.out.below D1.out; clear hg hb)
      | (go_at_call 10; refine (awake_any _).mono ?_; rintro e wl ⟨rfl, hbl⟩))
    go_ret
    exact ⟨rfl, (HW.out.trans (D1.out.mono (by simp))).trans (hbl.mono (by have := D1.out.size; simp at this; omega))⟩
end Go.Proofs.Ytgfodleoollmmaa
