/- The walk of the statement on what is written. -/
import Derived.Test.YtgfodleoollmmaaW19
import Derived.Deep.RegionHeld3
namespace Go.Proofs.Ytgfodleoollmmaa
open Go.RowKit
set_option linter.unusedVariables false

theorem Tw.below {w w' : World} {a : Option Addr} {len cap : Nat} {zs : List ByteArray} (h : Tw w a len cap zs) (hb : Below w.heap.size w w') : Tw w' a len cap zs :=
  ⟨h.sz, h.bd, h.le, h.nl, fun h0 => by
    obtain ⟨b, off, e, hl, hc⟩ := h.cell h0
    exact ⟨b, off, e, Nat.lt_of_lt_of_le hl hb.size, fun i hi => (hb.cell (p := ⟨b, off + i, none⟩) hl).trans (hc i hi)⟩⟩
theorem undrew {w w' : World} (h : Below w.drew.heap.size w.drew w') : Below w.heap.size w w' := ⟨h.os, h.tape, h.output, h.size, h.block⟩
theorem Sl.drew {w : World} {a : Option Addr} {len cap : Nat} {zs : List Int} (h : Sl w a len cap zs) : Sl w.drew a len cap zs := ⟨h.sz, h.bd, h.le, h.nl, h.cell⟩
theorem same_self (a1 : Option Addr) (l1 c1 : Nat) (a2 : Option Addr) (l2 c2 : Nat) (x : List Int) (w : World) (h1 : Sl w a1 l1 c1 x) (h2 : Sl w a2 l2 c2 x) :
    Calls Try.prog 11 #[.slice a1 l1 c1, .slice a2 l2 c2] w fun e w' => e = .returned (.bool true) ∧ w = w' :=
  (same_any a1 l1 c1 x a2 l2 c2 x w h1 h2).mono fun e w' ⟨he, hw⟩ => ⟨by rw [he, beq_self_eq_true], hw⟩

set_option maxRecDepth 100000 in
set_option maxHeartbeats 20000000 in
theorem puts_any (aB : Option Addr) (lB cB : Nat) (zB : List Int) (N : Int) (S : ByteArray) (aL : Option Addr) (lL cL : Nat) (zL : List Int) (aT : Option Addr) (lT cT : Nat) (ss : List ByteArray) (b : Bool) (w : World)
    (hB : Sl w aB lB cB zB) (hN : C.in64 N) (hL : Is w aL lL cL zL) (hT : Tw w aT lT cT ss) :
    Calls Try.prog 3 #[vl aB lB cB N S aL lL cL aT lT cT b] w fun e w' => e = .returned (.bool true) ∧ Below w.heap.size w w' := by
  have HTw := Lib.hid hT
  have HW := Lib.hid (Below.alloc (Below.refl w.heap.size w) (Nat.le_refl _) (bx aB lB cB N S aL lL cL aT lT cT b))
  have hx := held6_new w (.slice aB lB cB) (.int .i64 N) (.string S) (.slice aL lL cL) (.slice aT lT cT) (.bool b)
  have HBx := Lib.hid hx
  obtain ⟨k0, k1, k2, k3, k4, k5, kl⟩ := hx
  by_cases hf : Fits lB S lL lT ss
  · have HF := Lib.hid hf
    have hS : Small S := by unfold Small; have := hf.s; omega
    have hS8 : lB + S.size ≤ 800000 := by have := hf.s; have := hf.b; omega
    have hB4 : lB ≤ 400000 := by have := hf.b; omega
    have hB3 : lB ≤ 300000 := by have := hf.b; omega
    have hB8 : lB ≤ 800000 := by have := hf.b; omega
    have hL5 : lL ≤ 5000 := by have := hf.l; omega
    have hT5 : lT ≤ 5000 := by have := hf.t; omega
    have hTs := hT.small hf.e
    have hsum : (ents ss).length ≤ 400000 := by
      have h1 := ents_len ss hTs.bd
      have h2 := hf.n
      have h3 := hf.t
      have h4 := hT.sz
      omega
    have HSum := Lib.hid hsum
    have HS := Lib.hid hS
    have HN := Lib.hid hN
    have HSl := Lib.hid (hB.below HW.out)
    have HIs := Lib.hid (hL.below HW.out)
    have HTs := Lib.hid (hTs.below HW.out)
    have hbN := (C.enc_bd (C.zig_lt hN)).1
    have hbl := (C.enc_bd (C.zig_lt (in_len lL (by omega)))).1
    have hbt := (C.enc_bd (C.zig_lt (in_len lT (by omega)))).1
    have HY1 := Lib.hid (app_bd hB.bd hbN)
    have HY2 := Lib.hid (app_bd hB.bd (ent_bd hS).1)
    have HY3 := Lib.hid (app_bd (app_bd hB.bd hbl) (encs_len zL hL.bd).2)
    have HY4 := Lib.hid (app_bd (app_bd hB.bd hbt) (ents_bd hTs.bd))
    have HY5 := Lib.hid (app_bd hB.bd (bool_bd b))
    clear hf hS hsum hB hL hT hTs hbN hbl hbt
    go_enter Try.func3, Try.ntmps3
    go_wp2_with (go_at_call 9; refine (great_any aB lB cB N S aL lL cL aT lT cT b ss _ (HTw.out.below (Below.alloc (Below.refl _ w) (Nat.le_refl _) _))).mono ?_; rintro e w1 ⟨hg, hb⟩; obtain rfl := great_false hg HF.out; have D1 := Lib.hid hb; obtain ⟨k0, k1, k2, k3, k4, k5, kl⟩ := HBx.out.below D1.out; clear hg hb)
    simp only [List.append_eq, List.cons_append, List.nil_append]
    go_region_held3 (fun w' => w'.cell? ⟨w.heap.size, 0, none⟩ = some (.slice aB lB cB) ∧ w'.cell? ⟨w.heap.size, 1, none⟩ = some (.int .i64 N) ∧ w'.cell? ⟨w.heap.size, 2, none⟩ = some (.string S) ∧ w'.cell? ⟨w.heap.size, 3, none⟩ = some (.slice aL lL cL) ∧ w'.cell? ⟨w.heap.size, 4, none⟩ = some (.slice aT lT cT) ∧ w'.cell? ⟨w.heap.size, 5, none⟩ = some (.bool b)) (first | exact ⟨k0, k1, k2, k3, k4, k5⟩ | go_keep)
      (first
      | (go_at_call 12; trace "ARM0"; refine (putInt_any aB lB cB zB N HN.out (by omega) _ ((HSl.out.below D1.out).drew)).mono ?_; intro e w2 hp; obtain ⟨L2, A2, c2, hL2, rfl, hs, hb⟩ := own_len hp HY1.out; have E2 := Lib.hid hL2; have S2 := Lib.hid hs; clear k0 k1 k2 k3 k4 k5 kl; have D2 := Lib.hid (D1.out.trans ((undrew hb).mono D1.out.size)); obtain ⟨k0, k1, k2, k3, k4, k5, kl⟩ := HBx.out.below D2.out; clear hp hL2 hs hb; clear D1)
      | (go_at_call 13; trace "ARM1"; refine (rputInt_any aB lB cB zB N HN.out (by omega) _ (HSl.out.below D2.out)).mono ?_; intro e w3 hp; obtain ⟨L3, A3, c3, hL3, rfl, hs, hb⟩ := own_len hp HY1.out; have E3 := Lib.hid hL3; have S3 := Lib.hid hs; have S2b := Lib.hid (S2.out.below hb); clear k0 k1 k2 k3 k4 k5 kl; have D3 := Lib.hid (D2.out.trans (hb.mono D2.out.size)); obtain ⟨k0, k1, k2, k3, k4, k5, kl⟩ := HBx.out.below D3.out; clear hp hL3 hs hb; clear D2)
      | (go_at_call 11; (refine (same_self A2 L2 c2 A3 L3 c3 (zB ++ C.enc (C.zig N)) _ S2b.out S3.out).mono ?_); rintro e w' ⟨rfl, rfl⟩; clear S2 S2b S3 E2 E3)
      | (go_at_call 14; trace "ARM3"; refine (putText_any aB lB cB zB S HS.out hS8 _ (HSl.out.below D3.out)).mono ?_; intro e w4 hp; obtain ⟨L4, A4, c4, hL4, rfl, hs, hb⟩ := own_len hp HY2.out; have E4 := Lib.hid hL4; have S4 := Lib.hid hs; clear k0 k1 k2 k3 k4 k5 kl; have D4 := Lib.hid (D3.out.trans (hb.mono D3.out.size)); obtain ⟨k0, k1, k2, k3, k4, k5, kl⟩ := HBx.out.below D4.out; clear hp hL4 hs hb; clear D3)
      | (go_at_call 15; trace "ARM4"; refine (rputText_any aB lB cB zB S HS.out hS8 _ (HSl.out.below D4.out)).mono ?_; intro e w5 hp; obtain ⟨L5, A5, c5, hL5, rfl, hs, hb⟩ := own_len hp HY2.out; have E5 := Lib.hid hL5; have S5 := Lib.hid hs; have S4b := Lib.hid (S4.out.below hb); clear k0 k1 k2 k3 k4 k5 kl; have D5 := Lib.hid (D4.out.trans (hb.mono D4.out.size)); obtain ⟨k0, k1, k2, k3, k4, k5, kl⟩ := HBx.out.below D5.out; clear hp hL5 hs hb; clear D4)
      | (go_at_call 11; (refine (same_self A4 L4 c4 A5 L5 c5 (zB ++ ent S) _ S4b.out S5.out).mono ?_); rintro e w' ⟨rfl, rfl⟩; clear S4 S4b S5 E4 E5)
      | (go_at_call 16; trace "ARM6"; refine (putInts_any aB lB cB zB aL lL cL zL hB4 hL5 _ (HSl.out.below D5.out) (HIs.out.below D5.out)).mono ?_; intro e w6 hp; obtain ⟨L6, A6, c6, hL6, rfl, hs, hb⟩ := own_len hp HY3.out; have E6 := Lib.hid hL6; have S6 := Lib.hid hs; clear k0 k1 k2 k3 k4 k5 kl; have D6 := Lib.hid (D5.out.trans (hb.mono D5.out.size)); obtain ⟨k0, k1, k2, k3, k4, k5, kl⟩ := HBx.out.below D6.out; clear hp hL6 hs hb; clear D5)
      | (go_at_call 17; trace "ARM7"; refine (rputInts_any aB lB cB zB aL lL cL zL hB4 hL5 _ (HSl.out.below D6.out) (HIs.out.below D6.out)).mono ?_; intro e w7 hp; obtain ⟨L7, A7, c7, hL7, rfl, hs, hb⟩ := own_len hp HY3.out; have E7 := Lib.hid hL7; have S7 := Lib.hid hs; have S6b := Lib.hid (S6.out.below hb); clear k0 k1 k2 k3 k4 k5 kl; have D7 := Lib.hid (D6.out.trans (hb.mono D6.out.size)); obtain ⟨k0, k1, k2, k3, k4, k5, kl⟩ := HBx.out.below D7.out; clear hp hL7 hs hb; clear D6)
      | (go_at_call 11; (refine (same_self A6 L6 c6 A7 L7 c7 (zB ++ C.enc (C.zig (lL : Int)) ++ encs zL) _ S6b.out S7.out).mono ?_); rintro e w' ⟨rfl, rfl⟩; clear S6 S6b S7 E6 E7)
      | (go_at_call 18; trace "ARM9"; refine (putTexts_any aB lB cB zB aT lT cT ss hB4 hT5 HSum.out _ (HSl.out.below D7.out) (HTs.out.below D7.out)).mono ?_; intro e w8 hp; obtain ⟨L8, A8, c8, hL8, rfl, hs, hb⟩ := own_len hp HY4.out; have E8 := Lib.hid hL8; have S8 := Lib.hid hs; clear k0 k1 k2 k3 k4 k5 kl; have D8 := Lib.hid (D7.out.trans (hb.mono D7.out.size)); obtain ⟨k0, k1, k2, k3, k4, k5, kl⟩ := HBx.out.below D8.out; clear hp hL8 hs hb; clear D7)
      | (go_at_call 19; trace "ARM10"; refine (rputTexts_any aB lB cB zB aT lT cT ss hB3 hT5 HSum.out _ (HSl.out.below D8.out) (HTs.out.below D8.out)).mono ?_; intro e w9 hp; obtain ⟨L9, A9, c9, hL9, rfl, hs, hb⟩ := own_len hp HY4.out; have E9 := Lib.hid hL9; have S9 := Lib.hid hs; have S8b := Lib.hid (S8.out.below hb); clear k0 k1 k2 k3 k4 k5 kl; have D9 := Lib.hid (D8.out.trans (hb.mono D8.out.size)); obtain ⟨k0, k1, k2, k3, k4, k5, kl⟩ := HBx.out.below D9.out; clear hp hL9 hs hb; clear D8)
      | (go_at_call 11; (refine (same_self A8 L8 c8 A9 L9 c9 (zB ++ C.enc (C.zig (lT : Int)) ++ ents ss) _ S8b.out S9.out).mono ?_); rintro e w' ⟨rfl, rfl⟩; clear S8 S8b S9 E8 E9)
      | (go_at_call 20; trace "ARM12"; refine (putBool_any aB lB cB zB b hB8 _ (HSl.out.below D9.out)).mono ?_; intro e w10 hp; obtain ⟨L10, A10, c10, hL10, rfl, hs, hb⟩ := own_len hp HY5.out; have E10 := Lib.hid hL10; have S10 := Lib.hid hs; clear k0 k1 k2 k3 k4 k5 kl; have D10 := Lib.hid (D9.out.trans (hb.mono D9.out.size)); obtain ⟨k0, k1, k2, k3, k4, k5, kl⟩ := HBx.out.below D10.out; clear hp hL10 hs hb; clear D9)
      | (go_at_call 21; trace "ARM13"; refine (rputBool_any aB lB cB zB b hB8 _ (HSl.out.below D10.out)).mono ?_; intro e w11 hp; obtain ⟨L11, A11, c11, hL11, rfl, hs, hb⟩ := own_len hp HY5.out; have E11 := Lib.hid hL11; have S11 := Lib.hid hs; have S10b := Lib.hid (S10.out.below hb); clear k0 k1 k2 k3 k4 k5 kl; have D11 := Lib.hid (D10.out.trans (hb.mono D10.out.size)); obtain ⟨k0, k1, k2, k3, k4, k5, kl⟩ := HBx.out.below D11.out; clear hp hL11 hs hb; clear D10)
      | (go_at_call 11; (refine (same_self A10 L10 c10 A11 L11 c11 (zB ++ [if b then (1 : Int) else 0]) _ S10b.out S11.out).mono ?_); rintro e w' ⟨rfl, rfl⟩; clear S10 S10b S11 E10 E11)
      | (go_at_call 10; trace "ARM15"; refine (awake_any _).mono ?_; rintro e wl ⟨rfl, hbl⟩; clear k0 k1 k2 k3 k4 k5 kl; have DL := Lib.hid (D11.out.trans (hbl.mono D11.out.size)); obtain ⟨k0, k1, k2, k3, k4, k5, kl⟩ := HBx.out.below DL.out))
    trace "BEHIND"
    all_goals go_wp2
    go_ret
    exact ⟨rfl, HW.out.trans (DL.out.mono (by simp))⟩
  · have HF := Lib.hid hf
    clear hf hB hL hT
    go_enter Try.func3, Try.ntmps3
    go_wp2_with (first
      | (go_at_call 9; refine (great_any aB lB cB N S aL lL cL aT lT cT b ss _ (HTw.out.below (Below.alloc (Below.refl _ w) (Nat.le_refl _) _))).mono ?_; rintro e w1 ⟨hg, hb⟩; obtain rfl := great_true hg HF.out; have D1 := Lib.hid hb; clear hg hb)
      | (go_at_call 10; refine (awake_any _).mono ?_; rintro e wl ⟨rfl, hbl⟩))
    go_ret
    exact ⟨rfl, (HW.out.trans (D1.out.mono (by simp))).trans (hbl.mono (by have := D1.out.size; simp at this; omega))⟩
end Go.Proofs.Ytgfodleoollmmaa
