/- Power levels: their data, where they lie, what their check gives. No condition. -/
import Derived.Test.YtablocpcgknmaaaGreatDoorRTl
import Derived.Deep.QuietTactic
import Derived.BigQuiet
import Derived.Deep.Cut
import Derived.Deep.CutRange
import Derived.Deep.RegionHeld3
import Derived.Test.YtablocpcgknmaaaGreatDoorRows
namespace Go.Proofs.YtablocpcgknmaaaGreatDoor
open Go.Lib (hid)
open Go Go.RowKit
set_option linter.unusedVariables false
set_option linter.unusedSimpArgs false
set_option maxRecDepth 100000

section
variable {P : Program} {ops : Array Oper} {Q : Exit → Act → World → Prop} {md : Region.Mode} {S : World → Prop}
theorem sA {α : Type} {l : List α} {i : Nat} {a : α} : l.toArray.setIfInBounds i a = (l.set i a).toArray := List.setIfInBounds_toArray ..
theorem s0 {α : Type} {x y : α} {l : List α} : (x :: l).set 0 y = y :: l := List.set_cons_zero
theorem s1 {α : Type} {x y : α} {l : List α} {i : Nat} : (x :: l).set (i + 1) y = x :: l.set i y := List.set_cons_succ
end
/-- Power levels as data. -/
structure Lv where
 us : List (ByteArray × Int)
 ks : List (Int × Int)
 d : Int
 x3 : Int
 x4 : Int
 x5 : Int
 x6 : Int
 x7 : Int
 x8 : Int
def fU (us : List (ByteArray × Int)) (j : Nat) : ByteArray × Int := us.getD j (⟨#[]⟩, 0)
def fK (ks : List (Int × Int)) (j : Nat) : Int × Int := ks.getD j (0, 0)
def i64B (n : Int) : Prop := -9223372036854775808 ≤ n ∧ n ≤ 9223372036854775807
/-- Where their lists lie. -/
structure IsL (w : World) (L : Lv) (uA : Option Addr) (uC : Nat) (kA : Option Addr) (kC : Nat) : Prop where
 us : Rws w uA L.us.length uC 2 (rowU (fU L.us))
 ks : Rws w kA L.ks.length kC 2 (rowK (fK L.ks))
 fu : ∀ p ∈ L.us, p.1.size ≤ 9223372036854775807 ∧ i64B p.2
 fk : ∀ p ∈ L.ks, i64B p.1 ∧ i64B p.2
 nm : i64B L.d ∧ i64B L.x3 ∧ i64B L.x4 ∧ i64B L.x5 ∧ i64B L.x6 ∧ i64B L.x7 ∧ i64B L.x8
theorem IsL.below {w w1 : World} {L : Lv} {uA : Option Addr} {uC : Nat} {kA : Option Addr} {kC : Nat} (h : IsL w L uA uC kA kC) (hb : Below w.heap.size w w1) : IsL w1 L uA uC kA kC := ⟨h.us.below hb, h.ks.below hb, h.fu, h.fk, h.nm⟩
abbrev lcs (L : Lv) (uA : Option Addr) (uC : Nat) (kA : Option Addr) (kC : Nat) : List Value := lvc uA L.us.length uC kA L.ks.length kC L.d L.x3 L.x4 L.x5 L.x6 L.x7 L.x8
def leS (x y : ByteArray) : Bool := Op.bytesLess x.toList y.toList || (x.toList == y.toList)
def leO (x : ByteArray) : Option ByteArray → Bool
 | none => false
 | some y => leS x y
def leI (x : Int) : Option Int → Bool
 | none => false
 | some y => decide (x ≤ y)
def wdB (n : Int) : Bool := decide (n < -1000 ∨ 1000 < n)
def kdB (k : Int) : Bool := decide (1 ≤ k ∧ k ≤ 14)
def chkUs : Option ByteArray → List (ByteArray × Int) → Int
 | _, [] => 0
 | pv, p :: r => if I.mkd 64 (bys p.1) = false then 3 else if leO p.1 pv = true then 8 else if wdB p.2 = true then 2 else chkUs (some p.1) r
def chkU (us : List (ByteArray × Int)) : Int := if 100 < us.length then 7 else chkUs none us
def chkKs : Option Int → List (Int × Int) → Int
 | _, [] => 0
 | pv, p :: r => if kdB p.1 = false then 1 else if leI p.1 pv = true then 8 else if wdB p.2 = true then 2 else chkKs (some p.1) r
def chkK (ks : List (Int × Int)) : Int := if 100 < ks.length then 7 else chkKs none ks
def prU (us : List (ByteArray × Int)) (k : Nat) : Option ByteArray := if k = 0 then none else some (fU us (k - 1)).1
def prK (ks : List (Int × Int)) (k : Nat) : Option Int := if k = 0 then none else some (fK ks (k - 1)).1
theorem fU_at {us : List (ByteArray × Int)} {k : Nat} (h : k < us.length) : fU us k = us[k] := by unfold fU; rw [List.getD_eq_getElem?_getD, List.getElem?_eq_getElem h]; rfl
theorem fK_at {us : List (Int × Int)} {k : Nat} (h : k < us.length) : fK us k = us[k] := by unfold fK; rw [List.getD_eq_getElem?_getD, List.getElem?_eq_getElem h]; rfl
theorem stepU {us : List (ByteArray × Int)} {k : Nat} (h : k < us.length) : chkUs (prU us k) (us.drop k) = if I.mkd 64 (bys (fU us k).1) = false then 3 else if leO (fU us k).1 (prU us k) = true then 8 else if wdB (fU us k).2 = true then 2 else chkUs (prU us (k + 1)) (us.drop (k + 1)) := by
 rw [List.drop_eq_getElem_cons h, fU_at h, chkUs]
 unfold prU
 rw [if_neg (Nat.succ_ne_zero k), Nat.add_sub_cancel, fU_at h]
theorem stepK {us : List (Int × Int)} {k : Nat} (h : k < us.length) : chkKs (prK us k) (us.drop k) = if kdB (fK us k).1 = false then 1 else if leI (fK us k).1 (prK us k) = true then 8 else if wdB (fK us k).2 = true then 2 else chkKs (prK us (k + 1)) (us.drop (k + 1)) := by
 rw [List.drop_eq_getElem_cons h, fK_at h, chkKs]
 unfold prK
 rw [if_neg (Nat.succ_ne_zero k), Nat.add_sub_cancel, fK_at h]
theorem doneU {us : List (ByteArray × Int)} {k : Nat} (h : us.length ≤ k) : chkUs (prU us k) (us.drop k) = 0 := by rw [List.drop_eq_nil_of_le h]; rfl
theorem doneK {us : List (Int × Int)} {k : Nat} (h : us.length ≤ k) : chkKs (prK us k) (us.drop k) = 0 := by rw [List.drop_eq_nil_of_le h]; rfl
theorem leO_none {x : ByteArray} {us : List (ByteArray × Int)} {k : Nat} (h : ¬ 0 < k) : leO x (prU us k) = false := by unfold prU; rw [if_pos (by omega)]; rfl
theorem leO_some {x : ByteArray} {us : List (ByteArray × Int)} {k : Nat} (h : 0 < k) : leO x (prU us k) = leS x (fU us (k - 1)).1 := by unfold prU; rw [if_neg (by omega)]; rfl
theorem leI_none {x : Int} {us : List (Int × Int)} {k : Nat} (h : ¬ 0 < k) : leI x (prK us k) = false := by unfold prK; rw [if_pos (by omega)]; rfl
theorem leI_some {x : Int} {us : List (Int × Int)} {k : Nat} (h : 0 < k) : leI x (prK us k) = decide (x ≤ (fK us (k - 1)).1) := by unfold prK; rw [if_neg (by omega)]; rfl
theorem ret_i {a b : Int} (h : b = a) : Ending.returned (.int .i64 a) = .returned (.int .i64 b) := by rw [h]
theorem bel_dn {B : Nat} {w w' : World} (h : Below B w w') (n : Nat) : Below B w (w'.drewN n) := ⟨h.os, h.tape, h.output, h.size, h.block⟩
theorem size60 : (Tryz.prog.info? 73).map (·.size) = some 2 := by kernel_rfl
theorem size88 : (Tryz.prog.info? 131).map (·.size) = some 2 := by kernel_rfl
theorem store_as {ops : Array Oper} {rest : List Oper} {op : Oper} {a : Act} {w : World} {Q : Exit → Act → World → Prop} (hgd : op.guard = none) (ty : TypeId) (x y : Operand) (ho : op.op = .store ty x y) (zs cs : List Value) (hl : cs.length = zs.length) (hx : a.eval x = .pointer (some ⟨w.heap.size, 0, none⟩)) (hy : a.eval y = .agg cs.toArray)
  (hi : (Tryz.prog.info? ty).map (·.size) = some cs.toArray.size) (h1 : cs.toArray.all (·.oneCell') = true)
  (h : ∀ w4, Blk w4 w.heap.size cs ty → Below w.heap.size w w4 → wpList Tryz.prog ops Q rest (a.put op.dst undef) w4) : wpList Tryz.prog ops Q (op :: rest) a (w.alloc (.cells zs.toArray ty)) := by
 refine store_mid_as hgd ty x y ho w.heap.size 0 cs.toArray hx hy ((blk_new w zs ty).there (by rw [List.size_toArray, hl]; exact Nat.le_refl _)) hi h1 ?_
 intro w4 e4
 refine h w4 ?_ ?_
 ·rw [e4, List.toList_toArray]; exact (blk_new w zs ty).setAll cs hl
 ·rw [e4]; exact below_setAll (Nat.le_refl _) _ _ _ ((Below.refl _ _).alloc (Nat.le_refl _) _)
theorem user_ok (s : ByteArray) (hs : s.size ≤ 9223372036854775807) (hq : I.mkd 64 (bys s) = true) (w : World) : Calls Tryz.prog 91 #[.string s] w fun e w' => e = .returned (.int .i64 0) ∧ Below w.heap.size w w' := by
 have := user_any s hs w
 rwa [hq] at this
theorem user_no (s : ByteArray) (hs : s.size ≤ 9223372036854775807) (hq : I.mkd 64 (bys s) = false) (w : World) : Calls Tryz.prog 91 #[.string s] w fun e w' => e = .returned (.int .i64 3) ∧ Below w.heap.size w w' := by
 have := user_any s hs w
 rwa [hq] at this
def wiE (n lo hi : Int) : Int := if n < lo ∨ hi < n then 2 else 0
theorem within115 (n lo hi : Int) (w : World) : Calls Tryz.prog 199 #[.int .i64 n, .int .i64 lo, .int .i64 hi] w fun e w' => e = .returned (.int .i64 (wiE n lo hi)) ∧ w = w' := by
 have HW := hid (show wiE n lo hi = if n < lo ∨ hi < n then 2 else 0 from rfl)
 generalize wiE n lo hi = x at HW ⊢
 by_cases h1 : n < lo
 ·have HX := hid (HW.out.trans (if_pos (.inl h1)))
  go_enter Tryz.func199, Tryz.ntmps199
  go_wp2
  go_ret
  exact ⟨ret_i HX.out, rfl⟩
 ·by_cases h2 : hi < n
  ·have HX := hid (HW.out.trans (if_pos (.inr h2)))
   go_enter Tryz.func199, Tryz.ntmps199
   go_wp2
   go_ret
   exact ⟨ret_i HX.out, rfl⟩
  ·have HX := hid (HW.out.trans (if_neg (by omega)))
   go_enter Tryz.func199, Tryz.ntmps199
   go_wp2
   go_ret
   exact ⟨ret_i HX.out, rfl⟩
theorem level51 (n : Int) (w : World) : Calls Tryz.prog 217 #[.int .i64 n] w fun e w' => e = .returned (.int .i64 (wiE n (-1000) 1000)) ∧ w = w' := by
 go_enter Tryz.func217, Tryz.ntmps217
 go_wp2_with (go_at_call 199; (with_reducible refine (within115 _ _ _ _).mono ?_); rintro e w1 ⟨rfl, rfl⟩)
 go_ret
 exact ⟨rfl, rfl⟩
theorem level_ok (n : Int) (hq : wdB n = false) (w : World) : Calls Tryz.prog 217 #[.int .i64 n] w fun e w' => e = .returned (.int .i64 0) ∧ w = w' := by
 have := level51 n w
 rwa [show wiE n (-1000) 1000 = 0 from if_neg (of_decide_eq_false hq)] at this
theorem level_no (n : Int) (hq : wdB n = true) (w : World) : Calls Tryz.prog 217 #[.int .i64 n] w fun e w' => e = .returned (.int .i64 2) ∧ w = w' := by
 have := level51 n w
 rwa [show wiE n (-1000) 1000 = 2 from if_pos (of_decide_eq_true hq)] at this
end Go.Proofs.YtablocpcgknmaaaGreatDoor
namespace Go.Proofs.YtablocpcgknmaaaGreatDoor
open Go.Lib (hid)
open Go Go.RowKit
set_option linter.unusedVariables false
set_option linter.unusedSimpArgs false
set_option maxRecDepth 100000

theorem Rws.kind {w : World} {A : Option Addr} {n c : Nat} {U : Nat → Int × Int} (h : Rws w A n c 2 (rowK U)) {j : Nat} (hj : j < n) :
  ∃ b off, A = some ⟨b, off, none⟩ ∧ w.cell? ⟨b, off + j * 2, none⟩ = some (.int .i64 (U j).1) ∧ w.cell? ⟨b, off + j * 2 + 1, none⟩ = some (.int .i64 (U j).2) := by
 obtain ⟨b, off, e, _, hr⟩ := h.get hj
 exact ⟨b, off, e, hr 0 _ rfl, hr 1 _ rfl⟩
theorem kind_q (F : Nat) (hF : F = 94) (k : Int) (q : Bool) (hq : kdB k = q) (w : World) : Calls Tryz.prog 94 #[.int .i64 k] w fun e w' => e = .returned (.bool q) ∧ w = w' := by
 have HQ := hid hq
 clear hq hF
 by_cases h1 : 1 ≤ k
 ·by_cases h2 : k ≤ 14
  ·obtain rfl : q = true := HQ.out.symm.trans (decide_eq_true ⟨h1, h2⟩)
   have d1 : decide (k ≤ 14) = true := decide_eq_true h2
   go_enter Tryz.func94, Tryz.ntmps94
   go_wp2
   go_ret
   exact ⟨rfl, rfl⟩
  ·obtain rfl : q = false := HQ.out.symm.trans (decide_eq_false (by omega))
   have d1 : decide (k ≤ 14) = false := decide_eq_false h2
   go_enter Tryz.func94, Tryz.ntmps94
   go_wp2
   go_ret
   exact ⟨rfl, rfl⟩
 ·obtain rfl : q = false := HQ.out.symm.trans (decide_eq_false (by omega))
  have d1 : decide (1 ≤ k) = false := decide_eq_false h1
  go_enter Tryz.func94, Tryz.ntmps94
  go_wp2
  go_ret
  exact ⟨rfl, rfl⟩
set_option maxHeartbeats 8000000 in
theorem users48 (A : Option Addr) (n c : Nat) (us : List (ByteArray × Int)) (w : World) (h : Rws w A n c 2 (rowU (fU us))) (hl : us.length = n) (hf : ∀ p ∈ us, p.1.size ≤ 9223372036854775807 ∧ i64B p.2) : Calls Tryz.prog 215 #[.slice A n c] w fun e w' => e = .returned (.int .i64 (chkU us)) ∧ Below w.heap.size w w' := by
 have hbig := h.big
 unfold maxLen at hbig
 have HC := hid (show chkU us = if 100 < us.length then 7 else chkUs none us from rfl)
 generalize chkU us = r at HC ⊢
 have H := hid h
 have HL := hid hl
 have HF := hid hf
 by_cases hn : (100 : Int) < (n : Int)
 ·have HE := hid (HC.out.trans (if_pos (by omega)))
  clear h hl hf
  go_enter Tryz.func215, Tryz.ntmps215
  go_wp2
  go_ret
  exact ⟨ret_i HE.out, Below.refl _ _⟩
 ·have HE := hid (HC.out.trans (if_neg (by omega)))
  clear h hl hf HC
  go_enter Tryz.func215, Tryz.ntmps215
  go_wp2
  go_loopg [11] n (fun gg s11 wr => ∃ (k : Nat), k ≤ n ∧ n - k ≤ gg ∧ s11 = .int .i64 (k : Int) ∧ Hid (r = chkUs (prU us k) (us.drop k)) ∧ Hid (Below w.heap.size w wr))
  case atStart => exact ⟨0, Nat.zero_le _, by omega, by go_num, HE, hid (Below.refl _ _)⟩
  case round =>
   clear HE
   obtain ⟨k, hk, hg, rfl, HR, BW⟩ := hrel
   by_cases hlt : k < n
   ·have hltz : (k : Int) < (n : Int) := by omega
    have hk0 : (0 : Int) ≤ (k : Int) := by omega
    have hku : k < us.length := by have := HL.out; omega
    have HS := hid (HR.out.trans (stepU hku))
    have HPr := hid (fun (h0 : 0 < k) => (H.out.below BW.out).user (j := k - 1) (by omega))
    obtain ⟨b, off, rfl, hb0, hr⟩ := (H.out.below BW.out).get hlt
    have HB0 := hid hb0
    clear hb0
    have HP := hid (HF.out _ (by rw [fU_at hku]; exact List.getElem_mem hku) : (fU us k).1.size ≤ 9223372036854775807 ∧ i64B (fU us k).2)
    have RG := hid (show World.rangeAt wr b (off + k * 2) [.string (fU us k).1, .int .i64 (fU us k).2] from hr)
    have HLe := hid (fun (h0 : ¬ 0 < k) => leO_none (x := (fU us k).1) (us := us) h0)
    have HLs := hid (fun (h0 : 0 < k) => leO_some (x := (fU us k).1) (us := us) h0)
    clear hr HR hku
    generalize hfu : fU us k = p at RG HP HS HLe HLs
    obtain ⟨u, z⟩ := p
    dsimp only at RG HP HS HLe HLs
    have HU := hid HP.out.1
    clear HP hfu
    rcases hq : I.mkd 64 (bys u) with _ | _
    ·have HQ := hid hq
     have HE := hid (HS.out.trans (if_pos hq))
     clear hq HS
     go_wp2_with (first
      | (refine wpList_load_mid rfl 73 _ rfl b (off + k * 2) rfl [.string u, .int .i64 z] _ RG.out Tryz.underlying73 rfl size60 ?_)
      | (refine store_as rfl 73 _ _ rfl [.string ⟨#[]⟩, .int .i64 0] [.string u, .int .i64 z] rfl rfl rfl size60 (by simp [Value.oneCell']) ?_; intro w1 hx hb; have X1 := hid hx; have C1 := hid hb; have B1 := hid (BW.out.trans (hb.mono BW.out.size)); clear hx hb; have x0 := X1.out.cell (i := 0) rfl; have x1 := X1.out.cell (i := 1) rfl)
      | (go_at_call 91; (with_reducible refine (user_no u HU.out HQ.out _).mono ?_); rintro e w2 ⟨rfl, hb⟩; have X2 := hid (X1.out.below hb); have B2 := hid (B1.out.trans (hb.mono B1.out.size)); have C2 := hid (C1.out.trans (hb.mono C1.out.size)); clear hb x0 x1; have x0 := X2.out.cell (i := 0) rfl; have x1 := X2.out.cell (i := 1) rfl)
      | fail)
     go_ret
     exact ⟨ret_i HE.out, B2.out⟩
    ·have HQ := hid hq
     have HS2 := hid (HS.out.trans (if_neg (by rw [hq]; simp)))
     clear hq HS
     go_upto_region 8 with (first
      | (refine wpList_load_mid rfl 73 _ rfl b (off + k * 2) rfl [.string u, .int .i64 z] _ RG.out Tryz.underlying73 rfl size60 ?_)
      | (refine store_as rfl 73 _ _ rfl [.string ⟨#[]⟩, .int .i64 0] [.string u, .int .i64 z] rfl rfl rfl size60 (by simp [Value.oneCell']) ?_; intro w1 hx hb; have X1 := hid hx; have C1 := hid hb; have B1 := hid (BW.out.trans (hb.mono BW.out.size)); clear hx hb; have x0 := X1.out.cell (i := 0) rfl; have x1 := X1.out.cell (i := 1) rfl)
      | (go_at_call 91; (with_reducible refine (user_ok u HU.out HQ.out _).mono ?_); rintro e w2 ⟨rfl, hb⟩; have X2 := hid (X1.out.below hb); have B2 := hid (B1.out.trans (hb.mono B1.out.size)); have C2 := hid (C1.out.trans (hb.mono C1.out.size)); clear hb x0 x1; have x0 := X2.out.cell (i := 0) rfl; have x1 := X2.out.cell (i := 1) rfl)
      | fail)
     by_cases h0 : 0 < k
     ·have h0z : (0 : Int) < (k : Int) := by omega
      have d0 : decide (0 < k) = true := decide_eq_true h0
      have d1 : decide ((0 : Int) < (k : Int)) = true := decide_eq_true h0z
      have hk1 : ((k : Int) - 1).toNat = k - 1 := by omega
      have hk2 : (0 : Int) ≤ (k : Int) - 1 := by omega
      have hk3 : (k : Int) - 1 < (n : Int) := by omega
      have hk4 : (1 : Int) ≤ (k : Int) := by omega
      obtain ⟨b', off', hAd, hp0, _⟩ := HPr.out h0
      simp only [Option.some.injEq, Addr.mk.injEq, and_true] at hAd
      obtain ⟨rfl, rfl⟩ := hAd
      have HLt := hid (HLs.out h0)
      clear HLs HLe HPr
      have q0 : w2.cell? ⟨b, off + (k - 1) * 2, none⟩ = some (.string (fU us (k - 1)).1) := (C2.out.cell (p := ⟨b, _, none⟩) HB0.out).trans hp0
      clear hp0
      generalize (fU us (k - 1)).1 = v at q0 HLt
      unfold leS at HLt
      cases e1 : Op.bytesLess u.toList v.toList
      ·cases e2 : u.toList == v.toList
       ·rw [e1, e2] at HLt
        have HS3 := hid (HS2.out.trans (if_neg (by rw [HLt.out]; simp)))
        clear HS2 HLt
        go_quiet (fail)
        generalize hwd : World.drewN w2 _ = wd
        have y1 : wd.cell? ⟨wr.heap.size, 1, none⟩ = some (.int .i64 z) := by rw [← hwd]; exact x1
        have BD := hid (show Below w.heap.size w wd by rw [← hwd]; exact bel_dn B2.out _)
        clear hwd x0 x1
        rcases hz : wdB z with _ | _
        ·have HV := hid hz
         have HR2 := hid (HS3.out.trans (if_neg (by rw [hz]; simp)))
         clear hz HS3
         go_wp2_with (first | (go_at_call 217; (with_reducible refine (level_ok z HV.out _).mono ?_); rintro e w3 ⟨rfl, rfl⟩) | fail)
         go_roundg (n - (k + 1))
         case measure => omega
         case rel => exact ⟨k + 1, by omega, by omega, by go_num, HR2, BD⟩
        ·have HV := hid hz
         have HE := hid (HS3.out.trans (if_pos hz))
         clear hz HS3
         go_wp2_with (first | (go_at_call 217; (with_reducible refine (level_no z HV.out _).mono ?_); rintro e w3 ⟨rfl, rfl⟩) | fail)
         go_ret
         exact ⟨ret_i HE.out, BD.out⟩
       ·rw [e1, e2] at HLt
        have HE := hid (HS2.out.trans (if_pos HLt.out))
        clear HS2 HLt
        go_quiet (fail)
        go_wp2
        go_ret
        exact ⟨ret_i HE.out, bel_dn B2.out _⟩
      ·rw [e1] at HLt
       have HE := hid (HS2.out.trans (if_pos HLt.out))
       clear HS2 HLt
       go_quiet (fail)
       go_wp2
       go_ret
       exact ⟨ret_i HE.out, bel_dn B2.out _⟩
     ·have h0z : ¬ (0 : Int) < (k : Int) := by omega
      have d0 : decide (0 < k) = false := decide_eq_false h0
      have d1 : decide ((0 : Int) < (k : Int)) = false := decide_eq_false h0z
      have HLt := hid (HLe.out h0)
      clear HLs HLe HPr
      have HS3 := hid (HS2.out.trans (if_neg (by rw [HLt.out]; simp)))
      clear HS2 HLt
      go_quiet (fail)
      generalize hwd : World.drewN w2 _ = wd
      have y1 : wd.cell? ⟨wr.heap.size, 1, none⟩ = some (.int .i64 z) := by rw [← hwd]; exact x1
      have BD := hid (show Below w.heap.size w wd by rw [← hwd]; exact bel_dn B2.out _)
      clear hwd x0 x1
      rcases hz : wdB z with _ | _
      ·have HV := hid hz
       have HR2 := hid (HS3.out.trans (if_neg (by rw [hz]; simp)))
       clear hz HS3
       go_wp2_with (first | (go_at_call 217; (with_reducible refine (level_ok z HV.out _).mono ?_); rintro e w3 ⟨rfl, rfl⟩) | fail)
       go_roundg (n - (k + 1))
       case measure => omega
       case rel => exact ⟨k + 1, by omega, by omega, by go_num, HR2, BD⟩
      ·have HV := hid hz
       have HE := hid (HS3.out.trans (if_pos hz))
       clear hz HS3
       go_wp2_with (first | (go_at_call 217; (with_reducible refine (level_no z HV.out _).mono ?_); rintro e w3 ⟨rfl, rfl⟩) | fail)
       go_ret
       exact ⟨ret_i HE.out, BD.out⟩
   ·have hltz : ¬ (k : Int) < (n : Int) := by omega
    have HE := hid (HR.out.trans (doneU (by have := HL.out; omega)))
    go_wp2
    go_ret
    exact ⟨ret_i HE.out, BW.out⟩
set_option maxHeartbeats 8000000 in
theorem kinds49 (A : Option Addr) (n c : Nat) (us : List (Int × Int)) (w : World) (h : Rws w A n c 2 (rowK (fK us))) (hl : us.length = n) (hf : ∀ p ∈ us, i64B p.1 ∧ i64B p.2) : Calls Tryz.prog 216 #[.slice A n c] w fun e w' => e = .returned (.int .i64 (chkK us)) ∧ Below w.heap.size w w' := by
 have hbig := h.big
 unfold maxLen at hbig
 have HC := hid (show chkK us = if 100 < us.length then 7 else chkKs none us from rfl)
 generalize chkK us = r at HC ⊢
 have H := hid h
 have HL := hid hl
 have HF := hid hf
 by_cases hn : (100 : Int) < (n : Int)
 ·have HE := hid (HC.out.trans (if_pos (by omega)))
  clear h hl hf
  go_enter Tryz.func216, Tryz.ntmps216
  go_wp2
  go_ret
  exact ⟨ret_i HE.out, Below.refl _ _⟩
 ·have HE := hid (HC.out.trans (if_neg (by omega)))
  clear h hl hf HC
  go_enter Tryz.func216, Tryz.ntmps216
  go_wp2
  go_loopg [11] n (fun gg s11 wr => ∃ (k : Nat), k ≤ n ∧ n - k ≤ gg ∧ s11 = .int .i64 (k : Int) ∧ Hid (r = chkKs (prK us k) (us.drop k)) ∧ Hid (Below w.heap.size w wr))
  case atStart => exact ⟨0, Nat.zero_le _, by omega, by go_num, HE, hid (Below.refl _ _)⟩
  case round =>
   clear HE
   obtain ⟨k, hk, hg, rfl, HR, BW⟩ := hrel
   by_cases hlt : k < n
   ·have hltz : (k : Int) < (n : Int) := by omega
    have hk0 : (0 : Int) ≤ (k : Int) := by omega
    have hku : k < us.length := by have := HL.out; omega
    have HS := hid (HR.out.trans (stepK hku))
    have HPr := hid (fun (h0 : 0 < k) => (H.out.below BW.out).kind (j := k - 1) (by omega))
    obtain ⟨b, off, rfl, hb0, hr⟩ := (H.out.below BW.out).get hlt
    have HB0 := hid hb0
    clear hb0
    have HP := hid (HF.out _ (by rw [fK_at hku]; exact List.getElem_mem hku) : i64B (fK us k).1 ∧ i64B (fK us k).2)
    have RG := hid (show World.rangeAt wr b (off + k * 2) [.int .i64 (fK us k).1, .int .i64 (fK us k).2] from hr)
    have HLe := hid (fun (h0 : ¬ 0 < k) => leI_none (x := (fK us k).1) (us := us) h0)
    have HLs := hid (fun (h0 : 0 < k) => leI_some (x := (fK us k).1) (us := us) h0)
    clear hr HR hku
    generalize hfu : fK us k = p at RG HP HS HLe HLs
    obtain ⟨u, z⟩ := p
    dsimp only at RG HP HS HLe HLs
    have HU := hid HP.out.1
    clear HP hfu
    rcases hq : kdB u with _ | _
    ·have HQ := hid hq
     have HE := hid (HS.out.trans (if_pos hq))
     clear hq HS
     go_wp2_with (first
      | (refine wpList_load_mid rfl 131 _ rfl b (off + k * 2) rfl [.int .i64 u, .int .i64 z] _ RG.out Tryz.underlying131 rfl size88 ?_)
      | (refine store_as rfl 131 _ _ rfl [.int .i64 0, .int .i64 0] [.int .i64 u, .int .i64 z] rfl rfl rfl size88 (by simp [Value.oneCell']) ?_; intro w1 hx hb; have X1 := hid hx; have C1 := hid hb; have B1 := hid (BW.out.trans (hb.mono BW.out.size)); clear hx hb; have x0 := X1.out.cell (i := 0) rfl; have x1 := X1.out.cell (i := 1) rfl)
      | (go_at_call 94; (with_reducible refine (kind_q 94 rfl u false HQ.out _).mono ?_); rintro e w2 ⟨rfl, rfl⟩)
      | fail)
     go_ret
     exact ⟨ret_i HE.out, B1.out⟩
    ·have HQ := hid hq
     have HS2 := hid (HS.out.trans (if_neg (by rw [hq]; simp)))
     clear hq HS
     go_upto_region 8 with (first
      | (refine wpList_load_mid rfl 131 _ rfl b (off + k * 2) rfl [.int .i64 u, .int .i64 z] _ RG.out Tryz.underlying131 rfl size88 ?_)
      | (refine store_as rfl 131 _ _ rfl [.int .i64 0, .int .i64 0] [.int .i64 u, .int .i64 z] rfl rfl rfl size88 (by simp [Value.oneCell']) ?_; intro w1 hx hb; have X1 := hid hx; have C1 := hid hb; have B1 := hid (BW.out.trans (hb.mono BW.out.size)); clear hx hb; have x0 := X1.out.cell (i := 0) rfl; have x1 := X1.out.cell (i := 1) rfl)
      | (go_at_call 94; (with_reducible refine (kind_q 94 rfl u true HQ.out _).mono ?_); rintro e w2 ⟨rfl, rfl⟩)
      | fail)
     by_cases h0 : 0 < k
     ·have h0z : (0 : Int) < (k : Int) := by omega
      have d0 : decide (0 < k) = true := decide_eq_true h0
      have d1 : decide ((0 : Int) < (k : Int)) = true := decide_eq_true h0z
      have hk1 : ((k : Int) - 1).toNat = k - 1 := by omega
      have hk2 : (0 : Int) ≤ (k : Int) - 1 := by omega
      have hk3 : (k : Int) - 1 < (n : Int) := by omega
      have hk4 : (1 : Int) ≤ (k : Int) := by omega
      obtain ⟨b', off', hAd, hp0, _⟩ := HPr.out h0
      simp only [Option.some.injEq, Addr.mk.injEq, and_true] at hAd
      obtain ⟨rfl, rfl⟩ := hAd
      have HLt := hid (HLs.out h0)
      clear HLs HLe HPr
      have q0 : w1.cell? ⟨b, off + (k - 1) * 2, none⟩ = some (.int .i64 (fK us (k - 1)).1) := (C1.out.cell (p := ⟨b, _, none⟩) HB0.out).trans hp0
      clear hp0
      generalize (fK us (k - 1)).1 = v at q0 HLt
      by_cases e1 : u ≤ v
      ·rw [decide_eq_true e1] at HLt
       have HE := hid (HS2.out.trans (if_pos HLt.out))
       clear HS2 HLt
       go_quiet (fail)
       go_wp2
       go_ret
       exact ⟨ret_i HE.out, bel_dn B1.out _⟩
      ·rw [decide_eq_false e1] at HLt
       have HS3 := hid (HS2.out.trans (if_neg (by rw [HLt.out]; simp)))
       clear HS2 HLt
       go_quiet (fail)
       generalize hwd : World.drewN w1 _ = wd
       have y1 : wd.cell? ⟨wr.heap.size, 1, none⟩ = some (.int .i64 z) := by rw [← hwd]; exact x1
       have BD := hid (show Below w.heap.size w wd by rw [← hwd]; exact bel_dn B1.out _)
       clear hwd x0 x1
       rcases hz : wdB z with _ | _
       ·have HV := hid hz
        have HR2 := hid (HS3.out.trans (if_neg (by rw [hz]; simp)))
        clear hz HS3
        go_wp2_with (first | (go_at_call 217; (with_reducible refine (level_ok z HV.out _).mono ?_); rintro e w3 ⟨rfl, rfl⟩) | fail)
        go_roundg (n - (k + 1))
        case measure => omega
        case rel => exact ⟨k + 1, by omega, by omega, by go_num, HR2, BD⟩
       ·have HV := hid hz
        have HE := hid (HS3.out.trans (if_pos hz))
        clear hz HS3
        go_wp2_with (first | (go_at_call 217; (with_reducible refine (level_no z HV.out _).mono ?_); rintro e w3 ⟨rfl, rfl⟩) | fail)
        go_ret
        exact ⟨ret_i HE.out, BD.out⟩
     ·have h0z : ¬ (0 : Int) < (k : Int) := by omega
      have d0 : decide (0 < k) = false := decide_eq_false h0
      have d1 : decide ((0 : Int) < (k : Int)) = false := decide_eq_false h0z
      have HLt := hid (HLe.out h0)
      clear HLs HLe HPr
      have HS3 := hid (HS2.out.trans (if_neg (by rw [HLt.out]; simp)))
      clear HS2 HLt
      go_quiet (fail)
      generalize hwd : World.drewN w1 _ = wd
      have y1 : wd.cell? ⟨wr.heap.size, 1, none⟩ = some (.int .i64 z) := by rw [← hwd]; exact x1
      have BD := hid (show Below w.heap.size w wd by rw [← hwd]; exact bel_dn B1.out _)
      clear hwd x0 x1
      rcases hz : wdB z with _ | _
      ·have HV := hid hz
       have HR2 := hid (HS3.out.trans (if_neg (by rw [hz]; simp)))
       clear hz HS3
       go_wp2_with (first | (go_at_call 217; (with_reducible refine (level_ok z HV.out _).mono ?_); rintro e w3 ⟨rfl, rfl⟩) | fail)
       go_roundg (n - (k + 1))
       case measure => omega
       case rel => exact ⟨k + 1, by omega, by omega, by go_num, HR2, BD⟩
      ·have HV := hid hz
       have HE := hid (HS3.out.trans (if_pos hz))
       clear hz HS3
       go_wp2_with (first | (go_at_call 217; (with_reducible refine (level_no z HV.out _).mono ?_); rintro e w3 ⟨rfl, rfl⟩) | fail)
       go_ret
       exact ⟨ret_i HE.out, BD.out⟩
   ·have hltz : ¬ (k : Int) < (n : Int) := by omega
    have HE := hid (HR.out.trans (doneK (by have := HL.out; omega)))
    go_wp2
    go_ret
    exact ⟨ret_i HE.out, BW.out⟩
end Go.Proofs.YtablocpcgknmaaaGreatDoor
namespace Go.Proofs.YtablocpcgknmaaaGreatDoor
open Go.Lib (hid)
open Go Go.RowKit
set_option linter.unusedVariables false
set_option linter.unusedSimpArgs false
set_option maxRecDepth 100000

end Go.Proofs.YtablocpcgknmaaaGreatDoor
namespace Go.Proofs.YtablocpcgknmaaaGreatDoor
theorem lsA {α : Type} {l : List α} {i : Nat} {a : α} : l.toArray.setIfInBounds i a = (l.set i a).toArray := List.setIfInBounds_toArray ..
theorem ls0 {α : Type} {x y : α} {l : List α} : (x :: l).set 0 y = y :: l := List.set_cons_zero
theorem ls1 {α : Type} {x y : α} {l : List α} {i : Nat} : (x :: l).set (i + 1) y = x :: l.set i y := List.set_cons_succ
end Go.Proofs.YtablocpcgknmaaaGreatDoor
