/- Power levels: their data, where they lie, what their check gives. No condition. -/
import Derived.Test.YtablocpcgknmaaaGreatDoorPTl
import Derived.Deep.QuietTactic
import Derived.BigQuiet
import Derived.Deep.Cut
import Derived.Deep.CutRange
import Derived.Deep.RegionHeld3
import Derived.Test.YtablocpcgknmaaaGreatDoorRows
namespace Go.Proofs.YtablocpcgknmaaaGreatDoor
open Go Go.RowKit
set_option linter.unusedVariables false
set_option linter.unusedSimpArgs false
set_option maxRecDepth 100000

/-- Power levels as data. -/
structure Lv where
  us : List (ByteArray × Int)
  ks : List (Int × Int)
  d : Int
  x3 : Int
  x4 : Int
  x5 : Int
  x6 : Int
  x7 : Int
  x8 : Int
def fU (us : List (ByteArray × Int)) (j : Nat) : ByteArray × Int := us.getD j (⟨#[]⟩, 0)
def fK (ks : List (Int × Int)) (j : Nat) : Int × Int := ks.getD j (0, 0)
def i64B (n : Int) : Prop := -9223372036854775808 ≤ n ∧ n ≤ 9223372036854775807
/-- Where their lists lie. -/
structure IsL (w : World) (L : Lv) (uA : Option Addr) (uC : Nat) (kA : Option Addr) (kC : Nat) : Prop where
  us : Rws w uA L.us.length uC 2 (rowU (fU L.us))
  ks : Rws w kA L.ks.length kC 2 (rowK (fK L.ks))
  fu : ∀ p ∈ L.us, p.1.size ≤ 9223372036854775807 ∧ i64B p.2
  fk : ∀ p ∈ L.ks, i64B p.1 ∧ i64B p.2
  nm : i64B L.d ∧ i64B L.x3 ∧ i64B L.x4 ∧ i64B L.x5 ∧ i64B L.x6 ∧ i64B L.x7 ∧ i64B L.x8
theorem IsL.below {w w1 : World} {L : Lv} {uA : Option Addr} {uC : Nat} {kA : Option Addr} {kC : Nat} (h : IsL w L uA uC kA kC) (hb : Below w.heap.size w w1) : IsL w1 L uA uC kA kC := ⟨h.us.below hb, h.ks.below hb, h.fu, h.fk, h.nm⟩
abbrev lcs (L : Lv) (uA : Option Addr) (uC : Nat) (kA : Option Addr) (kC : Nat) : List Value := lvc uA L.us.length uC kA L.ks.length kC L.d L.x3 L.x4 L.x5 L.x6 L.x7 L.x8
def leS (x y : ByteArray) : Bool := Op.bytesLess x.toList y.toList || (x.toList == y.toList)
def leO (x : ByteArray) : Option ByteArray → Bool
  | none => false
  | some y => leS x y
def leI (x : Int) : Option Int → Bool
  | none => false
  | some y => decide (x ≤ y)
def wdB (n : Int) : Bool := decide (n < -1000 ∨ 1000 < n)
def kdB (k : Int) : Bool := decide (1 ≤ k ∧ k ≤ 14)
def chkUs : Option ByteArray → List (ByteArray × Int) → Int
  | _, [] => 0
  | pv, p :: r => if I.mkd 64 (bys p.1) = false then 3 else if leO p.1 pv = true then 8 else if wdB p.2 = true then 2 else chkUs (some p.1) r
def chkU (us : List (ByteArray × Int)) : Int := if 100 < us.length then 7 else chkUs none us
def chkKs : Option Int → List (Int × Int) → Int
  | _, [] => 0
  | pv, p :: r => if kdB p.1 = false then 1 else if leI p.1 pv = true then 8 else if wdB p.2 = true then 2 else chkKs (some p.1) r
def chkK (ks : List (Int × Int)) : Int := if 100 < ks.length then 7 else chkKs none ks
def prU (us : List (ByteArray × Int)) (k : Nat) : Option ByteArray := if k = 0 then none else some (fU us (k - 1)).1
def prK (ks : List (Int × Int)) (k : Nat) : Option Int := if k = 0 then none else some (fK ks (k - 1)).1
theorem fU_at {us : List (ByteArray × Int)} {k : Nat} (h : k < us.length) : fU us k = us[k] := by unfold fU; rw [List.getD_eq_getElem?_getD, List.getElem?_eq_getElem h]; rfl
theorem fK_at {us : List (Int × Int)} {k : Nat} (h : k < us.length) : fK us k = us[k] := by unfold fK; rw [List.getD_eq_getElem?_getD, List.getElem?_eq_getElem h]; rfl
theorem stepU {us : List (ByteArray × Int)} {k : Nat} (h : k < us.length) : chkUs (prU us k) (us.drop k) = if I.mkd 64 (bys (fU us k).1) = false then 3 else if leO (fU us k).1 (prU us k) = true then 8 else if wdB (fU us k).2 = true then 2 else chkUs (prU us (k + 1)) (us.drop (k + 1)) := by
  rw [List.drop_eq_getElem_cons h, fU_at h, chkUs]
  unfold prU
  rw [if_neg (Nat.succ_ne_zero k), Nat.add_sub_cancel, fU_at h]
theorem stepK {us : List (Int × Int)} {k : Nat} (h : k < us.length) : chkKs (prK us k) (us.drop k) = if kdB (fK us k).1 = false then 1 else if leI (fK us k).1 (prK us k) = true then 8 else if wdB (fK us k).2 = true then 2 else chkKs (prK us (k + 1)) (us.drop (k + 1)) := by
  rw [List.drop_eq_getElem_cons h, fK_at h, chkKs]
  unfold prK
  rw [if_neg (Nat.succ_ne_zero k), Nat.add_sub_cancel, fK_at h]
theorem doneU {us : List (ByteArray × Int)} {k : Nat} (h : us.length ≤ k) : chkUs (prU us k) (us.drop k) = 0 := by rw [List.drop_eq_nil_of_le h]; rfl
theorem doneK {us : List (Int × Int)} {k : Nat} (h : us.length ≤ k) : chkKs (prK us k) (us.drop k) = 0 := by rw [List.drop_eq_nil_of_le h]; rfl
theorem leO_none {x : ByteArray} {us : List (ByteArray × Int)} {k : Nat} (h : ¬ 0 < k) : leO x (prU us k) = false := by unfold prU; rw [if_pos (by omega)]; rfl
theorem leO_some {x : ByteArray} {us : List (ByteArray × Int)} {k : Nat} (h : 0 < k) : leO x (prU us k) = leS x (fU us (k - 1)).1 := by unfold prU; rw [if_neg (by omega)]; rfl
theorem leI_none {x : Int} {us : List (Int × Int)} {k : Nat} (h : ¬ 0 < k) : leI x (prK us k) = false := by unfold prK; rw [if_pos (by omega)]; rfl
theorem leI_some {x : Int} {us : List (Int × Int)} {k : Nat} (h : 0 < k) : leI x (prK us k) = decide (x ≤ (fK us (k - 1)).1) := by unfold prK; rw [if_neg (by omega)]; rfl
theorem ret_i {a b : Int} (h : b = a) : Ending.returned (.int .i64 a) = .returned (.int .i64 b) := by rw [h]
theorem bel_dn {B : Nat} {w w' : World} (h : Below B w w') (n : Nat) : Below B w (w'.drewN n) := ⟨h.os, h.tape, h.output, h.size, h.block⟩
theorem size60 : (Tryz.prog.info? 73).map (·.size) = some 2 := by kernel_rfl
theorem size88 : (Tryz.prog.info? 131).map (·.size) = some 2 := by kernel_rfl
theorem store_as {ops : Array Oper} {rest : List Oper} {op : Oper} {a : Act} {w : World} {Q : Exit → Act → World → Prop} (hgd : op.guard = none) (ty : TypeId) (x y : Operand) (ho : op.op = .store ty x y) (zs cs : List Value) (hl : cs.length = zs.length) (hx : a.eval x = .pointer (some ⟨w.heap.size, 0, none⟩)) (hy : a.eval y = .agg cs.toArray)
    (hi : (Tryz.prog.info? ty).map (·.size) = some cs.toArray.size) (h1 : cs.toArray.all (·.oneCell') = true)
    (h : ∀ w4, Blk w4 w.heap.size cs ty → Below w.heap.size w w4 → wpList Tryz.prog ops Q rest (a.put op.dst undef) w4) : wpList Tryz.prog ops Q (op :: rest) a (w.alloc (.cells zs.toArray ty)) := by
  refine store_mid_as hgd ty x y ho w.heap.size 0 cs.toArray hx hy ((blk_new w zs ty).there (by rw [List.size_toArray, hl]; exact Nat.le_refl _)) hi h1 ?_
  intro w4 e4
  refine h w4 ?_ ?_
  · rw [e4, List.toList_toArray]; exact (blk_new w zs ty).setAll cs hl
  · rw [e4]; exact below_setAll (Nat.le_refl _) _ _ _ ((Below.refl _ _).alloc (Nat.le_refl _) _)
theorem user_ok (s : ByteArray) (hs : s.size ≤ 9223372036854775807) (hq : I.mkd 64 (bys s) = true) (w : World) : Calls Tryz.prog 91 #[.string s] w fun e w' => e = .returned (.int .i64 0) ∧ Below w.heap.size w w' := by
  have := user_any s hs w
  rwa [hq] at this
theorem user_no (s : ByteArray) (hs : s.size ≤ 9223372036854775807) (hq : I.mkd 64 (bys s) = false) (w : World) : Calls Tryz.prog 91 #[.string s] w fun e w' => e = .returned (.int .i64 3) ∧ Below w.heap.size w w' := by
  have := user_any s hs w
  rwa [hq] at this
theorem ruser_ok (s : ByteArray) (hs : s.size ≤ 9223372036854775807) (hq : I.mkd 64 (bys s) = true) (w : World) : Calls Tryz.prog 100 #[.string s] w fun e w' => e = .returned (.int .i64 0) ∧ w = w' := by
  have := ruser_any s hs w
  rwa [hq] at this
theorem ruser_no (s : ByteArray) (hs : s.size ≤ 9223372036854775807) (hq : I.mkd 64 (bys s) = false) (w : World) : Calls Tryz.prog 100 #[.string s] w fun e w' => e = .returned (.int .i64 3) ∧ w = w' := by
  have := ruser_any s hs w
  rwa [hq] at this
def wiE (n lo hi : Int) : Int := if n < lo ∨ hi < n then 2 else 0
theorem within115 (n lo hi : Int) (w : World) : Calls Tryz.prog 199 #[.int .i64 n, .int .i64 lo, .int .i64 hi] w fun e w' => e = .returned (.int .i64 (wiE n lo hi)) ∧ w = w' := by
  have HW := Lib.hid (show wiE n lo hi = if n < lo ∨ hi < n then 2 else 0 from rfl)
  generalize wiE n lo hi = x at HW ⊢
  by_cases h1 : n < lo
  · have HX := Lib.hid (HW.out.trans (if_pos (.inl h1)))
    go_enter Tryz.func199, Tryz.ntmps199
    go_wp2
    go_ret
    exact ⟨ret_i HX.out, rfl⟩
  · by_cases h2 : hi < n
    · have HX := Lib.hid (HW.out.trans (if_pos (.inr h2)))
      go_enter Tryz.func199, Tryz.ntmps199
      go_wp2
      go_ret
      exact ⟨ret_i HX.out, rfl⟩
    · have HX := Lib.hid (HW.out.trans (if_neg (by omega)))
      go_enter Tryz.func199, Tryz.ntmps199
      go_wp2
      go_ret
      exact ⟨ret_i HX.out, rfl⟩
theorem level51 (n : Int) (w : World) : Calls Tryz.prog 217 #[.int .i64 n] w fun e w' => e = .returned (.int .i64 (wiE n (-1000) 1000)) ∧ w = w' := by
  go_enter Tryz.func217, Tryz.ntmps217
  go_wp2_with (go_at_call 199; (with_reducible refine (within115 _ _ _ _).mono ?_); rintro e w1 ⟨rfl, rfl⟩)
  go_ret
  exact ⟨rfl, rfl⟩
theorem level_ok (n : Int) (hq : wdB n = false) (w : World) : Calls Tryz.prog 217 #[.int .i64 n] w fun e w' => e = .returned (.int .i64 0) ∧ w = w' := by
  have := level51 n w
  rwa [show wiE n (-1000) 1000 = 0 from if_neg (of_decide_eq_false hq)] at this
theorem level_no (n : Int) (hq : wdB n = true) (w : World) : Calls Tryz.prog 217 #[.int .i64 n] w fun e w' => e = .returned (.int .i64 2) ∧ w = w' := by
  have := level51 n w
  rwa [show wiE n (-1000) 1000 = 2 from if_pos (of_decide_eq_true hq)] at this
theorem wide54 (n : Int) (w : World) : Calls Tryz.prog 179 #[.int .i64 n] w fun e w' => e = .returned (.bool (wdB n)) ∧ w = w' := by
  have HQ := Lib.hid (show wdB n = decide (n < -1000 ∨ 1000 < n) from rfl)
  generalize wdB n = q at HQ ⊢
  by_cases h1 : n < -1000
  · obtain rfl : q = true := HQ.out.trans (decide_eq_true (.inl h1))
    go_enter Tryz.func179, Tryz.ntmps179
    go_wp2
    go_ret
    exact ⟨rfl, rfl⟩
  · by_cases h2 : 1000 < n
    · obtain rfl : q = true := HQ.out.trans (decide_eq_true (.inr h2))
      go_enter Tryz.func179, Tryz.ntmps179
      go_wp2
      go_ret
      exact ⟨rfl, rfl⟩
    · obtain rfl : q = false := HQ.out.trans (decide_eq_false (by omega))
      go_enter Tryz.func179, Tryz.ntmps179
      go_wp2
      go_ret
      exact ⟨rfl, rfl⟩
end Go.Proofs.YtablocpcgknmaaaGreatDoor
