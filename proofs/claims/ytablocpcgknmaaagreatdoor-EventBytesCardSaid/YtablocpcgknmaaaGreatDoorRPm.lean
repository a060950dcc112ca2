/- Contents: their data, where they lie; the checks of lists of patterns. No condition. -/
import Derived.Test.YtablocpcgknmaaaGreatDoorRPh
namespace Go.Proofs.YtablocpcgknmaaaGreatDoor
open Go.Lib (hid)
open Go Go.RowKit
set_option linter.unusedVariables false
set_option linter.unusedSimpArgs false
set_option maxRecDepth 100000

/-- A content as data. -/
structure Cn where
 tx : ByteArray
 n : Int
 tg : Int
 th : Bool
 via : ByteArray
 al : List ByteArray
 dn : List ByteArray
 us : List (ByteArray × Int)
 ks : List (Int × Int)
 d : Int
 x3 : Int
 x4 : Int
 x5 : Int
 x6 : Int
 x7 : Int
 x8 : Int
abbrev ccs (C : Cn) (a : Ads) : List Value := [.string C.tx, .int .i64 C.n, .int .i64 C.tg, .bool C.th, .string C.via, .slice a.aA C.al.length a.aC, .slice a.dA C.dn.length a.dC, .slice a.uA C.us.length a.uC, .slice a.kA C.ks.length a.kC, .int .i64 C.d, .int .i64 C.x3, .int .i64 C.x4, .int .i64 C.x5, .int .i64 C.x6, .int .i64 C.x7, .int .i64 C.x8]
/-- What stands behind the cells of a content. -/
structure IsC (w : World) (C : Cn) (a : Ads) : Prop where
 al : Txs w a.aA C.al.length a.aC C.al
 dn : Txs w a.dA C.dn.length a.dC C.dn
 lv : IsL w ⟨C.us, C.ks, C.d, C.x3, C.x4, C.x5, C.x6, C.x7, C.x8⟩ a.uA a.uC a.kA a.kC
 tx : C.tx.size ≤ 9223372036854775807
 via : C.via.size ≤ 9223372036854775807
 n : i64B C.n
 tg : i64B C.tg
theorem IsC.below {w w1 : World} {C : Cn} {a : Ads} (h : IsC w C a) (hb : Below w.heap.size w w1) : IsC w1 C a := ⟨h.al.below hb, h.dn.below hb, h.lv.below hb, h.tx, h.via, h.n, h.tg⟩
theorem size29 : (Tryz.prog.info? 30).map (·.size) = some 16 := by kernel_rfl
def chkPs : List ByteArray → Int
 | [] => 0
 | s :: r => if Gl.chk (Gl.bys s) = 0 then chkPs r else Gl.chk (Gl.bys s)
def chkP (l : List ByteArray) : Int := if 100 < l.length then 7 else chkPs l
def chkRs : Option ByteArray → List ByteArray → Int
 | _, [] => 0
 | pv, s :: r => if I.mkd 33 (bys s) = false then 3 else if leO s pv = true then 8 else chkRs (some s) r
def chkR (n : Int) (l : List ByteArray) : Int := if 0 < l.length ∧ n ≠ 3 then 1 else if 100 < l.length then 7 else chkRs none l
theorem getE {l : List ByteArray} {k : Nat} (h : k < l.length) : l[k] = l.getD k ByteArray.empty := by rw [List.getD_eq_getElem?_getD, List.getElem?_eq_getElem h]; rfl
theorem stepP {l : List ByteArray} {k : Nat} (h : k < l.length) : chkPs (l.drop k) = if Gl.chk (Gl.bys (l.getD k ByteArray.empty)) = 0 then chkPs (l.drop (k + 1)) else Gl.chk (Gl.bys (l.getD k ByteArray.empty)) := by
 rw [List.drop_eq_getElem_cons h, chkPs, getE h]
def prR (l : List ByteArray) (k : Nat) : Option ByteArray := if k = 0 then none else some (l.getD (k - 1) ByteArray.empty)
theorem stepR {l : List ByteArray} {k : Nat} (h : k < l.length) : chkRs (prR l k) (l.drop k) = if I.mkd 33 (bys (l.getD k ByteArray.empty)) = false then 3 else if leO (l.getD k ByteArray.empty) (prR l k) = true then 8 else chkRs (prR l (k + 1)) (l.drop (k + 1)) := by
 rw [List.drop_eq_getElem_cons h, chkRs, getE h]
 unfold prR
 rw [if_neg (Nat.succ_ne_zero k), Nat.add_sub_cancel]
theorem leR_none {x : ByteArray} {l : List ByteArray} {k : Nat} (h : ¬ 0 < k) : leO x (prR l k) = false := by unfold prR; rw [if_pos (by omega)]; rfl
theorem leR_some {x : ByteArray} {l : List ByteArray} {k : Nat} (h : 0 < k) : leO x (prR l k) = leS x (l.getD (k - 1) ByteArray.empty) := by unfold prR; rw [if_neg (by omega)]; rfl
set_option maxHeartbeats 4000000 in
theorem pats136 (A : Option Addr) (n c : Nat) (zs : List ByteArray) (w : World) (h : Txs w A n c zs) : Calls Tryz.prog 201 #[.slice A n c] w fun e w' => e = .returned (.int .i64 (chkP zs)) ∧ w = w' := by
 have hbig := h.rws.big
 unfold maxLen at hbig
 have HC := hid (show chkP zs = if 100 < zs.length then 7 else chkPs zs from rfl)
 generalize chkP zs = r at HC ⊢
 have H := hid h
 have HL := hid h.len
 by_cases hn : (100 : Int) < (n : Int)
 ·have HE := hid (HC.out.trans (if_pos (by have := HL.out; omega)))
  clear h
  go_enter Tryz.func201, Tryz.ntmps201
  go_wp2
  go_ret
  exact ⟨ret_i HE.out, rfl⟩
 ·have HE := hid (HC.out.trans (if_neg (by have := HL.out; omega)))
  clear h HC
  go_enter Tryz.func201, Tryz.ntmps201
  go_wp2
  go_loop [11] (fun s => ∃ (k : Nat), k ≤ n ∧ s = .int .i64 (k : Int) ∧ Hid (r = chkPs (zs.drop k))) (fun s => n - (intOf s).toNat)
  case atStart => exact ⟨0, Nat.zero_le _, by go_num, HE⟩
  case round =>
   clear HE
   obtain ⟨k, hk, rfl, HR⟩ := hrel
   by_cases hlt : k < n
   ·have hltz : (k : Int) < (n : Int) := by omega
    have hk0 : (0 : Int) ≤ (k : Int) := by omega
    have HS := hid (HR.out.trans (stepP (show k < zs.length by have := HL.out; omega)))
    obtain ⟨b, off, rfl, t, ht, hts, q0⟩ := H.out.get hlt
    rw [ht] at HS
    have HT := hid hts
    clear ht hts HR
    have CG := hid (Gl.check_any t HT.out w)
    generalize Gl.chk (Gl.bys t) = v at HS CG
    by_cases hv : v = 0
    ·subst hv
     have HR2 := hid (HS.out.trans (if_pos rfl))
     clear HS
     go_wp2_with (first | (go_at_call 197; (with_reducible refine CG.out.mono ?_); rintro e w1 ⟨rfl, rfl⟩) | fail)
     go_round
     case rel => exact ⟨k + 1, by omega, by go_num, HR2⟩
     case measure => simp [intOf]; omega
    ·have hvq : (v == 0) = false := by simpa using hv
     have HE := hid (HS.out.trans (if_neg hv))
     clear HS
     go_wp2_with (first | (go_at_call 197; (with_reducible refine CG.out.mono ?_); rintro e w1 ⟨rfl, rfl⟩) | fail)
     go_ret
     exact ⟨ret_i HE.out, rfl⟩
   ·have hltz : ¬ (k : Int) < (n : Int) := by omega
    have HE := hid (HR.out.trans (show chkPs (zs.drop k) = 0 by rw [List.drop_eq_nil_of_le (by have := HL.out; omega)]; rfl))
    go_wp2
    go_ret
    exact ⟨ret_i HE.out, rfl⟩
end Go.Proofs.YtablocpcgknmaaaGreatDoor
namespace Go.Proofs.YtablocpcgknmaaaGreatDoor
open Go.Lib (hid)
open Go Go.RowKit
set_option linter.unusedVariables false
set_option linter.unusedSimpArgs false
set_option maxRecDepth 100000

theorem blk_dn {w : World} {t : Nat} {cs : List Value} {T : TypeId} (h : Blk w t cs T) (n : Nat) : Blk (w.drewN n) t cs T := ⟨h.heap⟩
theorem room_ok (s : ByteArray) (hs : s.size ≤ 9223372036854775807) (hq : I.mkd 33 (bys s) = true) (w : World) : Calls Tryz.prog 90 #[.string s] w fun e w' => e = .returned (.int .i64 0) ∧ Below w.heap.size w w' := by
 have := room_any s hs w
 rwa [hq] at this
theorem room_no (s : ByteArray) (hs : s.size ≤ 9223372036854775807) (hq : I.mkd 33 (bys s) = false) (w : World) : Calls Tryz.prog 90 #[.string s] w fun e w' => e = .returned (.int .i64 3) ∧ Below w.heap.size w w' := by
 have := room_any s hs w
 rwa [hq] at this
set_option maxHeartbeats 8000000 in
theorem rooms135 (C : Cn) (a : Ads) (w : World) (h : IsC w C a) : Calls Tryz.prog 200 #[.agg (ccs C a).toArray] w fun e w' => e = .returned (.int .i64 (chkR C.n C.al)) ∧ Below w.heap.size w w' := by
 obtain ⟨tx, n, tg, th, via, al, dn, us, ks, d, x3, x4, x5, x6, x7, x8⟩ := C
 obtain ⟨aA, aC, dA, dC, uA, uC, kA, kC⟩ := a
 have H := hid h.al
 dsimp only at H ⊢
 clear h
 have BA := hid ((Below.refl w.heap.size w).alloc (Nat.le_refl _) (.cells #[.string tx, .int .i64 n, .int .i64 tg, .bool th, .string via, .slice aA al.length aC, .slice dA dn.length dC, .slice uA us.length uC, .slice kA ks.length kC, .int .i64 d, .int .i64 x3, .int .i64 x4, .int .i64 x5, .int .i64 x6, .int .i64 x7, .int .i64 x8] 30))
 have X0 := hid (blk_new w [.string tx, .int .i64 n, .int .i64 tg, .bool th, .string via, .slice aA al.length aC, .slice dA dn.length dC, .slice uA us.length uC, .slice kA ks.length kC, .int .i64 d, .int .i64 x3, .int .i64 x4, .int .i64 x5, .int .i64 x6, .int .i64 x7, .int .i64 x8] 30)
 have HC := hid (show chkR n al = if 0 < al.length ∧ n ≠ 3 then 1 else if 100 < al.length then 7 else chkRs none al from rfl)
 generalize chkR n al = r at HC ⊢
 have hbig := H.out.rws.big
 unfold maxLen at hbig
 have y5 := X0.out.cell (i := 5) rfl
 have y1 := X0.out.cell (i := 1) rfl
 show Calls Tryz.prog 200 #[.agg #[.string tx, .int .i64 n, .int .i64 tg, .bool th, .string via, .slice aA al.length aC, .slice dA dn.length dC, .slice uA us.length uC, .slice kA ks.length kC, .int .i64 d, .int .i64 x3, .int .i64 x4, .int .i64 x5, .int .i64 x6, .int .i64 x7, .int .i64 x8]] w _
 by_cases hl0 : 0 < al.length
 ·have hl0z : (0 : Int) < (al.length : Int) := by omega
  have d0 : decide (0 < al.length) = true := decide_eq_true hl0
  have d1 : decide ((0 : Int) < (al.length : Int)) = true := decide_eq_true hl0z
  by_cases hn3 : n = 3
  ·have HC2 := hid (HC.out.trans (if_neg (fun q => q.2 hn3)))
   subst hn3
   clear HC
   by_cases hn : (100 : Int) < (al.length : Int)
   ·have HE := hid (HC2.out.trans (if_pos (by omega)))
    go_enter Tryz.func200, Tryz.ntmps200
    go_wp2
    go_ret
    exact ⟨ret_i HE.out, BA.out⟩
   ·have HE := hid (HC2.out.trans (if_neg (by omega)))
    clear HC2
    go_enter Tryz.func200, Tryz.ntmps200
    go_wp2
    clear d0 d1
    go_loopg [21] al.length (fun gg s wr => ∃ (k : Nat), k ≤ al.length ∧ al.length - k ≤ gg ∧ s = .int .i64 (k : Int) ∧ Hid (r = chkRs (prR al k) (al.drop k)) ∧ Hid (Below w.heap.size w wr) ∧ Hid (Blk wr w.heap.size [.string tx, .int .i64 3, .int .i64 tg, .bool th, .string via, .slice aA al.length aC, .slice dA dn.length dC, .slice uA us.length uC, .slice kA ks.length kC, .int .i64 d, .int .i64 x3, .int .i64 x4, .int .i64 x5, .int .i64 x6, .int .i64 x7, .int .i64 x8] 30))
    case atStart => exact ⟨0, Nat.zero_le _, by omega, by go_num, HE, BA, X0⟩
    case round =>
     clear HE X0 BA y5 y1
     obtain ⟨k, hk, hg, rfl, HR, BW, X⟩ := hrel
     have y5 := X.out.cell (i := 5) rfl
     by_cases hlt : k < al.length
     ·have hltz : (k : Int) < (al.length : Int) := by omega
      have hk0 : (0 : Int) ≤ (k : Int) := by omega
      have HS := hid (HR.out.trans (stepR hlt))
      have HPr := hid (fun (h0 : 0 < k) => (H.out.below BW.out).strs.str (k := k - 1) (by omega))
      have HLe := hid (fun (h0 : ¬ 0 < k) => leR_none (x := al.getD k ByteArray.empty) (l := al) h0)
      have HLs := hid (fun (h0 : 0 < k) => leR_some (x := al.getD k ByteArray.empty) (l := al) h0)
      obtain ⟨b, off, rfl, t, ht, hts, hb0, q0⟩ := (H.out.below BW.out).strs.str hlt
      have HB0 := hid hb0
      rw [← ht] at HS HLe HLs
      have HT := hid hts
      clear ht hts HR hb0
      rcases hq : I.mkd 33 (bys t) with _ | _
      ·have HQ := hid hq
       have HE := hid (HS.out.trans (if_pos hq))
       clear hq HS
       go_wp2_with (first | (go_at_call 90; (with_reducible refine (room_no t HT.out HQ.out _).mono ?_); rintro e w2 ⟨rfl, hb⟩; have C2 := hid hb; have B2 := hid (BW.out.trans (hb.mono BW.out.size)); have X2 := hid (X.out.below hb); clear hb y5; have y5 := X2.out.cell (i := 5) rfl) | fail)
       go_ret
       exact ⟨ret_i HE.out, B2.out⟩
      ·have HQ := hid hq
       have HS2 := hid (HS.out.trans (if_neg (by rw [hq]; simp)))
       clear hq HS
       go_upto_region 10 with (first | (go_at_call 90; (with_reducible refine (room_ok t HT.out HQ.out _).mono ?_); rintro e w2 ⟨rfl, hb⟩; have C2 := hid hb; have B2 := hid (BW.out.trans (hb.mono BW.out.size)); have X2 := hid (X.out.below hb); clear hb y5; have y5 := X2.out.cell (i := 5) rfl) | fail)
       by_cases h0 : 0 < k
       ·have h0z : (0 : Int) < (k : Int) := by omega
        have d0 : decide (0 < k) = true := decide_eq_true h0
        have d1 : decide ((0 : Int) < (k : Int)) = true := decide_eq_true h0z
        have hk1 : ((k : Int) - 1).toNat = k - 1 := by omega
        have hk2 : (0 : Int) ≤ (k : Int) - 1 := by omega
        have hk3 : (k : Int) - 1 < (al.length : Int) := by omega
        have hk4 : (1 : Int) ≤ (k : Int) := by omega
        obtain ⟨b', off', hAd, v, hv, hvs, _, q1⟩ := HPr.out h0
        simp only [Option.some.injEq, Addr.mk.injEq, and_true] at hAd
        obtain ⟨rfl, rfl⟩ := hAd
        have HLt := hid (HLs.out h0)
        rw [← hv] at HLt
        clear HLs HLe HPr hv hvs
        have q2 : w2.cell? ⟨b, off + (k - 1), none⟩ = some (.string v) := (C2.out.cell (p := ⟨b, _, none⟩) HB0.out).trans q1
        clear q1
        unfold leS at HLt
        cases e1 : Op.bytesLess t.toList v.toList
        ·cases e2 : t.toList == v.toList
         ·rw [e1, e2] at HLt
          have HR2 := hid (HS2.out.trans (if_neg (by rw [HLt.out]; simp)))
          clear HS2 HLt
          go_wp2
          go_roundg (al.length - (k + 1))
          case measure => omega
          case rel => exact ⟨k + 1, by omega, by omega, by go_num, HR2, B2, X2⟩
         ·rw [e1, e2] at HLt
          have HE := hid (HS2.out.trans (if_pos HLt.out))
          clear HS2 HLt
          go_wp2
          go_ret
          exact ⟨ret_i HE.out, B2.out⟩
        ·rw [e1] at HLt
         have HE := hid (HS2.out.trans (if_pos HLt.out))
         clear HS2 HLt
         go_wp2
         go_ret
         exact ⟨ret_i HE.out, B2.out⟩
       ·have h0z : ¬ (0 : Int) < (k : Int) := by omega
        have d0 : decide (0 < k) = false := decide_eq_false h0
        have d1 : decide ((0 : Int) < (k : Int)) = false := decide_eq_false h0z
        have HLt := hid (HLe.out h0)
        clear HLs HLe HPr
        have HR2 := hid (HS2.out.trans (if_neg (by rw [HLt.out]; simp)))
        clear HS2 HLt
        go_wp2
        go_roundg (al.length - (k + 1))
        case measure => omega
        case rel => exact ⟨k + 1, by omega, by omega, by go_num, HR2, B2, X2⟩
     ·have hltz : ¬ (k : Int) < (al.length : Int) := by omega
      have HE := hid (HR.out.trans (show chkRs (prR al k) (al.drop k) = 0 by rw [List.drop_eq_nil_of_le (by omega)]; rfl))
      go_wp2
      go_ret
      exact ⟨ret_i HE.out, BW.out⟩
  ·have HE := hid (HC.out.trans (if_pos ⟨hl0, hn3⟩))
   have hq : (n == 3) = false := by simpa using hn3
   clear HC
   go_enter Tryz.func200, Tryz.ntmps200
   go_wp2
   go_ret
   exact ⟨ret_i HE.out, BA.out⟩
 ·have hal : al = [] := List.eq_nil_of_length_eq_zero (by omega)
  subst hal
  have HE := hid (HC.out.trans ((if_neg (fun q => hl0 q.1)).trans ((if_neg (by simp)).trans (show chkRs none [] = 0 from rfl))))
  clear HC H hl0 hbig BA
  have BA := hid ((Below.refl w.heap.size w).alloc (Nat.le_refl _) (.cells #[.string tx, .int .i64 n, .int .i64 tg, .bool th, .string via, .slice aA 0 aC, .slice dA dn.length dC, .slice uA us.length uC, .slice kA ks.length kC, .int .i64 d, .int .i64 x3, .int .i64 x4, .int .i64 x5, .int .i64 x6, .int .i64 x7, .int .i64 x8] 30))
  have y5 : (w.alloc (.cells #[.string tx, .int .i64 n, .int .i64 tg, .bool th, .string via, .slice aA 0 aC, .slice dA dn.length dC, .slice uA us.length uC, .slice kA ks.length kC, .int .i64 d, .int .i64 x3, .int .i64 x4, .int .i64 x5, .int .i64 x6, .int .i64 x7, .int .i64 x8] 30)).cell? ⟨w.heap.size, 5, none⟩ = some (.slice aA 0 aC) := (blk_new w [.string tx, .int .i64 n, .int .i64 tg, .bool th, .string via, .slice aA 0 aC, .slice dA dn.length dC, .slice uA us.length uC, .slice kA ks.length kC, .int .i64 d, .int .i64 x3, .int .i64 x4, .int .i64 x5, .int .i64 x6, .int .i64 x7, .int .i64 x8] 30).cell (i := 5) rfl
  have y1 : (w.alloc (.cells #[.string tx, .int .i64 n, .int .i64 tg, .bool th, .string via, .slice aA 0 aC, .slice dA dn.length dC, .slice uA us.length uC, .slice kA ks.length kC, .int .i64 d, .int .i64 x3, .int .i64 x4, .int .i64 x5, .int .i64 x6, .int .i64 x7, .int .i64 x8] 30)).cell? ⟨w.heap.size, 1, none⟩ = some (.int .i64 n) := (blk_new w [.string tx, .int .i64 n, .int .i64 tg, .bool th, .string via, .slice aA 0 aC, .slice dA dn.length dC, .slice uA us.length uC, .slice kA ks.length kC, .int .i64 d, .int .i64 x3, .int .i64 x4, .int .i64 x5, .int .i64 x6, .int .i64 x7, .int .i64 x8] 30).cell (i := 1) rfl
  clear X0
  show Calls Tryz.prog 200 #[.agg #[.string tx, .int .i64 n, .int .i64 tg, .bool th, .string via, .slice aA 0 aC, .slice dA dn.length dC, .slice uA us.length uC, .slice kA ks.length kC, .int .i64 d, .int .i64 x3, .int .i64 x4, .int .i64 x5, .int .i64 x6, .int .i64 x7, .int .i64 x8]] w _
  go_enter Tryz.func200, Tryz.ntmps200
  go_wp2
  go_loopg [21] 1 (fun gg s wr => s = .int .i64 0 ∧ Hid (Below w.heap.size w wr) ∧ Hid (Blk wr w.heap.size [.string tx, .int .i64 n, .int .i64 tg, .bool th, .string via, .slice aA 0 aC, .slice dA dn.length dC, .slice uA us.length uC, .slice kA ks.length kC, .int .i64 d, .int .i64 x3, .int .i64 x4, .int .i64 x5, .int .i64 x6, .int .i64 x7, .int .i64 x8] 30))
  case atStart => exact ⟨rfl, BA, hid (blk_new w [.string tx, .int .i64 n, .int .i64 tg, .bool th, .string via, .slice aA 0 aC, .slice dA dn.length dC, .slice uA us.length uC, .slice kA ks.length kC, .int .i64 d, .int .i64 x3, .int .i64 x4, .int .i64 x5, .int .i64 x6, .int .i64 x7, .int .i64 x8] 30)⟩
  case round =>
   obtain ⟨rfl, BW, X⟩ := hrel
   clear y5 y1
   have y5 := X.out.cell (i := 5) rfl
   go_wp2
   go_ret
   exact ⟨ret_i HE.out, BW.out⟩
end Go.Proofs.YtablocpcgknmaaaGreatDoor
