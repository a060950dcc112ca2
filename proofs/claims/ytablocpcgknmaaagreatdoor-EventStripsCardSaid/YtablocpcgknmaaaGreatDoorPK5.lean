/- Contents: their data, where they lie; the checks of lists of patterns. No condition. -/
import Derived.Test.YtablocpcgknmaaaGreatDoorPK1
namespace Go.Proofs.YtablocpcgknmaaaGreatDoor
open Go Go.RowKit
set_option linter.unusedVariables false
set_option linter.unusedSimpArgs false
set_option maxRecDepth 100000

/-- A content as data. -/
structure Cn where
  tx : ByteArray
  n : Int
  tg : Int
  th : Bool
  via : ByteArray
  al : List ByteArray
  dn : List ByteArray
  us : List (ByteArray × Int)
  ks : List (Int × Int)
  d : Int
  x3 : Int
  x4 : Int
  x5 : Int
  x6 : Int
  x7 : Int
  x8 : Int
abbrev ccs (C : Cn) (a : Ads) : List Value := [.string C.tx, .int .i64 C.n, .int .i64 C.tg, .bool C.th, .string C.via, .slice a.aA C.al.length a.aC, .slice a.dA C.dn.length a.dC, .slice a.uA C.us.length a.uC, .slice a.kA C.ks.length a.kC, .int .i64 C.d, .int .i64 C.x3, .int .i64 C.x4, .int .i64 C.x5, .int .i64 C.x6, .int .i64 C.x7, .int .i64 C.x8]
/-- What stands behind the cells of a content. -/
structure IsC (w : World) (C : Cn) (a : Ads) : Prop where
  al : Txs w a.aA C.al.length a.aC C.al
  dn : Txs w a.dA C.dn.length a.dC C.dn
  lv : IsL w ⟨C.us, C.ks, C.d, C.x3, C.x4, C.x5, C.x6, C.x7, C.x8⟩ a.uA a.uC a.kA a.kC
  tx : C.tx.size ≤ 9223372036854775807
  via : C.via.size ≤ 9223372036854775807
  n : i64B C.n
  tg : i64B C.tg
theorem IsC.below {w w1 : World} {C : Cn} {a : Ads} (h : IsC w C a) (hb : Below w.heap.size w w1) : IsC w1 C a := ⟨h.al.below hb, h.dn.below hb, h.lv.below hb, h.tx, h.via, h.n, h.tg⟩
theorem size29 : (Tryz.prog.info? 30).map (·.size) = some 16 := by kernel_rfl
def chkPs : List ByteArray → Int
  | [] => 0
  | s :: r => if Gl.chk (Gl.bys s) = 0 then chkPs r else Gl.chk (Gl.bys s)
def chkP (l : List ByteArray) : Int := if 100 < l.length then 7 else chkPs l
def chkRs : Option ByteArray → List ByteArray → Int
  | _, [] => 0
  | pv, s :: r => if I.mkd 33 (bys s) = false then 3 else if leO s pv = true then 8 else chkRs (some s) r
def chkR (n : Int) (l : List ByteArray) : Int := if 0 < l.length ∧ n ≠ 3 then 1 else if 100 < l.length then 7 else chkRs none l
theorem getE {l : List ByteArray} {k : Nat} (h : k < l.length) : l[k] = l.getD k ByteArray.empty := by rw [List.getD_eq_getElem?_getD, List.getElem?_eq_getElem h]; rfl
theorem stepP {l : List ByteArray} {k : Nat} (h : k < l.length) : chkPs (l.drop k) = if Gl.chk (Gl.bys (l.getD k ByteArray.empty)) = 0 then chkPs (l.drop (k + 1)) else Gl.chk (Gl.bys (l.getD k ByteArray.empty)) := by
  rw [List.drop_eq_getElem_cons h, chkPs, getE h]
def prR (l : List ByteArray) (k : Nat) : Option ByteArray := if k = 0 then none else some (l.getD (k - 1) ByteArray.empty)
theorem stepR {l : List ByteArray} {k : Nat} (h : k < l.length) : chkRs (prR l k) (l.drop k) = if I.mkd 33 (bys (l.getD k ByteArray.empty)) = false then 3 else if leO (l.getD k ByteArray.empty) (prR l k) = true then 8 else chkRs (prR l (k + 1)) (l.drop (k + 1)) := by
  rw [List.drop_eq_getElem_cons h, chkRs, getE h]
  unfold prR
  rw [if_neg (Nat.succ_ne_zero k), Nat.add_sub_cancel]
theorem leR_none {x : ByteArray} {l : List ByteArray} {k : Nat} (h : ¬ 0 < k) : leO x (prR l k) = false := by unfold prR; rw [if_pos (by omega)]; rfl
theorem leR_some {x : ByteArray} {l : List ByteArray} {k : Nat} (h : 0 < k) : leO x (prR l k) = leS x (l.getD (k - 1) ByteArray.empty) := by unfold prR; rw [if_neg (by omega)]; rfl
set_option maxHeartbeats 4000000 in
theorem pats136 (A : Option Addr) (n c : Nat) (zs : List ByteArray) (w : World) (h : Txs w A n c zs) : Calls Tryz.prog 201 #[.slice A n c] w fun e w' => e = .returned (.int .i64 (chkP zs)) ∧ w = w' := by
  have hbig := h.rws.big
  unfold maxLen at hbig
  have HC := Lib.hid (show chkP zs = if 100 < zs.length then 7 else chkPs zs from rfl)
  generalize chkP zs = r at HC ⊢
  have H := Lib.hid h
  have HL := Lib.hid h.len
  by_cases hn : (100 : Int) < (n : Int)
  · have HE := Lib.hid (HC.out.trans (if_pos (by have := HL.out; omega)))
    clear h
    go_enter Tryz.func201, Tryz.ntmps201
    go_wp2
    go_ret
    exact ⟨ret_i HE.out, rfl⟩
  · have HE := Lib.hid (HC.out.trans (if_neg (by have := HL.out; omega)))
    clear h HC
    go_enter Tryz.func201, Tryz.ntmps201
    go_wp2
    go_loop [11] (fun s => ∃ (k : Nat), k ≤ n ∧ s = .int .i64 (k : Int) ∧ Hid (r = chkPs (zs.drop k))) (fun s => n - (intOf s).toNat)
    case atStart => exact ⟨0, Nat.zero_le _, by go_num, HE⟩
    case round =>
      clear HE
      obtain ⟨k, hk, rfl, HR⟩ := hrel
      by_cases hlt : k < n
      · have hltz : (k : Int) < (n : Int) := by omega
        have hk0 : (0 : Int) ≤ (k : Int) := by omega
        have HS := Lib.hid (HR.out.trans (stepP (show k < zs.length by have := HL.out; omega)))
        obtain ⟨b, off, rfl, t, ht, hts, q0⟩ := H.out.get hlt
        rw [ht] at HS
        have HT := Lib.hid hts
        clear ht hts HR
        have CG := Lib.hid (Gl.check_any t HT.out w)
        generalize Gl.chk (Gl.bys t) = v at HS CG
        by_cases hv : v = 0
        · subst hv
          have HR2 := Lib.hid (HS.out.trans (if_pos rfl))
          clear HS
          go_wp2_with (first | (go_at_call 197; (with_reducible refine CG.out.mono ?_); rintro e w1 ⟨rfl, rfl⟩) | fail)
          go_round
          case rel => exact ⟨k + 1, by omega, by go_num, HR2⟩
          case measure => simp [intOf]; omega
        · have hvq : (v == 0) = false := by simpa using hv
          have HE := Lib.hid (HS.out.trans (if_neg hv))
          clear HS
          go_wp2_with (first | (go_at_call 197; (with_reducible refine CG.out.mono ?_); rintro e w1 ⟨rfl, rfl⟩) | fail)
          go_ret
          exact ⟨ret_i HE.out, rfl⟩
      · have hltz : ¬ (k : Int) < (n : Int) := by omega
        have HE := Lib.hid (HR.out.trans (show chkPs (zs.drop k) = 0 by rw [List.drop_eq_nil_of_le (by have := HL.out; omega)]; rfl))
        go_wp2
        go_ret
        exact ⟨ret_i HE.out, rfl⟩
set_option maxHeartbeats 4000000 in
theorem pats47 (A : Option Addr) (n c : Nat) (zs : List ByteArray) (w : World) (h : Txs w A n c zs) : Calls Tryz.prog 111 #[.slice A n c] w fun e w' => e = .returned (.int .i64 (chkP zs)) ∧ w = w' := by
  have hbig := h.rws.big
  unfold maxLen at hbig
  have HC := Lib.hid (show chkP zs = if 100 < zs.length then 7 else chkPs zs from rfl)
  generalize chkP zs = r at HC ⊢
  have H := Lib.hid h
  have HL := Lib.hid h.len
  by_cases hn : (100 : Int) < (n : Int)
  · have HE := Lib.hid (HC.out.trans (if_pos (by have := HL.out; omega)))
    clear h
    go_enter Tryz.func111, Tryz.ntmps111
    go_wp2
    go_ret
    exact ⟨ret_i HE.out, rfl⟩
  · have HE := Lib.hid (HC.out.trans (if_neg (by have := HL.out; omega)))
    clear h HC
    go_enter Tryz.func111, Tryz.ntmps111
    go_wp2
    go_loop [3] (fun s => ∃ (k : Nat), k ≤ n ∧ s = .int .i64 (k : Int) ∧ Hid (r = chkPs (zs.drop k))) (fun s => n - (intOf s).toNat)
    case atStart => exact ⟨0, Nat.zero_le _, by go_num, HE⟩
    case round =>
      clear HE
      obtain ⟨k, hk, rfl, HR⟩ := hrel
      by_cases hlt : k < n
      · have hltz : (k : Int) < (n : Int) := by omega
        have hk0 : (0 : Int) ≤ (k : Int) := by omega
        have HS := Lib.hid (HR.out.trans (stepP (show k < zs.length by have := HL.out; omega)))
        obtain ⟨b, off, rfl, t, ht, hts, q0⟩ := H.out.get hlt
        rw [ht] at HS
        have HT := Lib.hid hts
        clear ht hts HR
        have CG := Lib.hid (Gl.rcheck_any t HT.out w)
        generalize Gl.chk (Gl.bys t) = v at HS CG
        by_cases hv : v = 0
        · subst hv
          have HR2 := Lib.hid (HS.out.trans (if_pos rfl))
          clear HS
          go_wp2_with (first | (go_at_call 176; (with_reducible refine CG.out.mono ?_); rintro e w1 ⟨rfl, rfl⟩) | fail)
          go_round
          case rel => exact ⟨k + 1, by omega, by go_num, HR2⟩
          case measure => simp [intOf]; omega
        · have hvq : (v == 0) = false := by simpa using hv
          have HE := Lib.hid (HS.out.trans (if_neg hv))
          clear HS
          go_wp2_with (first | (go_at_call 176; (with_reducible refine CG.out.mono ?_); rintro e w1 ⟨rfl, rfl⟩) | fail)
          go_ret
          exact ⟨ret_i HE.out, rfl⟩
      · have hltz : ¬ (k : Int) < (n : Int) := by omega
        have HE := Lib.hid (HR.out.trans (show chkPs (zs.drop k) = 0 by rw [List.drop_eq_nil_of_le (by have := HL.out; omega)]; rfl))
        go_wp2
        go_ret
        exact ⟨ret_i HE.out, rfl⟩
end Go.Proofs.YtablocpcgknmaaaGreatDoor
