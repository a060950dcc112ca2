/- The check of power levels, program and reference. No condition. -/
import Derived.Test.YtablocpcgknmaaaGreatDoorRPh
namespace Go.Proofs.YtablocpcgknmaaaGreatDoor
open Go.Lib (hid)
open Go Go.RowKit
set_option linter.unusedVariables false
set_option linter.unusedSimpArgs false
set_option maxRecDepth 100000

def chkNs : List Int → Int
 | [] => 0
 | x :: r => if wdB x = true then 2 else chkNs r
/-- What the check of power levels gives. -/
def chkL (us : List (ByteArray × Int)) (ks : List (Int × Int)) (ns : List Int) : Int := if chkU us = 0 then (if chkK ks = 0 then chkNs ns else chkK ks) else chkU us
theorem size63 : (Tryz.prog.info? 163).map (·.size) = some 7 := by kernel_rfl
theorem size27 : (Tryz.prog.info? 28).map (·.size) = some 9 := by kernel_rfl
theorem ix63_0 (d x3 x4 x5 x6 x7 x8 : Int) (w : World) : (Instr.index 163 (.agg #[.int .i64 d, .int .i64 x3, .int .i64 x4, .int .i64 x5, .int .i64 x6, .int .i64 x7, .int .i64 x8]) (.int .i64 0)).run Tryz.prog w = .ok (.int .i64 d) w := by kernel_rfl
theorem ix63_1 (d x3 x4 x5 x6 x7 x8 : Int) (w : World) : (Instr.index 163 (.agg #[.int .i64 d, .int .i64 x3, .int .i64 x4, .int .i64 x5, .int .i64 x6, .int .i64 x7, .int .i64 x8]) (.int .i64 1)).run Tryz.prog w = .ok (.int .i64 x3) w := by kernel_rfl
theorem ix63_2 (d x3 x4 x5 x6 x7 x8 : Int) (w : World) : (Instr.index 163 (.agg #[.int .i64 d, .int .i64 x3, .int .i64 x4, .int .i64 x5, .int .i64 x6, .int .i64 x7, .int .i64 x8]) (.int .i64 2)).run Tryz.prog w = .ok (.int .i64 x4) w := by kernel_rfl
theorem ix63_3 (d x3 x4 x5 x6 x7 x8 : Int) (w : World) : (Instr.index 163 (.agg #[.int .i64 d, .int .i64 x3, .int .i64 x4, .int .i64 x5, .int .i64 x6, .int .i64 x7, .int .i64 x8]) (.int .i64 3)).run Tryz.prog w = .ok (.int .i64 x5) w := by kernel_rfl
theorem ix63_4 (d x3 x4 x5 x6 x7 x8 : Int) (w : World) : (Instr.index 163 (.agg #[.int .i64 d, .int .i64 x3, .int .i64 x4, .int .i64 x5, .int .i64 x6, .int .i64 x7, .int .i64 x8]) (.int .i64 4)).run Tryz.prog w = .ok (.int .i64 x6) w := by kernel_rfl
theorem ix63_5 (d x3 x4 x5 x6 x7 x8 : Int) (w : World) : (Instr.index 163 (.agg #[.int .i64 d, .int .i64 x3, .int .i64 x4, .int .i64 x5, .int .i64 x6, .int .i64 x7, .int .i64 x8]) (.int .i64 5)).run Tryz.prog w = .ok (.int .i64 x7) w := by kernel_rfl
theorem ix63_6 (d x3 x4 x5 x6 x7 x8 : Int) (w : World) : (Instr.index 163 (.agg #[.int .i64 d, .int .i64 x3, .int .i64 x4, .int .i64 x5, .int .i64 x6, .int .i64 x7, .int .i64 x8]) (.int .i64 6)).run Tryz.prog w = .ok (.int .i64 x8) w := by kernel_rfl
theorem ix63 (d x3 x4 x5 x6 x7 x8 : Int) (k : Nat) (hk : k < 7) (w : World) : (Instr.index 163 (.agg #[.int .i64 d, .int .i64 x3, .int .i64 x4, .int .i64 x5, .int .i64 x6, .int .i64 x7, .int .i64 x8]) (.int .i64 (k : Int))).run Tryz.prog w = .ok (.int .i64 ([d, x3, x4, x5, x6, x7, x8].getD k 0)) w := by
 match k, hk with
 | 0, _ => exact ix63_0 d x3 x4 x5 x6 x7 x8 w
 | 1, _ => exact ix63_1 d x3 x4 x5 x6 x7 x8 w
 | 2, _ => exact ix63_2 d x3 x4 x5 x6 x7 x8 w
 | 3, _ => exact ix63_3 d x3 x4 x5 x6 x7 x8 w
 | 4, _ => exact ix63_4 d x3 x4 x5 x6 x7 x8 w
 | 5, _ => exact ix63_5 d x3 x4 x5 x6 x7 x8 w
 | 6, _ => exact ix63_6 d x3 x4 x5 x6 x7 x8 w
theorem blk_new2 (w : World) (A : Obj) (cs : List Value) (T : TypeId) : Blk ((w.alloc A).alloc (.cells cs.toArray T)) (w.heap.size + 1) cs T := by
 have := blk_new (w.alloc A) cs T
 rwa [World.size_alloc] at this
set_option maxHeartbeats 4000000 in
theorem numbers50 (us : List (ByteArray × Int)) (ks : List (Int × Int)) (d x3 x4 x5 x6 x7 x8 : Int) (uA : Option Addr) (uC : Nat) (kA : Option Addr) (kC : Nat) (w : World) : Calls Tryz.prog 184 #[.agg #[.slice uA us.length uC, .slice kA ks.length kC, .int .i64 d, .int .i64 x3, .int .i64 x4, .int .i64 x5, .int .i64 x6, .int .i64 x7, .int .i64 x8]] w fun e w' => e = .returned (.agg #[.int .i64 d, .int .i64 x3, .int .i64 x4, .int .i64 x5, .int .i64 x6, .int .i64 x7, .int .i64 x8]) ∧ Below w.heap.size w w' := by
 have BA := hid ((Below.refl w.heap.size w).alloc (Nat.le_refl _) (.cells #[.slice uA us.length uC, .slice kA ks.length kC, .int .i64 d, .int .i64 x3, .int .i64 x4, .int .i64 x5, .int .i64 x6, .int .i64 x7, .int .i64 x8] 28))
 have X0 := hid (blk_new w (lvc uA us.length uC kA ks.length kC d x3 x4 x5 x6 x7 x8) 28)
 have c2 := X0.out.cell (i := 2) rfl
 have c3 := X0.out.cell (i := 3) rfl
 have c4 := X0.out.cell (i := 4) rfl
 have c5 := X0.out.cell (i := 5) rfl
 have c6 := X0.out.cell (i := 6) rfl
 have c7 := X0.out.cell (i := 7) rfl
 have c8 := X0.out.cell (i := 8) rfl
 go_enter Tryz.func184, Tryz.ntmps184
 go_wp2_with (first
  | (refine store_as rfl 163 _ _ rfl [.int .i64 0, .int .i64 0, .int .i64 0, .int .i64 0, .int .i64 0, .int .i64 0, .int .i64 0] [.int .i64 d, .int .i64 x3, .int .i64 x4, .int .i64 x5, .int .i64 x6, .int .i64 x7, .int .i64 x8] rfl rfl rfl size63 (by simp [Value.oneCell']) ?_; intro w1 hx hb; have X1 := hid hx; have B1 := hid (BA.out.trans (hb.mono BA.out.size)); clear hx hb)
  | fail)
 try simp only [Exit.inBlock, Exit.then]
 refine bodyPost_ret (results_cell_mid rfl _ _ (w.heap.size + 1) [.int .i64 d, .int .i64 x3, .int .i64 x4, .int .i64 x5, .int .i64 x6, .int .i64 x7, .int .i64 x8] 163 _ rfl (blk_new2 w _ [.int .i64 d, .int .i64 x3, .int .i64 x4, .int .i64 x5, .int .i64 x6, .int .i64 x7, .int .i64 x8] 163) Tryz.underlying163 rfl size63) rfl ⟨rfl, BA.out.alloc (by simp only [World.size_alloc]; omega) _⟩
def nmL (d x3 x4 x5 x6 x7 x8 : Int) : List Int := [d, x3, x4, x5, x6, x7, x8]
theorem nm_step {ns : List Int} {k : Nat} (h : k < ns.length) : chkNs (ns.drop k) = if wdB (ns.getD k 0) = true then 2 else chkNs (ns.drop (k + 1)) := by
 rw [List.drop_eq_getElem_cons h, chkNs, List.getD_eq_getElem?_getD, List.getElem?_eq_getElem h]
 rfl
set_option maxHeartbeats 8000000 in
theorem levels18 (us : List (ByteArray × Int)) (ks : List (Int × Int)) (d x3 x4 x5 x6 x7 x8 : Int) (uA : Option Addr) (uC : Nat) (kA : Option Addr) (kC : Nat) (w : World) (h : IsL w ⟨us, ks, d, x3, x4, x5, x6, x7, x8⟩ uA uC kA kC) : Calls Tryz.prog 204 #[.agg #[.slice uA us.length uC, .slice kA ks.length kC, .int .i64 d, .int .i64 x3, .int .i64 x4, .int .i64 x5, .int .i64 x6, .int .i64 x7, .int .i64 x8]] w fun e w' => e = .returned (.int .i64 (chkL us ks (nmL d x3 x4 x5 x6 x7 x8))) ∧ Below w.heap.size w w' := by
 have BA := hid ((Below.refl w.heap.size w).alloc (Nat.le_refl _) (.cells #[.slice uA us.length uC, .slice kA ks.length kC, .int .i64 d, .int .i64 x3, .int .i64 x4, .int .i64 x5, .int .i64 x6, .int .i64 x7, .int .i64 x8] 28))
 have X0 := hid (blk_new w (lvc uA us.length uC kA ks.length kC d x3 x4 x5 x6 x7 x8) 28)
 have HU := hid (users48 uA us.length uC us _ (h.us.below BA.out) rfl h.fu)
 have HK := hid (fun y (hb : Below w.heap.size w y) => kinds49 kA ks.length kC ks y (h.ks.below hb) rfl h.fk)
 have HN := hid (fun y => numbers50 us ks d x3 x4 x5 x6 x7 x8 uA uC kA kC y)
 have HC := hid (show chkL us ks (nmL d x3 x4 x5 x6 x7 x8) = if chkU us = 0 then (if chkK ks = 0 then chkNs (nmL d x3 x4 x5 x6 x7 x8) else chkK ks) else chkU us from rfl)
 generalize chkL us ks (nmL d x3 x4 x5 x6 x7 x8) = r at HC ⊢
 generalize chkU us = a at HC HU
 generalize chkK ks = b at HC HK
 clear h
 have c0 := X0.out.cell (i := 0) rfl
 have c1 := X0.out.cell (i := 1) rfl
 by_cases ha : a = 0
 ·by_cases hb0 : b = 0
  ·have HE := hid (HC.out.trans ((if_pos ha).trans (if_pos hb0)))
   subst ha hb0
   clear HC
   go_enter Tryz.func204, Tryz.ntmps204
   go_upto_region 8 with (first
    | (go_at_call 215; (with_reducible refine HU.out.mono ?_); rintro e w1 ⟨rfl, hb⟩; have B1 := hid (BA.out.trans (hb.mono BA.out.size)); have Y1 := hid (X0.out.below hb); clear hb c0 c1; have c1 := Y1.out.cell (i := 1) rfl)
    | (go_at_call 216; (with_reducible refine (HK.out _ B1.out).mono ?_); rintro e w2 ⟨rfl, hb⟩; have B2 := hid (B1.out.trans (hb.mono B1.out.size)); have Y2 := hid (Y1.out.below hb); clear hb c1)
    | (refine wpList_load_mid rfl 28 _ rfl w.heap.size 0 rfl (lvc uA us.length uC kA ks.length kC d x3 x4 x5 x6 x7 x8) _ Y2.out.range Tryz.underlying28 rfl size27 ?_)
    | (go_at_call 184; (with_reducible refine (HN.out _).mono ?_); rintro e w3 ⟨rfl, hb⟩; have B3 := hid (B2.out.trans (hb.mono B2.out.size)); clear hb)
    | fail)
   go_loopg [22] 7 (fun gg s22 wr => ∃ (k : Nat), k ≤ 7 ∧ 7 - k ≤ gg ∧ s22 = .int .i64 (k : Int) ∧ Hid (r = chkNs ((nmL d x3 x4 x5 x6 x7 x8).drop k)) ∧ Hid (Below w.heap.size w wr))
   case atStart => exact ⟨0, by omega, by omega, by go_num, HE, B3⟩
   case round =>
    clear HE
    obtain ⟨k, hk, hg, rfl, HR, BW⟩ := hrel
    by_cases hlt : k < 7
    ·have hltz : (k : Int) < 7 := by omega
     have ix := ix63 d x3 x4 x5 x6 x7 x8 k hlt
     have HS := hid (HR.out.trans (nm_step hlt))
     have hnm : nmL d x3 x4 x5 x6 x7 x8 = [d, x3, x4, x5, x6, x7, x8] := rfl
     rw [← hnm] at ix
     clear hnm HR
     generalize (nmL d x3 x4 x5 x6 x7 x8).getD k 0 = z at ix HS
     rcases hz : wdB z with _ | _
     ·have HV := hid hz
      have HR2 := hid (HS.out.trans (if_neg (by rw [hz]; simp)))
      clear hz HS
      go_wp2_with (first | (go_at_call 217; (with_reducible refine (level_ok z HV.out _).mono ?_); rintro e w3 ⟨rfl, rfl⟩) | fail)
      go_roundg (7 - (k + 1))
      case measure => omega
      case rel => exact ⟨k + 1, by omega, by omega, by go_num, HR2, BW⟩
     ·have HV := hid hz
      have HE := hid (HS.out.trans (if_pos hz))
      clear hz HS
      go_wp2_with (first | (go_at_call 217; (with_reducible refine (level_no z HV.out _).mono ?_); rintro e w3 ⟨rfl, rfl⟩) | fail)
      go_ret
      exact ⟨ret_i HE.out, BW.out⟩
    ·have hltz : ¬ (k : Int) < 7 := by omega
     have HE := hid (HR.out.trans (show chkNs ((nmL d x3 x4 x5 x6 x7 x8).drop k) = 0 by rw [List.drop_eq_nil_of_le (show (nmL d x3 x4 x5 x6 x7 x8).length ≤ k from by show 7 ≤ k; omega)]; rfl))
     go_wp2
     go_ret
     exact ⟨ret_i HE.out, BW.out⟩
  ·have HE := hid (HC.out.trans ((if_pos ha).trans (if_neg hb0)))
   have hbq : (b == 0) = false := by simpa using hb0
   subst ha
   clear HC
   go_enter Tryz.func204, Tryz.ntmps204
   go_wp2_with (first
    | (go_at_call 215; (with_reducible refine HU.out.mono ?_); rintro e w1 ⟨rfl, hb⟩; have B1 := hid (BA.out.trans (hb.mono BA.out.size)); have Y1 := hid (X0.out.below hb); clear hb c0 c1; have c1 := Y1.out.cell (i := 1) rfl)
    | (go_at_call 216; (with_reducible refine (HK.out _ B1.out).mono ?_); rintro e w2 ⟨rfl, hb⟩; have B2 := hid (B1.out.trans (hb.mono B1.out.size)); clear hb c1)
    | fail)
   go_ret
   exact ⟨ret_i HE.out, B2.out⟩
 ·have HE := hid (HC.out.trans (if_neg ha))
  have haq : (a == 0) = false := by simpa using ha
  clear HC
  go_enter Tryz.func204, Tryz.ntmps204
  go_wp2_with (first
   | (go_at_call 215; (with_reducible refine HU.out.mono ?_); rintro e w1 ⟨rfl, hb⟩; have B1 := hid (BA.out.trans (hb.mono BA.out.size)); clear hb c0 c1)
   | fail)
  go_ret
  exact ⟨ret_i HE.out, B1.out⟩
end Go.Proofs.YtablocpcgknmaaaGreatDoor
