/- The sample of the statements. No condition. -/
import Derived.Test.YtablocpcgknmaaaGreatDoorRPo
import Derived.Test.YtablocpcgknmaaaGreatDoorRV7T
import Derived.Great.Walk
namespace Go.Proofs.YtablocpcgknmaaaGreatDoor
open Go.Lib (hid)
open Go Go.RowKit
set_option linter.unusedVariables false
set_option linter.unusedSimpArgs false
set_option maxRecDepth 100000

def sB : ByteArray := ⟨#[115]⟩
def cS : Cn := ⟨⟨#[43]⟩, 0, 5, false, ⟨#[]⟩, [], [], [], [], 0, 0, 0, 0, 0, 0, 0⟩
def eS : Ew := ⟨0, ⟨#[33, 114, 58, 115]⟩, ⟨#[64, 97, 58, 115]⟩, 12, false, ⟨#[]⟩, 3, 2, [7], [4, 7], cS, 0, ⟨#[]⟩, 0⟩
def aS (n : Nat) : Aw := ⟨some ⟨n + 1, 0, none⟩, 1, some ⟨n + 2, 0, none⟩, 2, ad0⟩
theorem bC : Tryz.prog.built 30 [(0, .string ⟨#[43]⟩), (2, .int .i64 5)] = some (ccs cS ad0).toArray := by kernel_rfl
theorem bE (A B : Option Addr) : Tryz.prog.built 34 [(1, .string ⟨#[33, 114, 58, 115]⟩), (2, .string ⟨#[64, 97, 58, 115]⟩), (3, .int .i64 12), (6, .int .i64 3), (7, .int .i64 2), (8, .slice A 1 1), (9, .slice B 2 2), (10, .agg (ccs cS ad0).toArray)] = some (ecs eS ⟨A, 1, B, 2, ad0⟩).toArray := by kernel_rfl
theorem und23 : Tryz.prog.underlying 23 = some (.slice 3) := by kernel_rfl
theorem bs1 : Tryz.prog.builtSlice 3 1 [(0, .int .i64 7)] = some #[.int .i64 7] := by kernel_rfl
theorem bs2 : Tryz.prog.builtSlice 3 2 [(0, .int .i64 4), (1, .int .i64 7)] = some #[.int .i64 4, .int .i64 7] := by kernel_rfl
theorem cS_is (w : World) : IsC w cS ad0 := ⟨Txs.nil w, Txs.nil w, zero_isL w, by decide, by decide, i64_0, by unfold i64B; decide⟩
theorem ins_at {w : World} {b : Nat} {l : List Int} (h : Blk w b (l.map (Value.int .i64)) 3) (hl : l.length ≤ 100) (hf : ∀ z ∈ l, i64B z) : Ins w (some ⟨b, 0, none⟩) l.length l.length l := by
 refine ⟨⟨fun j hj => rfl, fun j hj u hu => ?_, by unfold maxLen; omega, fun e => (by cases e), .inr ⟨b, 0, rfl, h.lt, fun j hj i v hv => ?_⟩⟩, rfl, Nat.le_refl _, hf⟩
 ·unfold rowI at hu
  rw [List.mem_singleton] at hu
  rw [hu]; rfl
 ·have hi : i = 0 := by
   rcases Nat.eq_zero_or_pos i with h1 | h1
   ·exact h1
   ·rw [List.getElem?_eq_none (by unfold rowI; simp; omega)] at hv; cases hv
  subst hi
  rw [Nat.mul_one, Nat.zero_add, Nat.add_zero]
  refine h.cell ?_
  rw [List.getElem?_map, List.getElem?_eq_getElem hj]
  unfold rowI at hv
  rw [List.getD_eq_getElem?_getD, List.getElem?_eq_getElem hj] at hv
  exact hv
set_option maxHeartbeats 8000000 in
theorem sample42 (w : World) : Calls Tryz.prog 42 #[] w fun e w' => ∃ b, e = .returned (.agg (ecs eS b).toArray) ∧ IsE w' eS b ∧ Below w.heap.size w w' := by
 have BA := hid ((((Below.refl w.heap.size w).alloc (Nat.le_refl _) (.cells #[.int .i64 0, .string ⟨#[]⟩, .string ⟨#[]⟩, .int .i64 0, .bool false, .string ⟨#[]⟩, .int .i64 0, .int .i64 0, .slice none 0 0, .slice none 0 0, .string ⟨#[]⟩, .int .i64 0, .int .i64 0, .bool false, .string ⟨#[]⟩, .slice none 0 0, .slice none 0 0, .slice none 0 0, .slice none 0 0, .int .i64 0, .int .i64 0, .int .i64 0, .int .i64 0, .int .i64 0, .int .i64 0, .int .i64 0, .int .i64 0, .string ⟨#[]⟩, .int .i64 0] 34)).alloc (by simp) (.cells #[.int .i64 7] 3)).alloc (by simp; omega) (.cells #[.int .i64 4, .int .i64 7] 3))
 have R0 := hid (((blk_new w [.int .i64 0, .string ⟨#[]⟩, .string ⟨#[]⟩, .int .i64 0, .bool false, .string ⟨#[]⟩, .int .i64 0, .int .i64 0, .slice none 0 0, .slice none 0 0, .string ⟨#[]⟩, .int .i64 0, .int .i64 0, .bool false, .string ⟨#[]⟩, .slice none 0 0, .slice none 0 0, .slice none 0 0, .slice none 0 0, .int .i64 0, .int .i64 0, .int .i64 0, .int .i64 0, .int .i64 0, .int .i64 0, .int .i64 0, .int .i64 0, .string ⟨#[]⟩, .int .i64 0] 34).alloc (.cells #[.int .i64 7] 3)).alloc (.cells #[.int .i64 4, .int .i64 7] 3))
 have P0 := hid ((blk_new2 w (.cells #[.int .i64 0, .string ⟨#[]⟩, .string ⟨#[]⟩, .int .i64 0, .bool false, .string ⟨#[]⟩, .int .i64 0, .int .i64 0, .slice none 0 0, .slice none 0 0, .string ⟨#[]⟩, .int .i64 0, .int .i64 0, .bool false, .string ⟨#[]⟩, .slice none 0 0, .slice none 0 0, .slice none 0 0, .slice none 0 0, .int .i64 0, .int .i64 0, .int .i64 0, .int .i64 0, .int .i64 0, .int .i64 0, .int .i64 0, .int .i64 0, .string ⟨#[]⟩, .int .i64 0] 34) [.int .i64 7] 3).alloc (.cells #[.int .i64 4, .int .i64 7] 3))
 have Q0 := hid (show Blk (((w.alloc (.cells #[.int .i64 0, .string ⟨#[]⟩, .string ⟨#[]⟩, .int .i64 0, .bool false, .string ⟨#[]⟩, .int .i64 0, .int .i64 0, .slice none 0 0, .slice none 0 0, .string ⟨#[]⟩, .int .i64 0, .int .i64 0, .bool false, .string ⟨#[]⟩, .slice none 0 0, .slice none 0 0, .slice none 0 0, .slice none 0 0, .int .i64 0, .int .i64 0, .int .i64 0, .int .i64 0, .int .i64 0, .int .i64 0, .int .i64 0, .int .i64 0, .string ⟨#[]⟩, .int .i64 0] 34)).alloc (.cells #[.int .i64 7] 3)).alloc (.cells #[.int .i64 4, .int .i64 7] 3)) (w.heap.size + 2) [.int .i64 4, .int .i64 7] 3 by simpa using blk_new ((w.alloc (.cells #[.int .i64 0, .string ⟨#[]⟩, .string ⟨#[]⟩, .int .i64 0, .bool false, .string ⟨#[]⟩, .int .i64 0, .int .i64 0, .slice none 0 0, .slice none 0 0, .string ⟨#[]⟩, .int .i64 0, .int .i64 0, .bool false, .string ⟨#[]⟩, .slice none 0 0, .slice none 0 0, .slice none 0 0, .slice none 0 0, .int .i64 0, .int .i64 0, .int .i64 0, .int .i64 0, .int .i64 0, .int .i64 0, .int .i64 0, .int .i64 0, .string ⟨#[]⟩, .int .i64 0] 34)).alloc (.cells #[.int .i64 7] 3)) [.int .i64 4, .int .i64 7] 3)
 go_enter Tryz.func42, Tryz.ntmps42
 go_wp2_with (first
  | (refine Great.wpList_buildSliceTo rfl 23 3 1 _ rfl (w.heap.size + 1) (by simp) (some 1) rfl und23 #[.int .i64 7] bs1 ?_)
  | (refine Great.wpList_buildSliceTo rfl 23 3 2 _ rfl (w.heap.size + 2) (by simp) (some 2) rfl und23 #[.int .i64 4, .int .i64 7] bs2 ?_)
  | (refine Great.wpList_buildTo rfl 30 _ rfl (some 3) rfl (ccs cS ad0).toArray bC ?_)
  | (refine Great.wpList_buildTo rfl 34 _ rfl (some 4) rfl (ecs eS (aS w.heap.size)).toArray (bE _ _) ?_)
  | (refine store_mid_as rfl 34 _ _ rfl w.heap.size 0 (ecs eS (aS w.heap.size)).toArray rfl rfl (Blk.there (n := 29) R0.out (Nat.le_refl 29)) size34 (ecs_one _ _) ?_; intro wz ez; have EZ := hid ez; clear ez)
  | fail)
 (try simp only [Exit.inBlock, Exit.then])
 refine bodyPost_ret (results_cell_mid rfl _ _ w.heap.size (ecs eS (aS w.heap.size)) 34 _ rfl (by rw [EZ.out]; exact Blk.setAll R0.out _ rfl) Tryz.underlying34 rfl size34) rfl ?_
 rw [EZ.out]
 have P1 := P0.out.otherAll w.heap.size 0 (ecs eS (aS w.heap.size)).toArray.toList (by omega)
 have Q1 := Q0.out.otherAll w.heap.size 0 (ecs eS (aS w.heap.size)).toArray.toList (by omega)
 exact ⟨aS w.heap.size, rfl, ⟨ins_at (l := [7]) P1 (by decide) (all1 (by unfold i64B; decide)), ins_at (l := [4, 7]) Q1 (by decide) (all2 (by unfold i64B; decide) (by unfold i64B; decide)), cS_is _, by decide, by decide, by decide, by decide, i64_0, by unfold i64B; decide, by unfold i64B; decide, by unfold i64B; decide, i64_0, i64_0⟩, below_setAll (Nat.le_refl _) _ _ _ BA.out⟩
end Go.Proofs.YtablocpcgknmaaaGreatDoor
namespace Go.Proofs.YtablocpcgknmaaaGreatDoor
open Go Go.RowKit
set_option linter.unusedVariables false
set_option linter.unusedSimpArgs false
set_option maxRecDepth 100000

theorem eS_smz : SmZ eS := ⟨by decide, by decide, by decide, by decide, by decide, by decide, ⟨by decide, by decide, by decide, fun s hs => (by cases hs), by decide, fun s hs => (by cases hs), ⟨by decide, by decide, fun s hs => (by cases hs)⟩⟩⟩
/-- What lives needs of the signed sample. -/
structure SgS (S : Ew) : Prop where
 z : SmZ S
 w : whoB S = true
 wg : whoB (strE S) = false
 tx : ((strE S).c.tx.toList == []) = true
 rI : rcvI S = 0
 rE : rcvE S = S
 t2 : (S.c.tx.toList == (⟨#[43]⟩ : ByteArray).toList) = true
 vg : verI (strE S) false = 0
 ln : 10 < (encE S).length
theorem sgn_who (E : Ew) (s : ByteArray) : whoB (sgnE E s) = true := beq_self_eq_true (hshE E)
theorem sgn_id (E : Ew) (s : ByteArray) : idE (sgnE E s) = (sgnE E s).id := rfl
theorem str_id (E : Ew) : idE (strE E) = idE E := by
 unfold idE
 have : bareE (strE E) = bareE E := by
  unfold bareE strE Ew.wc
  rw [strip_strip]
 rw [this]
theorem sgn_smz {E : Ew} {s : ByteArray} (h : SmZ E) (hs : s.size ≤ 1000) : SmZ (sgnE E s) := ⟨h.rm, h.sd, h.ky, hs, h.pv, h.au, h.c⟩
theorem ver_str {E : Ew} (hc : chk7 (strE E) = 0) (hi : idE E = E.id) (hs : sigB E = true) (b : Bool) : verI (strE E) b = 0 := by
 unfold verI
 rw [if_neg (fun h => h hc), str_id]
 have h1 : sameC (strip (strE E).kd (strE E).c) (strE E).c = true := by
  show sameC (strip E.kd (strip E.kd E.c)) (strip E.kd E.c) = true
  rw [strip_strip, sameC_refl]
 rw [h1, if_neg (by cases b <;> decide), if_neg (by rw [show idE E = (strE E).id from hi, beq_self_eq_true]; decide)]
 exact if_neg (by rw [show sigB (strE E) = sigB E from rfl, hs]; decide)
theorem ver_ok {E : Ew} (hc : chk7 E = 0) (hi : idE E = E.id) (hs : sigB E = true) : verI E true = 0 := by
 unfold verI
 rw [if_neg (fun h => h hc), if_neg (show ¬ (!true && !sameC (strip E.kd E.c) E.c) = true from fun h => by cases h), if_neg (by rw [hi, beq_self_eq_true]; decide)]
 exact if_neg (by rw [hs]; decide)
end Go.Proofs.YtablocpcgknmaaaGreatDoor
namespace Go.Proofs.YtablocpcgknmaaaGreatDoor
open Go Go.RowKit
set_option linter.unusedVariables false
set_option linter.unusedSimpArgs false
set_option maxRecDepth 100000


theorem cS_on : onB 12 cS = true := by
 unfold onB
 rw [Lib.toList_data, Lib.toList_data]
 kernel_rfl
theorem cS_ne : sameC cS c0 = false := by
 unfold sameC
 rw [decide_eq_false (show ¬ cS.tx = c0.tx from fun h => absurd (congrArg ByteArray.size h) (by decide))]
 rfl
theorem cS_rchk : rchk 12 cS = 0 := by
 unfold rchk
 rw [if_neg (by rw [show kdB 12 = true by kernel_rfl]; decide), if_neg (by rw [cS_on]; decide), if_neg (by rw [cS_ne]; intro h; cases h.2), if_neg (fun h => h (show txE 12 cS.tx = 0 by kernel_rfl)), if_neg (fun h => h (show nmR 12 cS.n = 0 by kernel_rfl)), if_neg (fun h => h (show tgR 12 cS.tg cS.th = 0 by kernel_rfl)), if_neg (fun h => h (show viE cS.n cS.via = 0 by kernel_rfl)), if_neg (by decide), if_neg (fun h => h (show chkP cS.al = 0 by kernel_rfl)), if_neg (fun h => h (show chkP cS.dn = 0 by kernel_rfl))]
 kernel_rfl
theorem c0_rchk : rchk 12 c0 = 0 := by
 unfold rchk
 rw [if_neg (by rw [show kdB 12 = true by kernel_rfl]; decide), if_neg (by
  rw [show onB 12 c0 = true by
   unfold onB
   rw [Lib.toList_data, Lib.toList_data]
   kernel_rfl]
  decide), if_pos ⟨by kernel_rfl, sameC_refl c0⟩]
theorem frm_S (E : Ew) (hr : E.rm = eS.rm) (hs : E.sd = eS.sd) (hk : E.kd = 12) (ht : E.st = false) (hy : E.ky = eS.ky) (hm : E.tm = 3) (hd : E.dp = 2) (hp : E.pv = [7]) (ha : E.au = [4, 7]) : frmI E = 0 := by
 unfold frmI
 rw [show fr1 E = false by unfold fr1; rw [hk, ht]; kernel_rfl, show fr2 E = false by unfold fr2 eyB; rw [hk, hy, Lib.toList_data]; kernel_rfl, show nmdB E = true by unfold nmdB; rw [hr, hs, hk, hy]; kernel_rfl, show fr3 E = false by unfold fr3; rw [hm, hd]; kernel_rfl, hp, ha, hk]
 kernel_rfl
theorem eS_chk (E : Ew) (hf : frmI E = 0) (hk : E.kd = 12) (hc : E.c = cS ∨ E.c = c0) : chk7 E = 0 := by
 unfold chk7
 rw [if_pos hf, hk]
 rcases hc with h | h
 ·rw [h]; exact cS_rchk
 ·rw [h]; exact c0_rchk
theorem cS_strip : strip 12 cS = c0 := by kernel_rfl
theorem encC_c0 : encC c0 = [0,0,0,0,0,0,0,0,0,0,0,0,0,0,0,0] := by kernel_rfl
theorem encC_cS : encC cS = [2,43,0,10,0,0,0,0,0,0,0,0,0,0,0,0,0] := by kernel_rfl
theorem sums_ne : (sumI [0,0,0,0,0,0,0,0,0,0,0,0,0,0,0,0] == sumI [2,43,0,10,0,0,0,0,0,0,0,0,0,0,0,0,0]) = false := by kernel_rfl
theorem sgS : SgS (sgnE eS sB) := by
 have hw := sgn_who eS sB
 have hc : chk7 (sgnE eS sB) = 0 := eS_chk _ (frm_S _ rfl rfl rfl rfl rfl rfl rfl rfl rfl) rfl (.inl rfl)
 have hg : chk7 (strE (sgnE eS sB)) = 0 := eS_chk _ (frm_S _ rfl rfl rfl rfl rfl rfl rfl rfl rfl) rfl (.inr cS_strip)
 have hs : sigB (sgnE eS sB) = true := by
  unfold sigB
  rw [show srvA (sgnE eS sB).sd = sB from (by kernel_rfl : srvA eS.sd = sB), show ((sgnE eS sB).sm == (sgnE eS sB).id) = true from beq_self_eq_true _]
  exact (by rw [show (sgnE eS sB).sv = sB from rfl, beq_self_eq_true]; rfl)
 have hr : rcvI (sgnE eS sB) = 0 := by
  unfold rcvI
  rw [kpt_t hw, hw]
  exact ver_ok hc (sgn_id _ _) hs
 have hg2 : whoB (strE (sgnE eS sB)) = false := by
  show (sumI (encC (strip 12 cS)) == sumI (encC cS)) = false
  rw [cS_strip, encC_c0, encC_cS]
  exact sums_ne
 have ht : ((strE (sgnE eS sB)).c.tx.toList == []) = true := by
  show ((strip 12 cS).tx.toList == []) = true
  rw [cS_strip, Lib.toList_data]
  rfl
 have hl : 10 < (encE (sgnE eS sB)).length := by
  unfold encE
  simp only [List.length_append]
  have h1 : (Cd.ent (sgnE eS sB).rm).length = 5 := (by kernel_rfl : (Cd.ent eS.rm).length = 5)
  have h2 : (Cd.ent (sgnE eS sB).sd).length = 5 := (by kernel_rfl : (Cd.ent eS.sd).length = 5)
  have h3 : ([if (sgnE eS sB).st then (1 : Int) else 0]).length = 1 := rfl
  omega
 exact ⟨sgn_smz eS_smz (by decide), hw, hg2, ht, hr, by unfold rcvE; rw [if_pos hr, kpt_t hw], beq_self_eq_true _, ver_str hg (sgn_id _ _) hs false, hl⟩
end Go.Proofs.YtablocpcgknmaaaGreatDoor
