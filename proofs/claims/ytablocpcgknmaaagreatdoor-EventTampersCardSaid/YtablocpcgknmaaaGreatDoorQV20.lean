/- One field changed. No condition. -/
import Derived.Test.YtablocpcgknmaaaGreatDoorQPh
import Derived.Test.YtablocpcgknmaaaGreatDoorQPn
namespace Go.Proofs.YtablocpcgknmaaaGreatDoor
open Go.Lib (hid)
open Go Go.RowKit
set_option linter.unusedVariables false
set_option linter.unusedSimpArgs false
set_option maxRecDepth 100000

/-- What comes of changed: another event with the same id. -/
def ChP (E : Ew) (w : World) (e : Ending) (w' : World) : Prop := ∃ F b, e = .returned (.agg (ecs F b).toArray) ∧ IsE w' F b ∧ SmZ F ∧ F.id = E.id ∧ Below w.heap.size w w'
theorem mvS {P : Program} {ops : Array Oper} {Q : Exit → Act → World → Prop} {md : Region.Mode} {S : World → Prop} (rs : List Nat) {fuel : Nat} {listed : Array Bool} {a : Act} {w : World} (h : AllReadyH P md ops Q S fuel listed a w rs) (hr : Region.ready md ops listed = rs := by kernel_rfl) (hne : rs ≠ [] := by simp) : wpAnyH P md ops Q S (fuel + 1) listed a w := wpAnyH_ready hr hne h
theorem mvC {P : Program} {ops : Array Oper} {Q : Exit → Act → World → Prop} {md : Region.Mode} {S : World → Prop} {fuel : Nat} {listed : Array Bool} {a : Act} {w : World} {i : Nat} {o : Oper} {rs : List Nat} (ho : ops.toList[i]? = some o)
  (h : ∀ K' : Act → World → Prop, Shut (∀ a w, S w → (S w → wpAnyH P md ops Q S fuel (listed.setIfInBounds i true) a w) → K' a w) → if Region.wanted o (yielded ops a.tmps) = true then Oper.wp P o a w K' Q else K' (a.put o.dst undef) w)
  (hs : AllReadyH P md ops Q S fuel listed a w rs) : AllReadyH P md ops Q S fuel listed a w (i :: rs) := AllReadyH.cons ((Array.getElem?_toList).symm.trans ho) h hs
theorem xor_in (x y : Int) : i64B (bits .xor .i64 x y) := by
 show i64B (IntKind.i64.wrap _)
 rw [IntKind.wrap_i64]
 unfold i64B
 omega
theorem flat_int (zs : List Int) : flat zs.length (rowI zs) = zs.map (Value.int .i64) := by
 refine List.ext_getElem? (fun i => ?_)
 by_cases hi : i < zs.length
 ·have := flat_get (n := zs.length) (sz := 1) (L := rowI zs) (fun j hj => rfl) hi (show 0 < 1 by decide)
  rw [Nat.mul_one, Nat.add_zero] at this
  rw [this, List.getElem?_map, List.getElem?_eq_getElem hi]
  unfold rowI
  rw [List.getD_eq_getElem?_getD, List.getElem?_eq_getElem hi]
  rfl
 ·rw [List.getElem?_eq_none (by rw [flat_len (sz := 1) (fun j hj => rfl)]; omega), List.getElem?_eq_none (by rw [List.length_map]; omega)]
theorem flat_snoc (zs : List Int) (z : Int) : flat (zs ++ [z]).length (rowI (zs ++ [z])) = flat zs.length (rowI zs) ++ [.int .i64 z] := by
 rw [flat_int, flat_int, List.map_append]
 rfl
theorem own_ins {w : World} {B : Nat} {A : Option Addr} {c : Nat} {xs : List Int} (h : w.ownsRow B 3 1 (.slice A xs.length c) xs.length (flat xs.length (rowI xs))) (hl : xs.length ≤ 1000) (hf : ∀ z ∈ xs, i64B z) : Ins w A xs.length c xs := by
 refine ⟨own_rows h (fun j hj => rfl) (fun j hj u hu => by unfold rowI at hu; rw [List.mem_singleton] at hu; rw [hu]; rfl) (by unfold maxLen; omega), rfl, ?_, hf⟩
 rcases h.2 with ⟨hv, h1⟩ | ⟨g, cap, cur, hv, _, _, hnc, _⟩
 ·omega
 ·simp only [Value.slice.injEq, true_and] at hv
  rw [hv.2]; exact hnc
theorem own_new {w : World} {B : Nat} {A : Option Addr} {n c : Nat} {vs : List Value} (h : w.ownsRow B 3 1 (.slice A n c) n vs) : ∀ b off, A = some ⟨b, off, none⟩ → B ≤ b := fun b off e => (h.lt b (by rw [e]; rfl)).1
theorem blk_src1 {w : World} {g : Nat} {z : Int} (h : Blk w g [.int .i64 z] 3) : Src w (some ⟨g, 0, none⟩) 1 1 1 [.int .i64 z] :=
 ⟨rfl, (fun e => by cases e), .inr ⟨g, 0, rfl, h.lt, fun j u hu => by rw [Nat.zero_add]; exact h.cell hu⟩, by simp [Value.oneCell']⟩
theorem stepV {P : Program} {ops : Array Oper} {o : Oper} {a : Act} {y : World} {K : Act → World → Prop} {Q : Exit → Act → World → Prop} {E : Prop} (hw : Region.wanted o (yielded ops a.tmps) = true) (h : Oper.wp P o a y K Q) : if Region.wanted o (yielded ops a.tmps) = true then Oper.wp P o a y K Q else E := by
 rw [if_pos hw]; exact h
theorem wp_storeV {P : Program} {op : Oper} {a : Act} {w : World} {K : Act → World → Prop} {Q : Exit → Act → World → Prop} (ty : TypeId) (x y : Operand) (ho : op.op = .store ty x y)
  (t i : Nat) (v : Value) (cs : List Value) (T : TypeId) (hx : a.eval x = .pointer (some ⟨t, i, none⟩)) (hy : a.eval y = v) (hb : Blk w t cs T) (hi : i < cs.length) (hs : (P.info? ty).map (·.size) = some 1) (hv : v.oneCell' = true)
  (h : K (a.put op.dst undef) (w.setCell ⟨t, i, none⟩ v)) : op.wp P a w K Q := by
 unfold Oper.wp execOp
 simp only [ho, hx, hy, run_storeAt_one w t i ty v hb hi hs hv, Sem.run_bind, Sem.run_pure, Result.andThen_ok]
 exact h
theorem app_x {s : ByteArray} (h : s.size ≤ 100) : (s ++ (⟨#[120]⟩ : ByteArray)).size ≤ 1000 := by
 rw [ByteArray.size_append]
 show s.size + 1 ≤ 1000
 omega
set_option maxHeartbeats 8000000 in
theorem changed_tm (E : Ew) (a : Aw) (fd by' : Int) (w : World) (h : IsE w E a) (hs : SmX E) (c0 : ((IntKind.u64.wrap fd).tmod 7 == 0) = true) : Calls Tryz.prog 33 #[.agg (ecs E a).toArray, .agg #[.int .i64 fd, .int .i64 by']] w (ChP E w) := by
 have BA := hid ((((Below.refl w.heap.size w).alloc (Nat.le_refl _) (.cells (ecs E a).toArray 34)).alloc (by simp) (.cells #[.int .i64 fd, .int .i64 by'] 49)).alloc (by simp; omega) (.cells z29.toArray 34))
 have X0 := hid (((blk_new w (ecs E a) 34).alloc (.cells #[.int .i64 fd, .int .i64 by'] 49)).alloc (.cells z29.toArray 34))
 have Y0 := hid ((blk_new2 w (.cells (ecs E a).toArray 34) [.int .i64 fd, .int .i64 by'] 49).alloc (.cells z29.toArray 34))
 have R0 := hid (show Blk (((w.alloc (.cells (ecs E a).toArray 34)).alloc (.cells #[.int .i64 fd, .int .i64 by'] 49)).alloc (.cells z29.toArray 34)) (w.heap.size + 1 + 1) z29 34 by simpa using blk_new ((w.alloc (.cells (ecs E a).toArray 34)).alloc (.cells #[.int .i64 fd, .int .i64 by'] 49)) z29 34)
 have HE := hid h
 have HS := hid hs
 have AP := hid (h.ap (Nat.le_refl w.heap.size))
 have AP2 := hid (h.ap (show w.heap.size ≤ w.heap.size + 1 + 1 by omega))
 generalize hW0 : ((w.alloc (.cells (ecs E a).toArray 34)).alloc (.cells #[.int .i64 fd, .int .i64 by'] 49)).alloc (.cells z29.toArray 34) = W0 at BA X0 Y0 R0
 have I0 := hid (HE.out.below BA.out)
 clear h hs
 dsimp only [ecs, z29] at hW0 ⊢
 have p0 := Y0.out.cell (i := 0) rfl
 have p1 := Y0.out.cell (i := 1) rfl
 have px := X0.out.cell (i := 6) rfl
 go_enter Tryz.func33, Tryz.ntmps33
 go_upto_region 15 with (first
  | (refine store_oneE rfl 3 _ _ rfl w.heap.size 6 (.int .i64 _) (ecs E a) 34 rfl rfl X0.out (show (6 : Nat) < 29 by decide) sz3 rfl ?_; intro u1 eu; obtain ⟨z, hz, eu⟩ : ∃ z, i64B z ∧ u1 = W0.setCell ⟨w.heap.size, 6, none⟩ (.int .i64 z) := ⟨_, xor_in _ _, eu⟩; have HZ := hid hz; have X1 := hid (show Blk u1 w.heap.size (ecs { E with tm := z } a) 34 by rw [eu]; exact X0.out.set 6 _); have R1 := hid (show Blk u1 (w.heap.size + 1 + 1) z29 34 by rw [eu]; exact R0.out.other ⟨w.heap.size, 6, none⟩ _ (by show w.heap.size + 1 + 1 ≠ w.heap.size; omega)); have I1 := hid (show IsE u1 { E with tm := z } a by rw [eu]; exact { I0.out.oneE w.heap.size 6 _ AP.out with tm := hz }); have B1 := hid (show Below w.heap.size w u1 by rw [eu]; exact BA.out.setCell (p := ⟨w.heap.size, 6, none⟩) (Nat.le_refl _) _); clear eu hz)
  | fail)
 go_wp2_with (first
  | (refine wpList_load_mid rfl 34 _ rfl w.heap.size 0 rfl (ecs { E with tm := z } a) _ X1.out.range Tryz.underlying34 rfl size34 ?_)
  | (refine store_mid_as rfl 34 _ _ rfl (w.heap.size + 1 + 1) 0 (ecs { E with tm := z } a).toArray rfl rfl (Blk.there (n := 29) R1.out (Nat.le_refl 29)) size34 (ecs_one _ _) ?_; intro wz ez; have EZ := hid ez; clear ez)
  | fail)
 (try simp only [Exit.inBlock, Exit.then])
 refine bodyPost_ret (results_cell_mid rfl _ _ (w.heap.size + 1 + 1) (ecs { E with tm := z } a) 34 _ rfl (by rw [EZ.out]; exact Blk.setAll R1.out _ rfl) Tryz.underlying34 rfl size34) rfl ?_
 rw [EZ.out]
 exact ⟨{ E with tm := z }, a, rfl, I1.out.otherE _ _ _ (⟨AP2.out.pv, AP2.out.au, AP2.out.c⟩), ⟨HS.out.z.rm, HS.out.z.sd, HS.out.z.ky, HS.out.z.sv, HS.out.z.pv, HS.out.z.au, HS.out.z.c⟩, rfl, below_setAll (show w.heap.size ≤ w.heap.size + 1 + 1 by omega) _ _ _ B1.out⟩
set_option maxHeartbeats 8000000 in
theorem changed_dp (E : Ew) (a : Aw) (fd by' : Int) (w : World) (h : IsE w E a) (hs : SmX E) (c0 : ((IntKind.u64.wrap fd).tmod 7 == 0) = false) (c1 : ((IntKind.u64.wrap fd).tmod 7 == 1) = true) : Calls Tryz.prog 33 #[.agg (ecs E a).toArray, .agg #[.int .i64 fd, .int .i64 by']] w (ChP E w) := by
 have BA := hid ((((Below.refl w.heap.size w).alloc (Nat.le_refl _) (.cells (ecs E a).toArray 34)).alloc (by simp) (.cells #[.int .i64 fd, .int .i64 by'] 49)).alloc (by simp; omega) (.cells z29.toArray 34))
 have X0 := hid (((blk_new w (ecs E a) 34).alloc (.cells #[.int .i64 fd, .int .i64 by'] 49)).alloc (.cells z29.toArray 34))
 have Y0 := hid ((blk_new2 w (.cells (ecs E a).toArray 34) [.int .i64 fd, .int .i64 by'] 49).alloc (.cells z29.toArray 34))
 have R0 := hid (show Blk (((w.alloc (.cells (ecs E a).toArray 34)).alloc (.cells #[.int .i64 fd, .int .i64 by'] 49)).alloc (.cells z29.toArray 34)) (w.heap.size + 1 + 1) z29 34 by simpa using blk_new ((w.alloc (.cells (ecs E a).toArray 34)).alloc (.cells #[.int .i64 fd, .int .i64 by'] 49)) z29 34)
 have HE := hid h
 have HS := hid hs
 have AP := hid (h.ap (Nat.le_refl w.heap.size))
 have AP2 := hid (h.ap (show w.heap.size ≤ w.heap.size + 1 + 1 by omega))
 generalize hW0 : ((w.alloc (.cells (ecs E a).toArray 34)).alloc (.cells #[.int .i64 fd, .int .i64 by'] 49)).alloc (.cells z29.toArray 34) = W0 at BA X0 Y0 R0
 have I0 := hid (HE.out.below BA.out)
 clear h hs
 dsimp only [ecs, z29] at hW0 ⊢
 have p0 := Y0.out.cell (i := 0) rfl
 have p1 := Y0.out.cell (i := 1) rfl
 have px := X0.out.cell (i := 7) rfl
 go_enter Tryz.func33, Tryz.ntmps33
 go_upto_region 15 with (first
  | (refine store_oneE rfl 3 _ _ rfl w.heap.size 7 (.int .i64 _) (ecs E a) 34 rfl rfl X0.out (show (7 : Nat) < 29 by decide) sz3 rfl ?_; intro u1 eu; obtain ⟨z, hz, eu⟩ : ∃ z, i64B z ∧ u1 = W0.setCell ⟨w.heap.size, 7, none⟩ (.int .i64 z) := ⟨_, xor_in _ _, eu⟩; have HZ := hid hz; have X1 := hid (show Blk u1 w.heap.size (ecs { E with dp := z } a) 34 by rw [eu]; exact X0.out.set 7 _); have R1 := hid (show Blk u1 (w.heap.size + 1 + 1) z29 34 by rw [eu]; exact R0.out.other ⟨w.heap.size, 7, none⟩ _ (by show w.heap.size + 1 + 1 ≠ w.heap.size; omega)); have I1 := hid (show IsE u1 { E with dp := z } a by rw [eu]; exact { I0.out.oneE w.heap.size 7 _ AP.out with dp := hz }); have B1 := hid (show Below w.heap.size w u1 by rw [eu]; exact BA.out.setCell (p := ⟨w.heap.size, 7, none⟩) (Nat.le_refl _) _); clear eu hz)
  | fail)
 go_wp2_with (first
  | (refine wpList_load_mid rfl 34 _ rfl w.heap.size 0 rfl (ecs { E with dp := z } a) _ X1.out.range Tryz.underlying34 rfl size34 ?_)
  | (refine store_mid_as rfl 34 _ _ rfl (w.heap.size + 1 + 1) 0 (ecs { E with dp := z } a).toArray rfl rfl (Blk.there (n := 29) R1.out (Nat.le_refl 29)) size34 (ecs_one _ _) ?_; intro wz ez; have EZ := hid ez; clear ez)
  | fail)
 (try simp only [Exit.inBlock, Exit.then])
 refine bodyPost_ret (results_cell_mid rfl _ _ (w.heap.size + 1 + 1) (ecs { E with dp := z } a) 34 _ rfl (by rw [EZ.out]; exact Blk.setAll R1.out _ rfl) Tryz.underlying34 rfl size34) rfl ?_
 rw [EZ.out]
 exact ⟨{ E with dp := z }, a, rfl, I1.out.otherE _ _ _ (⟨AP2.out.pv, AP2.out.au, AP2.out.c⟩), ⟨HS.out.z.rm, HS.out.z.sd, HS.out.z.ky, HS.out.z.sv, HS.out.z.pv, HS.out.z.au, HS.out.z.c⟩, rfl, below_setAll (show w.heap.size ≤ w.heap.size + 1 + 1 by omega) _ _ _ B1.out⟩
set_option maxHeartbeats 8000000 in
theorem changed_rm (E : Ew) (a : Aw) (fd by' : Int) (w : World) (h : IsE w E a) (hs : SmX E) (c0 : ((IntKind.u64.wrap fd).tmod 7 == 0) = false) (c1 : ((IntKind.u64.wrap fd).tmod 7 == 1) = false) (c2 : ((IntKind.u64.wrap fd).tmod 7 == 2) = true) : Calls Tryz.prog 33 #[.agg (ecs E a).toArray, .agg #[.int .i64 fd, .int .i64 by']] w (ChP E w) := by
 have BA := hid ((((Below.refl w.heap.size w).alloc (Nat.le_refl _) (.cells (ecs E a).toArray 34)).alloc (by simp) (.cells #[.int .i64 fd, .int .i64 by'] 49)).alloc (by simp; omega) (.cells z29.toArray 34))
 have X0 := hid (((blk_new w (ecs E a) 34).alloc (.cells #[.int .i64 fd, .int .i64 by'] 49)).alloc (.cells z29.toArray 34))
 have Y0 := hid ((blk_new2 w (.cells (ecs E a).toArray 34) [.int .i64 fd, .int .i64 by'] 49).alloc (.cells z29.toArray 34))
 have R0 := hid (show Blk (((w.alloc (.cells (ecs E a).toArray 34)).alloc (.cells #[.int .i64 fd, .int .i64 by'] 49)).alloc (.cells z29.toArray 34)) (w.heap.size + 1 + 1) z29 34 by simpa using blk_new ((w.alloc (.cells (ecs E a).toArray 34)).alloc (.cells #[.int .i64 fd, .int .i64 by'] 49)) z29 34)
 have HE := hid h
 have HS := hid hs
 have AP := hid (h.ap (Nat.le_refl w.heap.size))
 have AP2 := hid (h.ap (show w.heap.size ≤ w.heap.size + 1 + 1 by omega))
 generalize hW0 : ((w.alloc (.cells (ecs E a).toArray 34)).alloc (.cells #[.int .i64 fd, .int .i64 by'] 49)).alloc (.cells z29.toArray 34) = W0 at BA X0 Y0 R0
 have I0 := hid (HE.out.below BA.out)
 clear h hs
 dsimp only [ecs, z29] at hW0 ⊢
 have p0 := Y0.out.cell (i := 0) rfl
 have p1 := Y0.out.cell (i := 1) rfl
 have px := X0.out.cell (i := 1) rfl
 have hcat : ¬ (9223372036854775807 < E.rm.size + 1) := by have := HS.out.rm; omega
 go_enter Tryz.func33, Tryz.ntmps33
 go_upto_region 15 with (first
  | (refine store_oneE rfl 9 _ _ rfl w.heap.size 1 (.string _) (ecs E a) 34 rfl rfl X0.out (show (1 : Nat) < 29 by decide) sz9 rfl ?_; intro u1 eu; obtain ⟨z, hz, eu⟩ : ∃ z, z.size ≤ 1000 ∧ u1 = W0.setCell ⟨w.heap.size, 1, none⟩ (.string z) := ⟨_, app_x HS.out.rm, eu⟩; have HZ := hid hz; have X1 := hid (show Blk u1 w.heap.size (ecs { E with rm := z } a) 34 by rw [eu]; exact X0.out.set 1 _); have R1 := hid (show Blk u1 (w.heap.size + 1 + 1) z29 34 by rw [eu]; exact R0.out.other ⟨w.heap.size, 1, none⟩ _ (by show w.heap.size + 1 + 1 ≠ w.heap.size; omega)); have I1 := hid (show IsE u1 { E with rm := z } a by rw [eu]; exact { I0.out.oneE w.heap.size 1 _ AP.out with rm := (Nat.le_trans hz (by decide)) }); have B1 := hid (show Below w.heap.size w u1 by rw [eu]; exact BA.out.setCell (p := ⟨w.heap.size, 1, none⟩) (Nat.le_refl _) _); clear eu hz)
  | fail)
 go_wp2_with (first
  | (refine wpList_load_mid rfl 34 _ rfl w.heap.size 0 rfl (ecs { E with rm := z } a) _ X1.out.range Tryz.underlying34 rfl size34 ?_)
  | (refine store_mid_as rfl 34 _ _ rfl (w.heap.size + 1 + 1) 0 (ecs { E with rm := z } a).toArray rfl rfl (Blk.there (n := 29) R1.out (Nat.le_refl 29)) size34 (ecs_one _ _) ?_; intro wz ez; have EZ := hid ez; clear ez)
  | fail)
 (try simp only [Exit.inBlock, Exit.then])
 refine bodyPost_ret (results_cell_mid rfl _ _ (w.heap.size + 1 + 1) (ecs { E with rm := z } a) 34 _ rfl (by rw [EZ.out]; exact Blk.setAll R1.out _ rfl) Tryz.underlying34 rfl size34) rfl ?_
 rw [EZ.out]
 exact ⟨{ E with rm := z }, a, rfl, I1.out.otherE _ _ _ (⟨AP2.out.pv, AP2.out.au, AP2.out.c⟩), ⟨HZ.out, HS.out.z.sd, HS.out.z.ky, HS.out.z.sv, HS.out.z.pv, HS.out.z.au, HS.out.z.c⟩, rfl, below_setAll (show w.heap.size ≤ w.heap.size + 1 + 1 by omega) _ _ _ B1.out⟩
set_option maxHeartbeats 8000000 in
theorem changed_hs (E : Ew) (a : Aw) (fd by' : Int) (w : World) (h : IsE w E a) (hs : SmX E) (c0 : ((IntKind.u64.wrap fd).tmod 7 == 0) = false) (c1 : ((IntKind.u64.wrap fd).tmod 7 == 1) = false) (c2 : ((IntKind.u64.wrap fd).tmod 7 == 2) = false) (c3 : ((IntKind.u64.wrap fd).tmod 7 == 3) = false) (c4 : ((IntKind.u64.wrap fd).tmod 7 == 4) = false) (c5 : ((IntKind.u64.wrap fd).tmod 7 == 5) = true) : Calls Tryz.prog 33 #[.agg (ecs E a).toArray, .agg #[.int .i64 fd, .int .i64 by']] w (ChP E w) := by
 have BA := hid ((((Below.refl w.heap.size w).alloc (Nat.le_refl _) (.cells (ecs E a).toArray 34)).alloc (by simp) (.cells #[.int .i64 fd, .int .i64 by'] 49)).alloc (by simp; omega) (.cells z29.toArray 34))
 have X0 := hid (((blk_new w (ecs E a) 34).alloc (.cells #[.int .i64 fd, .int .i64 by'] 49)).alloc (.cells z29.toArray 34))
 have Y0 := hid ((blk_new2 w (.cells (ecs E a).toArray 34) [.int .i64 fd, .int .i64 by'] 49).alloc (.cells z29.toArray 34))
 have R0 := hid (show Blk (((w.alloc (.cells (ecs E a).toArray 34)).alloc (.cells #[.int .i64 fd, .int .i64 by'] 49)).alloc (.cells z29.toArray 34)) (w.heap.size + 1 + 1) z29 34 by simpa using blk_new ((w.alloc (.cells (ecs E a).toArray 34)).alloc (.cells #[.int .i64 fd, .int .i64 by'] 49)) z29 34)
 have HE := hid h
 have HS := hid hs
 have AP := hid (h.ap (Nat.le_refl w.heap.size))
 have AP2 := hid (h.ap (show w.heap.size ≤ w.heap.size + 1 + 1 by omega))
 generalize hW0 : ((w.alloc (.cells (ecs E a).toArray 34)).alloc (.cells #[.int .i64 fd, .int .i64 by'] 49)).alloc (.cells z29.toArray 34) = W0 at BA X0 Y0 R0
 have I0 := hid (HE.out.below BA.out)
 clear h hs
 dsimp only [ecs, z29] at hW0 ⊢
 have p0 := Y0.out.cell (i := 0) rfl
 have p1 := Y0.out.cell (i := 1) rfl
 have px := X0.out.cell (i := 26) rfl
 go_enter Tryz.func33, Tryz.ntmps33
 go_upto_region 15 with (first
  | (refine store_oneE rfl 3 _ _ rfl w.heap.size 26 (.int .i64 _) (ecs E a) 34 rfl rfl X0.out (show (26 : Nat) < 29 by decide) sz3 rfl ?_; intro u1 eu; obtain ⟨z, hz, eu⟩ : ∃ z, i64B z ∧ u1 = W0.setCell ⟨w.heap.size, 26, none⟩ (.int .i64 z) := ⟨_, xor_in _ _, eu⟩; have HZ := hid hz; have X1 := hid (show Blk u1 w.heap.size (ecs { E with hs := z } a) 34 by rw [eu]; exact X0.out.set 26 _); have R1 := hid (show Blk u1 (w.heap.size + 1 + 1) z29 34 by rw [eu]; exact R0.out.other ⟨w.heap.size, 26, none⟩ _ (by show w.heap.size + 1 + 1 ≠ w.heap.size; omega)); have I1 := hid (show IsE u1 { E with hs := z } a by rw [eu]; exact { I0.out.oneE w.heap.size 26 _ AP.out with hs := hz }); have B1 := hid (show Below w.heap.size w u1 by rw [eu]; exact BA.out.setCell (p := ⟨w.heap.size, 26, none⟩) (Nat.le_refl _) _); clear eu hz)
  | fail)
 go_wp2_with (first
  | (refine wpList_load_mid rfl 34 _ rfl w.heap.size 0 rfl (ecs { E with hs := z } a) _ X1.out.range Tryz.underlying34 rfl size34 ?_)
  | (refine store_mid_as rfl 34 _ _ rfl (w.heap.size + 1 + 1) 0 (ecs { E with hs := z } a).toArray rfl rfl (Blk.there (n := 29) R1.out (Nat.le_refl 29)) size34 (ecs_one _ _) ?_; intro wz ez; have EZ := hid ez; clear ez)
  | fail)
 (try simp only [Exit.inBlock, Exit.then])
 refine bodyPost_ret (results_cell_mid rfl _ _ (w.heap.size + 1 + 1) (ecs { E with hs := z } a) 34 _ rfl (by rw [EZ.out]; exact Blk.setAll R1.out _ rfl) Tryz.underlying34 rfl size34) rfl ?_
 rw [EZ.out]
 exact ⟨{ E with hs := z }, a, rfl, I1.out.otherE _ _ _ (⟨AP2.out.pv, AP2.out.au, AP2.out.c⟩), ⟨HS.out.z.rm, HS.out.z.sd, HS.out.z.ky, HS.out.z.sv, HS.out.z.pv, HS.out.z.au, HS.out.z.c⟩, rfl, below_setAll (show w.heap.size ≤ w.heap.size + 1 + 1 by omega) _ _ _ B1.out⟩
set_option maxHeartbeats 8000000 in
theorem changed_ky (E : Ew) (a : Aw) (fd by' : Int) (w : World) (h : IsE w E a) (hs : SmX E) (c0 : ((IntKind.u64.wrap fd).tmod 7 == 0) = false) (c1 : ((IntKind.u64.wrap fd).tmod 7 == 1) = false) (c2 : ((IntKind.u64.wrap fd).tmod 7 == 2) = false) (c3 : ((IntKind.u64.wrap fd).tmod 7 == 3) = false) (c4 : ((IntKind.u64.wrap fd).tmod 7 == 4) = false) (c5 : ((IntKind.u64.wrap fd).tmod 7 == 5) = false) : Calls Tryz.prog 33 #[.agg (ecs E a).toArray, .agg #[.int .i64 fd, .int .i64 by']] w (ChP E w) := by
 have BA := hid ((((Below.refl w.heap.size w).alloc (Nat.le_refl _) (.cells (ecs E a).toArray 34)).alloc (by simp) (.cells #[.int .i64 fd, .int .i64 by'] 49)).alloc (by simp; omega) (.cells z29.toArray 34))
 have X0 := hid (((blk_new w (ecs E a) 34).alloc (.cells #[.int .i64 fd, .int .i64 by'] 49)).alloc (.cells z29.toArray 34))
 have Y0 := hid ((blk_new2 w (.cells (ecs E a).toArray 34) [.int .i64 fd, .int .i64 by'] 49).alloc (.cells z29.toArray 34))
 have R0 := hid (show Blk (((w.alloc (.cells (ecs E a).toArray 34)).alloc (.cells #[.int .i64 fd, .int .i64 by'] 49)).alloc (.cells z29.toArray 34)) (w.heap.size + 1 + 1) z29 34 by simpa using blk_new ((w.alloc (.cells (ecs E a).toArray 34)).alloc (.cells #[.int .i64 fd, .int .i64 by'] 49)) z29 34)
 have HE := hid h
 have HS := hid hs
 have AP := hid (h.ap (Nat.le_refl w.heap.size))
 have AP2 := hid (h.ap (show w.heap.size ≤ w.heap.size + 1 + 1 by omega))
 generalize hW0 : ((w.alloc (.cells (ecs E a).toArray 34)).alloc (.cells #[.int .i64 fd, .int .i64 by'] 49)).alloc (.cells z29.toArray 34) = W0 at BA X0 Y0 R0
 have I0 := hid (HE.out.below BA.out)
 clear h hs
 dsimp only [ecs, z29] at hW0 ⊢
 have p0 := Y0.out.cell (i := 0) rfl
 have p1 := Y0.out.cell (i := 1) rfl
 have px := X0.out.cell (i := 5) rfl
 have hcat : ¬ (9223372036854775807 < E.ky.size + 1) := by have := HS.out.ky; omega
 go_enter Tryz.func33, Tryz.ntmps33
 go_upto_region 15 with (first
  | (refine store_oneE rfl 9 _ _ rfl w.heap.size 5 (.string _) (ecs E a) 34 rfl rfl X0.out (show (5 : Nat) < 29 by decide) sz9 rfl ?_; intro u1 eu; obtain ⟨z, hz, eu⟩ : ∃ z, z.size ≤ 1000 ∧ u1 = W0.setCell ⟨w.heap.size, 5, none⟩ (.string z) := ⟨_, app_x HS.out.ky, eu⟩; have HZ := hid hz; have X1 := hid (show Blk u1 w.heap.size (ecs { E with ky := z } a) 34 by rw [eu]; exact X0.out.set 5 _); have R1 := hid (show Blk u1 (w.heap.size + 1 + 1) z29 34 by rw [eu]; exact R0.out.other ⟨w.heap.size, 5, none⟩ _ (by show w.heap.size + 1 + 1 ≠ w.heap.size; omega)); have I1 := hid (show IsE u1 { E with ky := z } a by rw [eu]; exact { I0.out.oneE w.heap.size 5 _ AP.out with ky := (Nat.le_trans hz (by decide)) }); have B1 := hid (show Below w.heap.size w u1 by rw [eu]; exact BA.out.setCell (p := ⟨w.heap.size, 5, none⟩) (Nat.le_refl _) _); clear eu hz)
  | fail)
 go_wp2_with (first
  | (refine wpList_load_mid rfl 34 _ rfl w.heap.size 0 rfl (ecs { E with ky := z } a) _ X1.out.range Tryz.underlying34 rfl size34 ?_)
  | (refine store_mid_as rfl 34 _ _ rfl (w.heap.size + 1 + 1) 0 (ecs { E with ky := z } a).toArray rfl rfl (Blk.there (n := 29) R1.out (Nat.le_refl 29)) size34 (ecs_one _ _) ?_; intro wz ez; have EZ := hid ez; clear ez)
  | fail)
 (try simp only [Exit.inBlock, Exit.then])
 refine bodyPost_ret (results_cell_mid rfl _ _ (w.heap.size + 1 + 1) (ecs { E with ky := z } a) 34 _ rfl (by rw [EZ.out]; exact Blk.setAll R1.out _ rfl) Tryz.underlying34 rfl size34) rfl ?_
 rw [EZ.out]
 exact ⟨{ E with ky := z }, a, rfl, I1.out.otherE _ _ _ (⟨AP2.out.pv, AP2.out.au, AP2.out.c⟩), ⟨HS.out.z.rm, HS.out.z.sd, HZ.out, HS.out.z.sv, HS.out.z.pv, HS.out.z.au, HS.out.z.c⟩, rfl, below_setAll (show w.heap.size ≤ w.heap.size + 1 + 1 by omega) _ _ _ B1.out⟩
set_option maxHeartbeats 32000000 in
theorem changed_pv (E : Ew) (a : Aw) (fd by' : Int) (w : World) (h : IsE w E a) (hs : SmX E) (hby : i64B by') (c0 : ((IntKind.u64.wrap fd).tmod 7 == 0) = false) (c1 : ((IntKind.u64.wrap fd).tmod 7 == 1) = false) (c2 : ((IntKind.u64.wrap fd).tmod 7 == 2) = false) (c3 : ((IntKind.u64.wrap fd).tmod 7 == 3) = true) : Calls Tryz.prog 33 #[.agg (ecs E a).toArray, .agg #[.int .i64 fd, .int .i64 by']] w (ChP E w) := by
 have BA := hid ((((Below.refl w.heap.size w).alloc (Nat.le_refl _) (.cells (ecs E a).toArray 34)).alloc (by simp) (.cells #[.int .i64 fd, .int .i64 by'] 49)).alloc (by simp; omega) (.cells z29.toArray 34))
 have X0 := hid (((blk_new w (ecs E a) 34).alloc (.cells #[.int .i64 fd, .int .i64 by'] 49)).alloc (.cells z29.toArray 34))
 have Y0 := hid ((blk_new2 w (.cells (ecs E a).toArray 34) [.int .i64 fd, .int .i64 by'] 49).alloc (.cells z29.toArray 34))
 have R0 := hid (show Blk (((w.alloc (.cells (ecs E a).toArray 34)).alloc (.cells #[.int .i64 fd, .int .i64 by'] 49)).alloc (.cells z29.toArray 34)) (w.heap.size + 1 + 1) z29 34 by simpa using blk_new ((w.alloc (.cells (ecs E a).toArray 34)).alloc (.cells #[.int .i64 fd, .int .i64 by'] 49)) z29 34)
 have HE := hid h
 have HS := hid hs
 have AP := hid (h.ap (Nat.le_refl w.heap.size))
 have AP2 := hid (h.ap (show w.heap.size ≤ w.heap.size + 1 + 1 by omega))
 generalize hW0 : ((w.alloc (.cells (ecs E a).toArray 34)).alloc (.cells #[.int .i64 fd, .int .i64 by'] 49)).alloc (.cells z29.toArray 34) = W0 at BA X0 Y0 R0
 have I0 := hid (HE.out.below BA.out)
 clear h hs
 dsimp only [ecs, z29] at hW0 ⊢
 have p0 := Y0.out.cell (i := 0) rfl
 have p1 := Y0.out.cell (i := 1) rfl
 have m1 := HE.out.pv.rws.big
 have m2 := HS.out.pv
 have FT := hid (show ∀ z ∈ E.pv ++ [by'], i64B z by
  intro z hz
  rcases List.mem_append.1 hz with q | q
  ·exact HE.out.pv.fit z q
  ·rw [List.mem_singleton] at q; rw [q]; exact hby)
 obtain ⟨i0, hi, hz0, hz1, hz2⟩ := info_parts info3k
 have HI := hid (And.intro hi (And.intro hz0 (And.intro hz1 hz2)))
 clear hi hz0 hz1 hz2 hby
 go_enter Tryz.func33, Tryz.ntmps33
 go_upto_region 10 with (fail)
 refine wp_region_held_drew (S := (fun y => Blk y (w.heap.size + 1) [.int .i64 fd, .int .i64 by'] 49)) (by kernel_rfl) (Y0.out.below (Below.refl W0.heap.size W0).drew) (fun hH0 => ?_)
 have hD := (Below.refl W0.heap.size W0).drew
 generalize hy0 : World.drew W0 = y0 at hD hH0 ⊢
 have RB0 := hid hD
 clear hy0 hD
 refine mvA 1 (v := ?hv1) rfl ?hy1 ?hr1
 case hy1 => (intro w hSw; (try dsimp only at hSw); go_simp; (try with_reducible rfl))
 try simp only [Act.put, lsA, ls0, ls1]
 refine mvA 4 (v := ?hv2) rfl ?hy2 ?hr2
 case hy2 => (intro w hSw; (try dsimp only at hSw); go_simp; (try with_reducible rfl))
 try simp only [Act.put, lsA, ls0, ls1]
 refine mvA 5 (v := (.int .i64 by')) rfl (fun w0 hw0 => by have q0 := hw0.cell (i := 1) rfl; go_simp) ?_
 try simp only [Act.put, lsA, ls0, ls1]
 refine mvS [0, 2, 6] ?_
 refine mvC rfl (fun KK hKK => ?_) ?_
 ·go_simp
  generalize hy1 : World.alloc _ _ = y1
  generalize hg0 : (World.heap y0).size = g0
  have RB1 : Hid (Below W0.heap.size W0 y1) := hid (by rw [← hy1]; exact RB0.out.alloc RB0.out.size _)
  have RO1 : Hid (y1.ownsRow W0.heap.size 3 1 (.slice (some ⟨g0, 0, none⟩) 0 0) 0 []) := hid (by rw [← hy1, ← hg0]; exact World.ownsRow_made (base := W0.heap.size) (e := 3) (size := 1) _ #[] 0 RB0.out.size (by decide) (by simp))
  clear hy1 hg0
  refine hKK.out _ _ (Y0.out.below RB1.out) (fun hH1 => ?_)
  clear hKK KK
  try simp only [Act.put, lsA, ls0, ls1]
  refine mvS [2, 6] ?_
  refine mvC rfl (fun KK hKK => ?_) ?_
  ·have p8 := (X0.out.below RB1.out).cell (i := 8) rfl
   go_simp
   clear p8
   refine hKK.out _ _ (Y0.out.below RB1.out) (fun hH2 => ?_)
   clear hKK KK
   try simp only [Act.put, lsA, ls0, ls1]
   refine mvS [3, 6] ?_
   refine mvC rfl (fun KK hKK => ?_) ?_
   ·have RS := hid ((I0.out.pv.below RB1.out).rws.src)
    refine step_append_any _ rfl (.tmp 37) (.tmp 39) 23 rfl W0.heap.size 3 i0 _ 1 8 Tryz.underlying23 HI.out.1 HI.out.2.1 HI.out.2.2.1 HI.out.2.2.2 rfl (by decide) (.slice (some ⟨g0, 0, none⟩) 0 0) 0 [] rfl RO1.out a.pA E.pv.length a.pC (flat E.pv.length (rowI E.pv)) rfl RS.out (by unfold maxLen; omega) (by omega) RB1.out.size ?_
    intro v4 y2 hgr
    have RB2 : Hid (Below W0.heap.size W0 y2) := hid (hgr.below RB1.out RO1.out)
    have RV2 := hid hgr.own
    clear hgr RS
    refine hKK.out _ _ (Y0.out.below RB2.out) (fun hH3 => ?_)
    clear hKK KK
    try simp only [Act.put, lsA, ls0, ls1]
    refine mvR 6 rfl (fun KK hKK => ?_)
    go_simp
    generalize hy3 : World.alloc _ _ = y3
    generalize hg6 : (World.heap y2).size = g6
    have RB3 : Hid (Below W0.heap.size W0 y3) := hid (by rw [← hy3]; exact RB2.out.alloc RB2.out.size _)
    have RG3 : Hid (Blk y3 g6 [.int .i64 by'] 3) := hid (by rw [← hy3, ← hg6]; exact blk_new _ [.int .i64 by'] 3)
    have RV3 : Hid (y3.ownsRow W0.heap.size 3 1 v4 (0 + E.pv.length) ([] ++ flat E.pv.length (rowI E.pv))) := hid (by rw [← hy3]; exact RV2.out.alloc _)
    clear hy3 hg6
    refine hKK.out _ _ (Y0.out.below RB3.out) (fun hH4 => ?_)
    clear hKK KK
    try simp only [Act.put, lsA, ls0, ls1]
    refine mvR 7 rfl (fun KK hKK => ?_)
    refine step_append_any _ rfl (.tmp 40) (.tmp 43) 23 rfl W0.heap.size 3 i0 _ 1 8 Tryz.underlying23 HI.out.1 HI.out.2.1 HI.out.2.2.1 HI.out.2.2.2 rfl (by decide) v4 _ _ rfl RV3.out (some ⟨g6, 0, none⟩) 1 1 [.int .i64 by'] rfl (blk_src1 RG3.out) (by unfold maxLen; omega) (by omega) RB3.out.size ?_
    intro v5 y4 hgr
    have RB4 : Hid (Below W0.heap.size W0 y4) := hid (hgr.below RB3.out RV3.out)
    have RE : Hid (y4.ownsRow W0.heap.size 3 1 v5 (E.pv ++ [by']).length (flat (E.pv ++ [by']).length (rowI (E.pv ++ [by'])))) := hid (by have := hgr.own; rw [Nat.zero_add, List.nil_append] at this; rw [flat_snoc, List.length_append]; exact this)
    clear hgr
    refine hKK.out _ _ (Y0.out.below RB4.out) (fun hH5 => ?_)
    clear hKK KK
    try simp only [Act.put, lsA, ls0, ls1]
    refine mvA 8 (v := ?hv3) rfl ?hy3 ?hr3
    case hy3 => (intro w hSw; (try dsimp only at hSw); go_simp; (try with_reducible rfl))
    try simp only [Act.put, lsA, ls0, ls1]
    refine mvR 9 rfl (fun KK hKK => ?_)
    obtain ⟨A5, c5, rfl⟩ := own_slice RE.out
    have J5 := hid (own_ins RE.out (by rw [List.length_append]; show E.pv.length + 1 ≤ 1000; omega) FT.out)
    have N5 := hid (own_new RE.out)
    refine stepV (by rfl) (wp_storeV 23 _ _ rfl w.heap.size 8 (.slice A5 (E.pv ++ [by']).length c5) (ecs E a) 34 rfl rfl (X0.out.below RB4.out) (show (8 : Nat) < 29 by decide) sz23 rfl ?_)
    have X1 := hid (show Blk (World.setCell y4 ⟨w.heap.size, 8, none⟩ (.slice A5 (E.pv ++ [by']).length c5)) w.heap.size (ecs { E with pv := E.pv ++ [by'] } { a with pA := A5, pC := c5 }) 34 from (X0.out.below RB4.out).set 8 _)
    have R1 := hid ((R0.out.below RB4.out).other ⟨w.heap.size, 8, none⟩ (.slice A5 (E.pv ++ [by']).length c5) (by show w.heap.size + 1 + 1 ≠ w.heap.size; omega))
    have Y1 := hid ((Y0.out.below RB4.out).other ⟨w.heap.size, 8, none⟩ (.slice A5 (E.pv ++ [by']).length c5) (by show w.heap.size + 1 ≠ w.heap.size; omega))
    have I1 := hid (show IsE (World.setCell y4 ⟨w.heap.size, 8, none⟩ (.slice A5 (E.pv ++ [by']).length c5)) { E with pv := E.pv ++ [by'] } { a with pA := A5, pC := c5 } from { (I0.out.below RB4.out).oneE w.heap.size 8 _ AP.out with pv := J5.out.other _ _ (fun h0 b off e => by have := N5.out b off e; show b ≠ w.heap.size; have := R0.out.lt; omega) })
    have B1 := hid ((BA.out.trans (RB4.out.mono BA.out.size)).setCell (p := ⟨w.heap.size, 8, none⟩) (Nat.le_refl _) (.slice A5 (E.pv ++ [by']).length c5))
    show KK _ (World.setCell y4 ⟨w.heap.size, 8, none⟩ (.slice A5 (E.pv ++ [by']).length c5))
    generalize World.setCell y4 ⟨w.heap.size, 8, none⟩ (.slice A5 (E.pv ++ [by']).length c5) = u1 at X1 R1 Y1 I1 B1 ⊢
    refine hKK.out _ _ (Y1.out) (fun hH6 => ?_)
    clear hKK KK
    try simp only [Act.put, lsA, ls0, ls1]
    refine wpAnyH_done (by kernel_rfl) ?_ _
    go_wp2_with (first
     | (refine wpList_load_mid rfl 34 _ rfl w.heap.size 0 rfl (ecs { E with pv := E.pv ++ [by'] } { a with pA := A5, pC := c5 }) _ X1.out.range Tryz.underlying34 rfl size34 ?_)
     | (refine store_mid_as rfl 34 _ _ rfl (w.heap.size + 1 + 1) 0 (ecs { E with pv := E.pv ++ [by'] } { a with pA := A5, pC := c5 }).toArray rfl rfl (Blk.there (n := 29) R1.out (Nat.le_refl 29)) size34 (ecs_one _ _) ?_; intro wz ez; have EZ := hid ez; clear ez)
     | fail)
    (try simp only [Exit.inBlock, Exit.then])
    refine bodyPost_ret (results_cell_mid rfl _ _ (w.heap.size + 1 + 1) (ecs { E with pv := E.pv ++ [by'] } { a with pA := A5, pC := c5 }) 34 _ rfl (by rw [EZ.out]; exact Blk.setAll R1.out _ rfl) Tryz.underlying34 rfl size34) rfl ?_
    rw [EZ.out]
    exact ⟨{ E with pv := E.pv ++ [by'] }, { a with pA := A5, pC := c5 }, rfl, I1.out.otherE _ _ _ (⟨(fun h0 b off e => by have := N5.out b off e; have := R0.out.lt; omega), AP2.out.au, AP2.out.c⟩), ⟨HS.out.z.rm, HS.out.z.sd, HS.out.z.ky, HS.out.z.sv, by rw [List.length_append]; show E.pv.length + 1 ≤ 100; have := HS.out.pv; omega, HS.out.z.au, HS.out.z.c⟩, rfl, below_setAll (show w.heap.size ≤ w.heap.size + 1 + 1 by omega) _ _ _ B1.out⟩
   refine mvC rfl (fun KK hKK => ?_) AllReadyH.nil
   go_simp
   generalize hy2 : World.alloc _ _ = y2
   generalize hg6 : (World.heap y1).size = g6
   have RB2 : Hid (Below W0.heap.size W0 y2) := hid (by rw [← hy2]; exact RB1.out.alloc RB1.out.size _)
   have RG2 : Hid (Blk y2 g6 [.int .i64 by'] 3) := hid (by rw [← hy2, ← hg6]; exact blk_new _ [.int .i64 by'] 3)
   have RO2 : Hid (y2.ownsRow W0.heap.size 3 1 (.slice (some ⟨g0, 0, none⟩) 0 0) 0 []) := hid (by rw [← hy2]; exact RO1.out.alloc _)
   have RN : g6 ≠ g0 := by have := (RO1.out.lt g0 rfl).2; omega
   clear hy2 hg6
   refine hKK.out _ _ (Y0.out.below RB2.out) (fun hH3 => ?_)
   clear hKK KK
   try simp only [Act.put, lsA, ls0, ls1]
   refine mvR 3 rfl (fun KK hKK => ?_)
   have RS := hid ((I0.out.pv.below RB2.out).rws.src)
   refine step_append_any _ rfl (.tmp 37) (.tmp 39) 23 rfl W0.heap.size 3 i0 _ 1 8 Tryz.underlying23 HI.out.1 HI.out.2.1 HI.out.2.2.1 HI.out.2.2.2 rfl (by decide) (.slice (some ⟨g0, 0, none⟩) 0 0) 0 [] rfl RO2.out a.pA E.pv.length a.pC (flat E.pv.length (rowI E.pv)) rfl RS.out (by unfold maxLen; omega) (by omega) RB2.out.size ?_
   intro v4 y3 hgr
   have RB3 : Hid (Below W0.heap.size W0 y3) := hid (hgr.below RB2.out RO2.out)
   have RV3 := hid hgr.own
   have RG3 : Hid (Blk y3 g6 [.int .i64 by'] 3) := hid ⟨(hgr.grow.block g6 RG2.out.lt (by simp [Value.ownBlock]; omega)).trans RG2.out.heap⟩
   clear hgr RS
   refine hKK.out _ _ (Y0.out.below RB3.out) (fun hH4 => ?_)
   clear hKK KK
   try simp only [Act.put, lsA, ls0, ls1]
   refine mvR 7 rfl (fun KK hKK => ?_)
   refine step_append_any _ rfl (.tmp 40) (.tmp 43) 23 rfl W0.heap.size 3 i0 _ 1 8 Tryz.underlying23 HI.out.1 HI.out.2.1 HI.out.2.2.1 HI.out.2.2.2 rfl (by decide) v4 _ _ rfl RV3.out (some ⟨g6, 0, none⟩) 1 1 [.int .i64 by'] rfl (blk_src1 RG3.out) (by unfold maxLen; omega) (by omega) RB3.out.size ?_
   intro v5 y4 hgr
   have RB4 : Hid (Below W0.heap.size W0 y4) := hid (hgr.below RB3.out RV3.out)
   have RE : Hid (y4.ownsRow W0.heap.size 3 1 v5 (E.pv ++ [by']).length (flat (E.pv ++ [by']).length (rowI (E.pv ++ [by'])))) := hid (by have := hgr.own; rw [Nat.zero_add, List.nil_append] at this; rw [flat_snoc, List.length_append]; exact this)
   clear hgr
   refine hKK.out _ _ (Y0.out.below RB4.out) (fun hH5 => ?_)
   clear hKK KK
   try simp only [Act.put, lsA, ls0, ls1]
   refine mvA 8 (v := ?hv4) rfl ?hy4 ?hr4
   case hy4 => (intro w hSw; (try dsimp only at hSw); go_simp; (try with_reducible rfl))
   try simp only [Act.put, lsA, ls0, ls1]
   refine mvR 9 rfl (fun KK hKK => ?_)
   obtain ⟨A5, c5, rfl⟩ := own_slice RE.out
   have J5 := hid (own_ins RE.out (by rw [List.length_append]; show E.pv.length + 1 ≤ 1000; omega) FT.out)
   have N5 := hid (own_new RE.out)
   refine stepV (by rfl) (wp_storeV 23 _ _ rfl w.heap.size 8 (.slice A5 (E.pv ++ [by']).length c5) (ecs E a) 34 rfl rfl (X0.out.below RB4.out) (show (8 : Nat) < 29 by decide) sz23 rfl ?_)
   have X1 := hid (show Blk (World.setCell y4 ⟨w.heap.size, 8, none⟩ (.slice A5 (E.pv ++ [by']).length c5)) w.heap.size (ecs { E with pv := E.pv ++ [by'] } { a with pA := A5, pC := c5 }) 34 from (X0.out.below RB4.out).set 8 _)
   have R1 := hid ((R0.out.below RB4.out).other ⟨w.heap.size, 8, none⟩ (.slice A5 (E.pv ++ [by']).length c5) (by show w.heap.size + 1 + 1 ≠ w.heap.size; omega))
   have Y1 := hid ((Y0.out.below RB4.out).other ⟨w.heap.size, 8, none⟩ (.slice A5 (E.pv ++ [by']).length c5) (by show w.heap.size + 1 ≠ w.heap.size; omega))
   have I1 := hid (show IsE (World.setCell y4 ⟨w.heap.size, 8, none⟩ (.slice A5 (E.pv ++ [by']).length c5)) { E with pv := E.pv ++ [by'] } { a with pA := A5, pC := c5 } from { (I0.out.below RB4.out).oneE w.heap.size 8 _ AP.out with pv := J5.out.other _ _ (fun h0 b off e => by have := N5.out b off e; show b ≠ w.heap.size; have := R0.out.lt; omega) })
   have B1 := hid ((BA.out.trans (RB4.out.mono BA.out.size)).setCell (p := ⟨w.heap.size, 8, none⟩) (Nat.le_refl _) (.slice A5 (E.pv ++ [by']).length c5))
   show KK _ (World.setCell y4 ⟨w.heap.size, 8, none⟩ (.slice A5 (E.pv ++ [by']).length c5))
   generalize World.setCell y4 ⟨w.heap.size, 8, none⟩ (.slice A5 (E.pv ++ [by']).length c5) = u1 at X1 R1 Y1 I1 B1 ⊢
   refine hKK.out _ _ (Y1.out) (fun hH6 => ?_)
   clear hKK KK
   try simp only [Act.put, lsA, ls0, ls1]
   refine wpAnyH_done (by kernel_rfl) ?_ _
   go_wp2_with (first
    | (refine wpList_load_mid rfl 34 _ rfl w.heap.size 0 rfl (ecs { E with pv := E.pv ++ [by'] } { a with pA := A5, pC := c5 }) _ X1.out.range Tryz.underlying34 rfl size34 ?_)
    | (refine store_mid_as rfl 34 _ _ rfl (w.heap.size + 1 + 1) 0 (ecs { E with pv := E.pv ++ [by'] } { a with pA := A5, pC := c5 }).toArray rfl rfl (Blk.there (n := 29) R1.out (Nat.le_refl 29)) size34 (ecs_one _ _) ?_; intro wz ez; have EZ := hid ez; clear ez)
    | fail)
   (try simp only [Exit.inBlock, Exit.then])
   refine bodyPost_ret (results_cell_mid rfl _ _ (w.heap.size + 1 + 1) (ecs { E with pv := E.pv ++ [by'] } { a with pA := A5, pC := c5 }) 34 _ rfl (by rw [EZ.out]; exact Blk.setAll R1.out _ rfl) Tryz.underlying34 rfl size34) rfl ?_
   rw [EZ.out]
   exact ⟨{ E with pv := E.pv ++ [by'] }, { a with pA := A5, pC := c5 }, rfl, I1.out.otherE _ _ _ (⟨(fun h0 b off e => by have := N5.out b off e; have := R0.out.lt; omega), AP2.out.au, AP2.out.c⟩), ⟨HS.out.z.rm, HS.out.z.sd, HS.out.z.ky, HS.out.z.sv, by rw [List.length_append]; show E.pv.length + 1 ≤ 100; have := HS.out.pv; omega, HS.out.z.au, HS.out.z.c⟩, rfl, below_setAll (show w.heap.size ≤ w.heap.size + 1 + 1 by omega) _ _ _ B1.out⟩
  refine mvC rfl (fun KK hKK => ?_) AllReadyH.nil
  go_simp
  generalize hy2 : World.alloc _ _ = y2
  generalize hg6 : (World.heap y1).size = g6
  have RB2 : Hid (Below W0.heap.size W0 y2) := hid (by rw [← hy2]; exact RB1.out.alloc RB1.out.size _)
  have RG2 : Hid (Blk y2 g6 [.int .i64 by'] 3) := hid (by rw [← hy2, ← hg6]; exact blk_new _ [.int .i64 by'] 3)
  have RO2 : Hid (y2.ownsRow W0.heap.size 3 1 (.slice (some ⟨g0, 0, none⟩) 0 0) 0 []) := hid (by rw [← hy2]; exact RO1.out.alloc _)
  have RN : g6 ≠ g0 := by have := (RO1.out.lt g0 rfl).2; omega
  clear hy2 hg6
  refine hKK.out _ _ (Y0.out.below RB2.out) (fun hH2 => ?_)
  clear hKK KK
  try simp only [Act.put, lsA, ls0, ls1]
  refine mvR 2 rfl (fun KK hKK => ?_)
  have p8 := (X0.out.below RB2.out).cell (i := 8) rfl
  go_simp
  clear p8
  refine hKK.out _ _ (Y0.out.below RB2.out) (fun hH3 => ?_)
  clear hKK KK
  try simp only [Act.put, lsA, ls0, ls1]
  refine mvR 3 rfl (fun KK hKK => ?_)
  have RS := hid ((I0.out.pv.below RB2.out).rws.src)
  refine step_append_any _ rfl (.tmp 37) (.tmp 39) 23 rfl W0.heap.size 3 i0 _ 1 8 Tryz.underlying23 HI.out.1 HI.out.2.1 HI.out.2.2.1 HI.out.2.2.2 rfl (by decide) (.slice (some ⟨g0, 0, none⟩) 0 0) 0 [] rfl RO2.out a.pA E.pv.length a.pC (flat E.pv.length (rowI E.pv)) rfl RS.out (by unfold maxLen; omega) (by omega) RB2.out.size ?_
  intro v4 y3 hgr
  have RB3 : Hid (Below W0.heap.size W0 y3) := hid (hgr.below RB2.out RO2.out)
  have RV3 := hid hgr.own
  have RG3 : Hid (Blk y3 g6 [.int .i64 by'] 3) := hid ⟨(hgr.grow.block g6 RG2.out.lt (by simp [Value.ownBlock]; omega)).trans RG2.out.heap⟩
  clear hgr RS
  refine hKK.out _ _ (Y0.out.below RB3.out) (fun hH4 => ?_)
  clear hKK KK
  try simp only [Act.put, lsA, ls0, ls1]
  refine mvR 7 rfl (fun KK hKK => ?_)
  refine step_append_any _ rfl (.tmp 40) (.tmp 43) 23 rfl W0.heap.size 3 i0 _ 1 8 Tryz.underlying23 HI.out.1 HI.out.2.1 HI.out.2.2.1 HI.out.2.2.2 rfl (by decide) v4 _ _ rfl RV3.out (some ⟨g6, 0, none⟩) 1 1 [.int .i64 by'] rfl (blk_src1 RG3.out) (by unfold maxLen; omega) (by omega) RB3.out.size ?_
  intro v5 y4 hgr
  have RB4 : Hid (Below W0.heap.size W0 y4) := hid (hgr.below RB3.out RV3.out)
  have RE : Hid (y4.ownsRow W0.heap.size 3 1 v5 (E.pv ++ [by']).length (flat (E.pv ++ [by']).length (rowI (E.pv ++ [by'])))) := hid (by have := hgr.own; rw [Nat.zero_add, List.nil_append] at this; rw [flat_snoc, List.length_append]; exact this)
  clear hgr
  refine hKK.out _ _ (Y0.out.below RB4.out) (fun hH5 => ?_)
  clear hKK KK
  try simp only [Act.put, lsA, ls0, ls1]
  refine mvA 8 (v := ?hv5) rfl ?hy5 ?hr5
  case hy5 => (intro w hSw; (try dsimp only at hSw); go_simp; (try with_reducible rfl))
  try simp only [Act.put, lsA, ls0, ls1]
  refine mvR 9 rfl (fun KK hKK => ?_)
  obtain ⟨A5, c5, rfl⟩ := own_slice RE.out
  have J5 := hid (own_ins RE.out (by rw [List.length_append]; show E.pv.length + 1 ≤ 1000; omega) FT.out)
  have N5 := hid (own_new RE.out)
  refine stepV (by rfl) (wp_storeV 23 _ _ rfl w.heap.size 8 (.slice A5 (E.pv ++ [by']).length c5) (ecs E a) 34 rfl rfl (X0.out.below RB4.out) (show (8 : Nat) < 29 by decide) sz23 rfl ?_)
  have X1 := hid (show Blk (World.setCell y4 ⟨w.heap.size, 8, none⟩ (.slice A5 (E.pv ++ [by']).length c5)) w.heap.size (ecs { E with pv := E.pv ++ [by'] } { a with pA := A5, pC := c5 }) 34 from (X0.out.below RB4.out).set 8 _)
  have R1 := hid ((R0.out.below RB4.out).other ⟨w.heap.size, 8, none⟩ (.slice A5 (E.pv ++ [by']).length c5) (by show w.heap.size + 1 + 1 ≠ w.heap.size; omega))
  have Y1 := hid ((Y0.out.below RB4.out).other ⟨w.heap.size, 8, none⟩ (.slice A5 (E.pv ++ [by']).length c5) (by show w.heap.size + 1 ≠ w.heap.size; omega))
  have I1 := hid (show IsE (World.setCell y4 ⟨w.heap.size, 8, none⟩ (.slice A5 (E.pv ++ [by']).length c5)) { E with pv := E.pv ++ [by'] } { a with pA := A5, pC := c5 } from { (I0.out.below RB4.out).oneE w.heap.size 8 _ AP.out with pv := J5.out.other _ _ (fun h0 b off e => by have := N5.out b off e; show b ≠ w.heap.size; have := R0.out.lt; omega) })
  have B1 := hid ((BA.out.trans (RB4.out.mono BA.out.size)).setCell (p := ⟨w.heap.size, 8, none⟩) (Nat.le_refl _) (.slice A5 (E.pv ++ [by']).length c5))
  show KK _ (World.setCell y4 ⟨w.heap.size, 8, none⟩ (.slice A5 (E.pv ++ [by']).length c5))
  generalize World.setCell y4 ⟨w.heap.size, 8, none⟩ (.slice A5 (E.pv ++ [by']).length c5) = u1 at X1 R1 Y1 I1 B1 ⊢
  refine hKK.out _ _ (Y1.out) (fun hH6 => ?_)
  clear hKK KK
  try simp only [Act.put, lsA, ls0, ls1]
  refine wpAnyH_done (by kernel_rfl) ?_ _
  go_wp2_with (first
   | (refine wpList_load_mid rfl 34 _ rfl w.heap.size 0 rfl (ecs { E with pv := E.pv ++ [by'] } { a with pA := A5, pC := c5 }) _ X1.out.range Tryz.underlying34 rfl size34 ?_)
   | (refine store_mid_as rfl 34 _ _ rfl (w.heap.size + 1 + 1) 0 (ecs { E with pv := E.pv ++ [by'] } { a with pA := A5, pC := c5 }).toArray rfl rfl (Blk.there (n := 29) R1.out (Nat.le_refl 29)) size34 (ecs_one _ _) ?_; intro wz ez; have EZ := hid ez; clear ez)
   | fail)
  (try simp only [Exit.inBlock, Exit.then])
  refine bodyPost_ret (results_cell_mid rfl _ _ (w.heap.size + 1 + 1) (ecs { E with pv := E.pv ++ [by'] } { a with pA := A5, pC := c5 }) 34 _ rfl (by rw [EZ.out]; exact Blk.setAll R1.out _ rfl) Tryz.underlying34 rfl size34) rfl ?_
  rw [EZ.out]
  exact ⟨{ E with pv := E.pv ++ [by'] }, { a with pA := A5, pC := c5 }, rfl, I1.out.otherE _ _ _ (⟨(fun h0 b off e => by have := N5.out b off e; have := R0.out.lt; omega), AP2.out.au, AP2.out.c⟩), ⟨HS.out.z.rm, HS.out.z.sd, HS.out.z.ky, HS.out.z.sv, by rw [List.length_append]; show E.pv.length + 1 ≤ 100; have := HS.out.pv; omega, HS.out.z.au, HS.out.z.c⟩, rfl, below_setAll (show w.heap.size ≤ w.heap.size + 1 + 1 by omega) _ _ _ B1.out⟩
 refine mvC rfl (fun KK hKK => ?_) ?_
 ·have p8 := (X0.out.below RB0.out).cell (i := 8) rfl
  go_simp
  clear p8
  refine hKK.out _ _ (Y0.out.below RB0.out) (fun hH1 => ?_)
  clear hKK KK
  try simp only [Act.put, lsA, ls0, ls1]
  refine mvS [0, 6] ?_
  refine mvC rfl (fun KK hKK => ?_) ?_
  ·go_simp
   generalize hy1 : World.alloc _ _ = y1
   generalize hg0 : (World.heap y0).size = g0
   have RB1 : Hid (Below W0.heap.size W0 y1) := hid (by rw [← hy1]; exact RB0.out.alloc RB0.out.size _)
   have RO1 : Hid (y1.ownsRow W0.heap.size 3 1 (.slice (some ⟨g0, 0, none⟩) 0 0) 0 []) := hid (by rw [← hy1, ← hg0]; exact World.ownsRow_made (base := W0.heap.size) (e := 3) (size := 1) _ #[] 0 RB0.out.size (by decide) (by simp))
   clear hy1 hg0
   refine hKK.out _ _ (Y0.out.below RB1.out) (fun hH2 => ?_)
   clear hKK KK
   try simp only [Act.put, lsA, ls0, ls1]
   refine mvS [3, 6] ?_
   refine mvC rfl (fun KK hKK => ?_) ?_
   ·have RS := hid ((I0.out.pv.below RB1.out).rws.src)
    refine step_append_any _ rfl (.tmp 37) (.tmp 39) 23 rfl W0.heap.size 3 i0 _ 1 8 Tryz.underlying23 HI.out.1 HI.out.2.1 HI.out.2.2.1 HI.out.2.2.2 rfl (by decide) (.slice (some ⟨g0, 0, none⟩) 0 0) 0 [] rfl RO1.out a.pA E.pv.length a.pC (flat E.pv.length (rowI E.pv)) rfl RS.out (by unfold maxLen; omega) (by omega) RB1.out.size ?_
    intro v4 y2 hgr
    have RB2 : Hid (Below W0.heap.size W0 y2) := hid (hgr.below RB1.out RO1.out)
    have RV2 := hid hgr.own
    clear hgr RS
    refine hKK.out _ _ (Y0.out.below RB2.out) (fun hH3 => ?_)
    clear hKK KK
    try simp only [Act.put, lsA, ls0, ls1]
    refine mvR 6 rfl (fun KK hKK => ?_)
    go_simp
    generalize hy3 : World.alloc _ _ = y3
    generalize hg6 : (World.heap y2).size = g6
    have RB3 : Hid (Below W0.heap.size W0 y3) := hid (by rw [← hy3]; exact RB2.out.alloc RB2.out.size _)
    have RG3 : Hid (Blk y3 g6 [.int .i64 by'] 3) := hid (by rw [← hy3, ← hg6]; exact blk_new _ [.int .i64 by'] 3)
    have RV3 : Hid (y3.ownsRow W0.heap.size 3 1 v4 (0 + E.pv.length) ([] ++ flat E.pv.length (rowI E.pv))) := hid (by rw [← hy3]; exact RV2.out.alloc _)
    clear hy3 hg6
    refine hKK.out _ _ (Y0.out.below RB3.out) (fun hH4 => ?_)
    clear hKK KK
    try simp only [Act.put, lsA, ls0, ls1]
    refine mvR 7 rfl (fun KK hKK => ?_)
    refine step_append_any _ rfl (.tmp 40) (.tmp 43) 23 rfl W0.heap.size 3 i0 _ 1 8 Tryz.underlying23 HI.out.1 HI.out.2.1 HI.out.2.2.1 HI.out.2.2.2 rfl (by decide) v4 _ _ rfl RV3.out (some ⟨g6, 0, none⟩) 1 1 [.int .i64 by'] rfl (blk_src1 RG3.out) (by unfold maxLen; omega) (by omega) RB3.out.size ?_
    intro v5 y4 hgr
    have RB4 : Hid (Below W0.heap.size W0 y4) := hid (hgr.below RB3.out RV3.out)
    have RE : Hid (y4.ownsRow W0.heap.size 3 1 v5 (E.pv ++ [by']).length (flat (E.pv ++ [by']).length (rowI (E.pv ++ [by'])))) := hid (by have := hgr.own; rw [Nat.zero_add, List.nil_append] at this; rw [flat_snoc, List.length_append]; exact this)
    clear hgr
    refine hKK.out _ _ (Y0.out.below RB4.out) (fun hH5 => ?_)
    clear hKK KK
    try simp only [Act.put, lsA, ls0, ls1]
    refine mvA 8 (v := ?hv6) rfl ?hy6 ?hr6
    case hy6 => (intro w hSw; (try dsimp only at hSw); go_simp; (try with_reducible rfl))
    try simp only [Act.put, lsA, ls0, ls1]
    refine mvR 9 rfl (fun KK hKK => ?_)
    obtain ⟨A5, c5, rfl⟩ := own_slice RE.out
    have J5 := hid (own_ins RE.out (by rw [List.length_append]; show E.pv.length + 1 ≤ 1000; omega) FT.out)
    have N5 := hid (own_new RE.out)
    refine stepV (by rfl) (wp_storeV 23 _ _ rfl w.heap.size 8 (.slice A5 (E.pv ++ [by']).length c5) (ecs E a) 34 rfl rfl (X0.out.below RB4.out) (show (8 : Nat) < 29 by decide) sz23 rfl ?_)
    have X1 := hid (show Blk (World.setCell y4 ⟨w.heap.size, 8, none⟩ (.slice A5 (E.pv ++ [by']).length c5)) w.heap.size (ecs { E with pv := E.pv ++ [by'] } { a with pA := A5, pC := c5 }) 34 from (X0.out.below RB4.out).set 8 _)
    have R1 := hid ((R0.out.below RB4.out).other ⟨w.heap.size, 8, none⟩ (.slice A5 (E.pv ++ [by']).length c5) (by show w.heap.size + 1 + 1 ≠ w.heap.size; omega))
    have Y1 := hid ((Y0.out.below RB4.out).other ⟨w.heap.size, 8, none⟩ (.slice A5 (E.pv ++ [by']).length c5) (by show w.heap.size + 1 ≠ w.heap.size; omega))
    have I1 := hid (show IsE (World.setCell y4 ⟨w.heap.size, 8, none⟩ (.slice A5 (E.pv ++ [by']).length c5)) { E with pv := E.pv ++ [by'] } { a with pA := A5, pC := c5 } from { (I0.out.below RB4.out).oneE w.heap.size 8 _ AP.out with pv := J5.out.other _ _ (fun h0 b off e => by have := N5.out b off e; show b ≠ w.heap.size; have := R0.out.lt; omega) })
    have B1 := hid ((BA.out.trans (RB4.out.mono BA.out.size)).setCell (p := ⟨w.heap.size, 8, none⟩) (Nat.le_refl _) (.slice A5 (E.pv ++ [by']).length c5))
    show KK _ (World.setCell y4 ⟨w.heap.size, 8, none⟩ (.slice A5 (E.pv ++ [by']).length c5))
    generalize World.setCell y4 ⟨w.heap.size, 8, none⟩ (.slice A5 (E.pv ++ [by']).length c5) = u1 at X1 R1 Y1 I1 B1 ⊢
    refine hKK.out _ _ (Y1.out) (fun hH6 => ?_)
    clear hKK KK
    try simp only [Act.put, lsA, ls0, ls1]
    refine wpAnyH_done (by kernel_rfl) ?_ _
    go_wp2_with (first
     | (refine wpList_load_mid rfl 34 _ rfl w.heap.size 0 rfl (ecs { E with pv := E.pv ++ [by'] } { a with pA := A5, pC := c5 }) _ X1.out.range Tryz.underlying34 rfl size34 ?_)
     | (refine store_mid_as rfl 34 _ _ rfl (w.heap.size + 1 + 1) 0 (ecs { E with pv := E.pv ++ [by'] } { a with pA := A5, pC := c5 }).toArray rfl rfl (Blk.there (n := 29) R1.out (Nat.le_refl 29)) size34 (ecs_one _ _) ?_; intro wz ez; have EZ := hid ez; clear ez)
     | fail)
    (try simp only [Exit.inBlock, Exit.then])
    refine bodyPost_ret (results_cell_mid rfl _ _ (w.heap.size + 1 + 1) (ecs { E with pv := E.pv ++ [by'] } { a with pA := A5, pC := c5 }) 34 _ rfl (by rw [EZ.out]; exact Blk.setAll R1.out _ rfl) Tryz.underlying34 rfl size34) rfl ?_
    rw [EZ.out]
    exact ⟨{ E with pv := E.pv ++ [by'] }, { a with pA := A5, pC := c5 }, rfl, I1.out.otherE _ _ _ (⟨(fun h0 b off e => by have := N5.out b off e; have := R0.out.lt; omega), AP2.out.au, AP2.out.c⟩), ⟨HS.out.z.rm, HS.out.z.sd, HS.out.z.ky, HS.out.z.sv, by rw [List.length_append]; show E.pv.length + 1 ≤ 100; have := HS.out.pv; omega, HS.out.z.au, HS.out.z.c⟩, rfl, below_setAll (show w.heap.size ≤ w.heap.size + 1 + 1 by omega) _ _ _ B1.out⟩
   refine mvC rfl (fun KK hKK => ?_) AllReadyH.nil
   go_simp
   generalize hy2 : World.alloc _ _ = y2
   generalize hg6 : (World.heap y1).size = g6
   have RB2 : Hid (Below W0.heap.size W0 y2) := hid (by rw [← hy2]; exact RB1.out.alloc RB1.out.size _)
   have RG2 : Hid (Blk y2 g6 [.int .i64 by'] 3) := hid (by rw [← hy2, ← hg6]; exact blk_new _ [.int .i64 by'] 3)
   have RO2 : Hid (y2.ownsRow W0.heap.size 3 1 (.slice (some ⟨g0, 0, none⟩) 0 0) 0 []) := hid (by rw [← hy2]; exact RO1.out.alloc _)
   have RN : g6 ≠ g0 := by have := (RO1.out.lt g0 rfl).2; omega
   clear hy2 hg6
   refine hKK.out _ _ (Y0.out.below RB2.out) (fun hH3 => ?_)
   clear hKK KK
   try simp only [Act.put, lsA, ls0, ls1]
   refine mvR 3 rfl (fun KK hKK => ?_)
   have RS := hid ((I0.out.pv.below RB2.out).rws.src)
   refine step_append_any _ rfl (.tmp 37) (.tmp 39) 23 rfl W0.heap.size 3 i0 _ 1 8 Tryz.underlying23 HI.out.1 HI.out.2.1 HI.out.2.2.1 HI.out.2.2.2 rfl (by decide) (.slice (some ⟨g0, 0, none⟩) 0 0) 0 [] rfl RO2.out a.pA E.pv.length a.pC (flat E.pv.length (rowI E.pv)) rfl RS.out (by unfold maxLen; omega) (by omega) RB2.out.size ?_
   intro v4 y3 hgr
   have RB3 : Hid (Below W0.heap.size W0 y3) := hid (hgr.below RB2.out RO2.out)
   have RV3 := hid hgr.own
   have RG3 : Hid (Blk y3 g6 [.int .i64 by'] 3) := hid ⟨(hgr.grow.block g6 RG2.out.lt (by simp [Value.ownBlock]; omega)).trans RG2.out.heap⟩
   clear hgr RS
   refine hKK.out _ _ (Y0.out.below RB3.out) (fun hH4 => ?_)
   clear hKK KK
   try simp only [Act.put, lsA, ls0, ls1]
   refine mvR 7 rfl (fun KK hKK => ?_)
   refine step_append_any _ rfl (.tmp 40) (.tmp 43) 23 rfl W0.heap.size 3 i0 _ 1 8 Tryz.underlying23 HI.out.1 HI.out.2.1 HI.out.2.2.1 HI.out.2.2.2 rfl (by decide) v4 _ _ rfl RV3.out (some ⟨g6, 0, none⟩) 1 1 [.int .i64 by'] rfl (blk_src1 RG3.out) (by unfold maxLen; omega) (by omega) RB3.out.size ?_
   intro v5 y4 hgr
   have RB4 : Hid (Below W0.heap.size W0 y4) := hid (hgr.below RB3.out RV3.out)
   have RE : Hid (y4.ownsRow W0.heap.size 3 1 v5 (E.pv ++ [by']).length (flat (E.pv ++ [by']).length (rowI (E.pv ++ [by'])))) := hid (by have := hgr.own; rw [Nat.zero_add, List.nil_append] at this; rw [flat_snoc, List.length_append]; exact this)
   clear hgr
   refine hKK.out _ _ (Y0.out.below RB4.out) (fun hH5 => ?_)
   clear hKK KK
   try simp only [Act.put, lsA, ls0, ls1]
   refine mvA 8 (v := ?hv7) rfl ?hy7 ?hr7
   case hy7 => (intro w hSw; (try dsimp only at hSw); go_simp; (try with_reducible rfl))
   try simp only [Act.put, lsA, ls0, ls1]
   refine mvR 9 rfl (fun KK hKK => ?_)
   obtain ⟨A5, c5, rfl⟩ := own_slice RE.out
   have J5 := hid (own_ins RE.out (by rw [List.length_append]; show E.pv.length + 1 ≤ 1000; omega) FT.out)
   have N5 := hid (own_new RE.out)
   refine stepV (by rfl) (wp_storeV 23 _ _ rfl w.heap.size 8 (.slice A5 (E.pv ++ [by']).length c5) (ecs E a) 34 rfl rfl (X0.out.below RB4.out) (show (8 : Nat) < 29 by decide) sz23 rfl ?_)
   have X1 := hid (show Blk (World.setCell y4 ⟨w.heap.size, 8, none⟩ (.slice A5 (E.pv ++ [by']).length c5)) w.heap.size (ecs { E with pv := E.pv ++ [by'] } { a with pA := A5, pC := c5 }) 34 from (X0.out.below RB4.out).set 8 _)
   have R1 := hid ((R0.out.below RB4.out).other ⟨w.heap.size, 8, none⟩ (.slice A5 (E.pv ++ [by']).length c5) (by show w.heap.size + 1 + 1 ≠ w.heap.size; omega))
   have Y1 := hid ((Y0.out.below RB4.out).other ⟨w.heap.size, 8, none⟩ (.slice A5 (E.pv ++ [by']).length c5) (by show w.heap.size + 1 ≠ w.heap.size; omega))
   have I1 := hid (show IsE (World.setCell y4 ⟨w.heap.size, 8, none⟩ (.slice A5 (E.pv ++ [by']).length c5)) { E with pv := E.pv ++ [by'] } { a with pA := A5, pC := c5 } from { (I0.out.below RB4.out).oneE w.heap.size 8 _ AP.out with pv := J5.out.other _ _ (fun h0 b off e => by have := N5.out b off e; show b ≠ w.heap.size; have := R0.out.lt; omega) })
   have B1 := hid ((BA.out.trans (RB4.out.mono BA.out.size)).setCell (p := ⟨w.heap.size, 8, none⟩) (Nat.le_refl _) (.slice A5 (E.pv ++ [by']).length c5))
   show KK _ (World.setCell y4 ⟨w.heap.size, 8, none⟩ (.slice A5 (E.pv ++ [by']).length c5))
   generalize World.setCell y4 ⟨w.heap.size, 8, none⟩ (.slice A5 (E.pv ++ [by']).length c5) = u1 at X1 R1 Y1 I1 B1 ⊢
   refine hKK.out _ _ (Y1.out) (fun hH6 => ?_)
   clear hKK KK
   try simp only [Act.put, lsA, ls0, ls1]
   refine wpAnyH_done (by kernel_rfl) ?_ _
   go_wp2_with (first
    | (refine wpList_load_mid rfl 34 _ rfl w.heap.size 0 rfl (ecs { E with pv := E.pv ++ [by'] } { a with pA := A5, pC := c5 }) _ X1.out.range Tryz.underlying34 rfl size34 ?_)
    | (refine store_mid_as rfl 34 _ _ rfl (w.heap.size + 1 + 1) 0 (ecs { E with pv := E.pv ++ [by'] } { a with pA := A5, pC := c5 }).toArray rfl rfl (Blk.there (n := 29) R1.out (Nat.le_refl 29)) size34 (ecs_one _ _) ?_; intro wz ez; have EZ := hid ez; clear ez)
    | fail)
   (try simp only [Exit.inBlock, Exit.then])
   refine bodyPost_ret (results_cell_mid rfl _ _ (w.heap.size + 1 + 1) (ecs { E with pv := E.pv ++ [by'] } { a with pA := A5, pC := c5 }) 34 _ rfl (by rw [EZ.out]; exact Blk.setAll R1.out _ rfl) Tryz.underlying34 rfl size34) rfl ?_
   rw [EZ.out]
   exact ⟨{ E with pv := E.pv ++ [by'] }, { a with pA := A5, pC := c5 }, rfl, I1.out.otherE _ _ _ (⟨(fun h0 b off e => by have := N5.out b off e; have := R0.out.lt; omega), AP2.out.au, AP2.out.c⟩), ⟨HS.out.z.rm, HS.out.z.sd, HS.out.z.ky, HS.out.z.sv, by rw [List.length_append]; show E.pv.length + 1 ≤ 100; have := HS.out.pv; omega, HS.out.z.au, HS.out.z.c⟩, rfl, below_setAll (show w.heap.size ≤ w.heap.size + 1 + 1 by omega) _ _ _ B1.out⟩
  refine mvC rfl (fun KK hKK => ?_) AllReadyH.nil
  go_simp
  generalize hy1 : World.alloc _ _ = y1
  generalize hg6 : (World.heap y0).size = g6
  have RB1 : Hid (Below W0.heap.size W0 y1) := hid (by rw [← hy1]; exact RB0.out.alloc RB0.out.size _)
  have RG1 : Hid (Blk y1 g6 [.int .i64 by'] 3) := hid (by rw [← hy1, ← hg6]; exact blk_new _ [.int .i64 by'] 3)
  clear hy1 hg6
  refine hKK.out _ _ (Y0.out.below RB1.out) (fun hH2 => ?_)
  clear hKK KK
  try simp only [Act.put, lsA, ls0, ls1]
  refine mvR 0 rfl (fun KK hKK => ?_)
  go_simp
  generalize hy2 : World.alloc _ _ = y2
  generalize hg0 : (World.heap y1).size = g0
  have RB2 : Hid (Below W0.heap.size W0 y2) := hid (by rw [← hy2]; exact RB1.out.alloc RB1.out.size _)
  have RO2 : Hid (y2.ownsRow W0.heap.size 3 1 (.slice (some ⟨g0, 0, none⟩) 0 0) 0 []) := hid (by rw [← hy2, ← hg0]; exact World.ownsRow_made (base := W0.heap.size) (e := 3) (size := 1) _ #[] 0 RB1.out.size (by decide) (by simp))
  have RG2 : Hid (Blk y2 g6 [.int .i64 by'] 3) := hid (by rw [← hy2]; exact RG1.out.alloc _)
  have RN : g6 ≠ g0 := by have := RG1.out.lt; omega
  clear hy2 hg0
  refine hKK.out _ _ (Y0.out.below RB2.out) (fun hH3 => ?_)
  clear hKK KK
  try simp only [Act.put, lsA, ls0, ls1]
  refine mvR 3 rfl (fun KK hKK => ?_)
  have RS := hid ((I0.out.pv.below RB2.out).rws.src)
  refine step_append_any _ rfl (.tmp 37) (.tmp 39) 23 rfl W0.heap.size 3 i0 _ 1 8 Tryz.underlying23 HI.out.1 HI.out.2.1 HI.out.2.2.1 HI.out.2.2.2 rfl (by decide) (.slice (some ⟨g0, 0, none⟩) 0 0) 0 [] rfl RO2.out a.pA E.pv.length a.pC (flat E.pv.length (rowI E.pv)) rfl RS.out (by unfold maxLen; omega) (by omega) RB2.out.size ?_
  intro v4 y3 hgr
  have RB3 : Hid (Below W0.heap.size W0 y3) := hid (hgr.below RB2.out RO2.out)
  have RV3 := hid hgr.own
  have RG3 : Hid (Blk y3 g6 [.int .i64 by'] 3) := hid ⟨(hgr.grow.block g6 RG2.out.lt (by simp [Value.ownBlock]; omega)).trans RG2.out.heap⟩
  clear hgr RS
  refine hKK.out _ _ (Y0.out.below RB3.out) (fun hH4 => ?_)
  clear hKK KK
  try simp only [Act.put, lsA, ls0, ls1]
  refine mvR 7 rfl (fun KK hKK => ?_)
  refine step_append_any _ rfl (.tmp 40) (.tmp 43) 23 rfl W0.heap.size 3 i0 _ 1 8 Tryz.underlying23 HI.out.1 HI.out.2.1 HI.out.2.2.1 HI.out.2.2.2 rfl (by decide) v4 _ _ rfl RV3.out (some ⟨g6, 0, none⟩) 1 1 [.int .i64 by'] rfl (blk_src1 RG3.out) (by unfold maxLen; omega) (by omega) RB3.out.size ?_
  intro v5 y4 hgr
  have RB4 : Hid (Below W0.heap.size W0 y4) := hid (hgr.below RB3.out RV3.out)
  have RE : Hid (y4.ownsRow W0.heap.size 3 1 v5 (E.pv ++ [by']).length (flat (E.pv ++ [by']).length (rowI (E.pv ++ [by'])))) := hid (by have := hgr.own; rw [Nat.zero_add, List.nil_append] at this; rw [flat_snoc, List.length_append]; exact this)
  clear hgr
  refine hKK.out _ _ (Y0.out.below RB4.out) (fun hH5 => ?_)
  clear hKK KK
  try simp only [Act.put, lsA, ls0, ls1]
  refine mvA 8 (v := ?hv8) rfl ?hy8 ?hr8
  case hy8 => (intro w hSw; (try dsimp only at hSw); go_simp; (try with_reducible rfl))
  try simp only [Act.put, lsA, ls0, ls1]
  refine mvR 9 rfl (fun KK hKK => ?_)
  obtain ⟨A5, c5, rfl⟩ := own_slice RE.out
  have J5 := hid (own_ins RE.out (by rw [List.length_append]; show E.pv.length + 1 ≤ 1000; omega) FT.out)
  have N5 := hid (own_new RE.out)
  refine stepV (by rfl) (wp_storeV 23 _ _ rfl w.heap.size 8 (.slice A5 (E.pv ++ [by']).length c5) (ecs E a) 34 rfl rfl (X0.out.below RB4.out) (show (8 : Nat) < 29 by decide) sz23 rfl ?_)
  have X1 := hid (show Blk (World.setCell y4 ⟨w.heap.size, 8, none⟩ (.slice A5 (E.pv ++ [by']).length c5)) w.heap.size (ecs { E with pv := E.pv ++ [by'] } { a with pA := A5, pC := c5 }) 34 from (X0.out.below RB4.out).set 8 _)
  have R1 := hid ((R0.out.below RB4.out).other ⟨w.heap.size, 8, none⟩ (.slice A5 (E.pv ++ [by']).length c5) (by show w.heap.size + 1 + 1 ≠ w.heap.size; omega))
  have Y1 := hid ((Y0.out.below RB4.out).other ⟨w.heap.size, 8, none⟩ (.slice A5 (E.pv ++ [by']).length c5) (by show w.heap.size + 1 ≠ w.heap.size; omega))
  have I1 := hid (show IsE (World.setCell y4 ⟨w.heap.size, 8, none⟩ (.slice A5 (E.pv ++ [by']).length c5)) { E with pv := E.pv ++ [by'] } { a with pA := A5, pC := c5 } from { (I0.out.below RB4.out).oneE w.heap.size 8 _ AP.out with pv := J5.out.other _ _ (fun h0 b off e => by have := N5.out b off e; show b ≠ w.heap.size; have := R0.out.lt; omega) })
  have B1 := hid ((BA.out.trans (RB4.out.mono BA.out.size)).setCell (p := ⟨w.heap.size, 8, none⟩) (Nat.le_refl _) (.slice A5 (E.pv ++ [by']).length c5))
  show KK _ (World.setCell y4 ⟨w.heap.size, 8, none⟩ (.slice A5 (E.pv ++ [by']).length c5))
  generalize World.setCell y4 ⟨w.heap.size, 8, none⟩ (.slice A5 (E.pv ++ [by']).length c5) = u1 at X1 R1 Y1 I1 B1 ⊢
  refine hKK.out _ _ (Y1.out) (fun hH6 => ?_)
  clear hKK KK
  try simp only [Act.put, lsA, ls0, ls1]
  refine wpAnyH_done (by kernel_rfl) ?_ _
  go_wp2_with (first
   | (refine wpList_load_mid rfl 34 _ rfl w.heap.size 0 rfl (ecs { E with pv := E.pv ++ [by'] } { a with pA := A5, pC := c5 }) _ X1.out.range Tryz.underlying34 rfl size34 ?_)
   | (refine store_mid_as rfl 34 _ _ rfl (w.heap.size + 1 + 1) 0 (ecs { E with pv := E.pv ++ [by'] } { a with pA := A5, pC := c5 }).toArray rfl rfl (Blk.there (n := 29) R1.out (Nat.le_refl 29)) size34 (ecs_one _ _) ?_; intro wz ez; have EZ := hid ez; clear ez)
   | fail)
  (try simp only [Exit.inBlock, Exit.then])
  refine bodyPost_ret (results_cell_mid rfl _ _ (w.heap.size + 1 + 1) (ecs { E with pv := E.pv ++ [by'] } { a with pA := A5, pC := c5 }) 34 _ rfl (by rw [EZ.out]; exact Blk.setAll R1.out _ rfl) Tryz.underlying34 rfl size34) rfl ?_
  rw [EZ.out]
  exact ⟨{ E with pv := E.pv ++ [by'] }, { a with pA := A5, pC := c5 }, rfl, I1.out.otherE _ _ _ (⟨(fun h0 b off e => by have := N5.out b off e; have := R0.out.lt; omega), AP2.out.au, AP2.out.c⟩), ⟨HS.out.z.rm, HS.out.z.sd, HS.out.z.ky, HS.out.z.sv, by rw [List.length_append]; show E.pv.length + 1 ≤ 100; have := HS.out.pv; omega, HS.out.z.au, HS.out.z.c⟩, rfl, below_setAll (show w.heap.size ≤ w.heap.size + 1 + 1 by omega) _ _ _ B1.out⟩
 refine mvC rfl (fun KK hKK => ?_) AllReadyH.nil
 go_simp
 generalize hy1 : World.alloc _ _ = y1
 generalize hg6 : (World.heap y0).size = g6
 have RB1 : Hid (Below W0.heap.size W0 y1) := hid (by rw [← hy1]; exact RB0.out.alloc RB0.out.size _)
 have RG1 : Hid (Blk y1 g6 [.int .i64 by'] 3) := hid (by rw [← hy1, ← hg6]; exact blk_new _ [.int .i64 by'] 3)
 clear hy1 hg6
 refine hKK.out _ _ (Y0.out.below RB1.out) (fun hH1 => ?_)
 clear hKK KK
 try simp only [Act.put, lsA, ls0, ls1]
 refine mvS [0, 2] ?_
 refine mvC rfl (fun KK hKK => ?_) ?_
 ·go_simp
  generalize hy2 : World.alloc _ _ = y2
  generalize hg0 : (World.heap y1).size = g0
  have RB2 : Hid (Below W0.heap.size W0 y2) := hid (by rw [← hy2]; exact RB1.out.alloc RB1.out.size _)
  have RO2 : Hid (y2.ownsRow W0.heap.size 3 1 (.slice (some ⟨g0, 0, none⟩) 0 0) 0 []) := hid (by rw [← hy2, ← hg0]; exact World.ownsRow_made (base := W0.heap.size) (e := 3) (size := 1) _ #[] 0 RB1.out.size (by decide) (by simp))
  have RG2 : Hid (Blk y2 g6 [.int .i64 by'] 3) := hid (by rw [← hy2]; exact RG1.out.alloc _)
  have RN : g6 ≠ g0 := by have := RG1.out.lt; omega
  clear hy2 hg0
  refine hKK.out _ _ (Y0.out.below RB2.out) (fun hH2 => ?_)
  clear hKK KK
  try simp only [Act.put, lsA, ls0, ls1]
  refine mvR 2 rfl (fun KK hKK => ?_)
  have p8 := (X0.out.below RB2.out).cell (i := 8) rfl
  go_simp
  clear p8
  refine hKK.out _ _ (Y0.out.below RB2.out) (fun hH3 => ?_)
  clear hKK KK
  try simp only [Act.put, lsA, ls0, ls1]
  refine mvR 3 rfl (fun KK hKK => ?_)
  have RS := hid ((I0.out.pv.below RB2.out).rws.src)
  refine step_append_any _ rfl (.tmp 37) (.tmp 39) 23 rfl W0.heap.size 3 i0 _ 1 8 Tryz.underlying23 HI.out.1 HI.out.2.1 HI.out.2.2.1 HI.out.2.2.2 rfl (by decide) (.slice (some ⟨g0, 0, none⟩) 0 0) 0 [] rfl RO2.out a.pA E.pv.length a.pC (flat E.pv.length (rowI E.pv)) rfl RS.out (by unfold maxLen; omega) (by omega) RB2.out.size ?_
  intro v4 y3 hgr
  have RB3 : Hid (Below W0.heap.size W0 y3) := hid (hgr.below RB2.out RO2.out)
  have RV3 := hid hgr.own
  have RG3 : Hid (Blk y3 g6 [.int .i64 by'] 3) := hid ⟨(hgr.grow.block g6 RG2.out.lt (by simp [Value.ownBlock]; omega)).trans RG2.out.heap⟩
  clear hgr RS
  refine hKK.out _ _ (Y0.out.below RB3.out) (fun hH4 => ?_)
  clear hKK KK
  try simp only [Act.put, lsA, ls0, ls1]
  refine mvR 7 rfl (fun KK hKK => ?_)
  refine step_append_any _ rfl (.tmp 40) (.tmp 43) 23 rfl W0.heap.size 3 i0 _ 1 8 Tryz.underlying23 HI.out.1 HI.out.2.1 HI.out.2.2.1 HI.out.2.2.2 rfl (by decide) v4 _ _ rfl RV3.out (some ⟨g6, 0, none⟩) 1 1 [.int .i64 by'] rfl (blk_src1 RG3.out) (by unfold maxLen; omega) (by omega) RB3.out.size ?_
  intro v5 y4 hgr
  have RB4 : Hid (Below W0.heap.size W0 y4) := hid (hgr.below RB3.out RV3.out)
  have RE : Hid (y4.ownsRow W0.heap.size 3 1 v5 (E.pv ++ [by']).length (flat (E.pv ++ [by']).length (rowI (E.pv ++ [by'])))) := hid (by have := hgr.own; rw [Nat.zero_add, List.nil_append] at this; rw [flat_snoc, List.length_append]; exact this)
  clear hgr
  refine hKK.out _ _ (Y0.out.below RB4.out) (fun hH5 => ?_)
  clear hKK KK
  try simp only [Act.put, lsA, ls0, ls1]
  refine mvA 8 (v := ?hv9) rfl ?hy9 ?hr9
  case hy9 => (intro w hSw; (try dsimp only at hSw); go_simp; (try with_reducible rfl))
  try simp only [Act.put, lsA, ls0, ls1]
  refine mvR 9 rfl (fun KK hKK => ?_)
  obtain ⟨A5, c5, rfl⟩ := own_slice RE.out
  have J5 := hid (own_ins RE.out (by rw [List.length_append]; show E.pv.length + 1 ≤ 1000; omega) FT.out)
  have N5 := hid (own_new RE.out)
  refine stepV (by rfl) (wp_storeV 23 _ _ rfl w.heap.size 8 (.slice A5 (E.pv ++ [by']).length c5) (ecs E a) 34 rfl rfl (X0.out.below RB4.out) (show (8 : Nat) < 29 by decide) sz23 rfl ?_)
  have X1 := hid (show Blk (World.setCell y4 ⟨w.heap.size, 8, none⟩ (.slice A5 (E.pv ++ [by']).length c5)) w.heap.size (ecs { E with pv := E.pv ++ [by'] } { a with pA := A5, pC := c5 }) 34 from (X0.out.below RB4.out).set 8 _)
  have R1 := hid ((R0.out.below RB4.out).other ⟨w.heap.size, 8, none⟩ (.slice A5 (E.pv ++ [by']).length c5) (by show w.heap.size + 1 + 1 ≠ w.heap.size; omega))
  have Y1 := hid ((Y0.out.below RB4.out).other ⟨w.heap.size, 8, none⟩ (.slice A5 (E.pv ++ [by']).length c5) (by show w.heap.size + 1 ≠ w.heap.size; omega))
  have I1 := hid (show IsE (World.setCell y4 ⟨w.heap.size, 8, none⟩ (.slice A5 (E.pv ++ [by']).length c5)) { E with pv := E.pv ++ [by'] } { a with pA := A5, pC := c5 } from { (I0.out.below RB4.out).oneE w.heap.size 8 _ AP.out with pv := J5.out.other _ _ (fun h0 b off e => by have := N5.out b off e; show b ≠ w.heap.size; have := R0.out.lt; omega) })
  have B1 := hid ((BA.out.trans (RB4.out.mono BA.out.size)).setCell (p := ⟨w.heap.size, 8, none⟩) (Nat.le_refl _) (.slice A5 (E.pv ++ [by']).length c5))
  show KK _ (World.setCell y4 ⟨w.heap.size, 8, none⟩ (.slice A5 (E.pv ++ [by']).length c5))
  generalize World.setCell y4 ⟨w.heap.size, 8, none⟩ (.slice A5 (E.pv ++ [by']).length c5) = u1 at X1 R1 Y1 I1 B1 ⊢
  refine hKK.out _ _ (Y1.out) (fun hH6 => ?_)
  clear hKK KK
  try simp only [Act.put, lsA, ls0, ls1]
  refine wpAnyH_done (by kernel_rfl) ?_ _
  go_wp2_with (first
   | (refine wpList_load_mid rfl 34 _ rfl w.heap.size 0 rfl (ecs { E with pv := E.pv ++ [by'] } { a with pA := A5, pC := c5 }) _ X1.out.range Tryz.underlying34 rfl size34 ?_)
   | (refine store_mid_as rfl 34 _ _ rfl (w.heap.size + 1 + 1) 0 (ecs { E with pv := E.pv ++ [by'] } { a with pA := A5, pC := c5 }).toArray rfl rfl (Blk.there (n := 29) R1.out (Nat.le_refl 29)) size34 (ecs_one _ _) ?_; intro wz ez; have EZ := hid ez; clear ez)
   | fail)
  (try simp only [Exit.inBlock, Exit.then])
  refine bodyPost_ret (results_cell_mid rfl _ _ (w.heap.size + 1 + 1) (ecs { E with pv := E.pv ++ [by'] } { a with pA := A5, pC := c5 }) 34 _ rfl (by rw [EZ.out]; exact Blk.setAll R1.out _ rfl) Tryz.underlying34 rfl size34) rfl ?_
  rw [EZ.out]
  exact ⟨{ E with pv := E.pv ++ [by'] }, { a with pA := A5, pC := c5 }, rfl, I1.out.otherE _ _ _ (⟨(fun h0 b off e => by have := N5.out b off e; have := R0.out.lt; omega), AP2.out.au, AP2.out.c⟩), ⟨HS.out.z.rm, HS.out.z.sd, HS.out.z.ky, HS.out.z.sv, by rw [List.length_append]; show E.pv.length + 1 ≤ 100; have := HS.out.pv; omega, HS.out.z.au, HS.out.z.c⟩, rfl, below_setAll (show w.heap.size ≤ w.heap.size + 1 + 1 by omega) _ _ _ B1.out⟩
 refine mvC rfl (fun KK hKK => ?_) AllReadyH.nil
 have p8 := (X0.out.below RB1.out).cell (i := 8) rfl
 go_simp
 clear p8
 refine hKK.out _ _ (Y0.out.below RB1.out) (fun hH2 => ?_)
 clear hKK KK
 try simp only [Act.put, lsA, ls0, ls1]
 refine mvR 0 rfl (fun KK hKK => ?_)
 go_simp
 generalize hy2 : World.alloc _ _ = y2
 generalize hg0 : (World.heap y1).size = g0
 have RB2 : Hid (Below W0.heap.size W0 y2) := hid (by rw [← hy2]; exact RB1.out.alloc RB1.out.size _)
 have RO2 : Hid (y2.ownsRow W0.heap.size 3 1 (.slice (some ⟨g0, 0, none⟩) 0 0) 0 []) := hid (by rw [← hy2, ← hg0]; exact World.ownsRow_made (base := W0.heap.size) (e := 3) (size := 1) _ #[] 0 RB1.out.size (by decide) (by simp))
 have RG2 : Hid (Blk y2 g6 [.int .i64 by'] 3) := hid (by rw [← hy2]; exact RG1.out.alloc _)
 have RN : g6 ≠ g0 := by have := RG1.out.lt; omega
 clear hy2 hg0
 refine hKK.out _ _ (Y0.out.below RB2.out) (fun hH3 => ?_)
 clear hKK KK
 try simp only [Act.put, lsA, ls0, ls1]
 refine mvR 3 rfl (fun KK hKK => ?_)
 have RS := hid ((I0.out.pv.below RB2.out).rws.src)
 refine step_append_any _ rfl (.tmp 37) (.tmp 39) 23 rfl W0.heap.size 3 i0 _ 1 8 Tryz.underlying23 HI.out.1 HI.out.2.1 HI.out.2.2.1 HI.out.2.2.2 rfl (by decide) (.slice (some ⟨g0, 0, none⟩) 0 0) 0 [] rfl RO2.out a.pA E.pv.length a.pC (flat E.pv.length (rowI E.pv)) rfl RS.out (by unfold maxLen; omega) (by omega) RB2.out.size ?_
 intro v4 y3 hgr
 have RB3 : Hid (Below W0.heap.size W0 y3) := hid (hgr.below RB2.out RO2.out)
 have RV3 := hid hgr.own
 have RG3 : Hid (Blk y3 g6 [.int .i64 by'] 3) := hid ⟨(hgr.grow.block g6 RG2.out.lt (by simp [Value.ownBlock]; omega)).trans RG2.out.heap⟩
 clear hgr RS
 refine hKK.out _ _ (Y0.out.below RB3.out) (fun hH4 => ?_)
 clear hKK KK
 try simp only [Act.put, lsA, ls0, ls1]
 refine mvR 7 rfl (fun KK hKK => ?_)
 refine step_append_any _ rfl (.tmp 40) (.tmp 43) 23 rfl W0.heap.size 3 i0 _ 1 8 Tryz.underlying23 HI.out.1 HI.out.2.1 HI.out.2.2.1 HI.out.2.2.2 rfl (by decide) v4 _ _ rfl RV3.out (some ⟨g6, 0, none⟩) 1 1 [.int .i64 by'] rfl (blk_src1 RG3.out) (by unfold maxLen; omega) (by omega) RB3.out.size ?_
 intro v5 y4 hgr
 have RB4 : Hid (Below W0.heap.size W0 y4) := hid (hgr.below RB3.out RV3.out)
 have RE : Hid (y4.ownsRow W0.heap.size 3 1 v5 (E.pv ++ [by']).length (flat (E.pv ++ [by']).length (rowI (E.pv ++ [by'])))) := hid (by have := hgr.own; rw [Nat.zero_add, List.nil_append] at this; rw [flat_snoc, List.length_append]; exact this)
 clear hgr
 refine hKK.out _ _ (Y0.out.below RB4.out) (fun hH5 => ?_)
 clear hKK KK
 try simp only [Act.put, lsA, ls0, ls1]
 refine mvA 8 (v := ?hv10) rfl ?hy10 ?hr10
 case hy10 => (intro w hSw; (try dsimp only at hSw); go_simp; (try with_reducible rfl))
 try simp only [Act.put, lsA, ls0, ls1]
 refine mvR 9 rfl (fun KK hKK => ?_)
 obtain ⟨A5, c5, rfl⟩ := own_slice RE.out
 have J5 := hid (own_ins RE.out (by rw [List.length_append]; show E.pv.length + 1 ≤ 1000; omega) FT.out)
 have N5 := hid (own_new RE.out)
 refine stepV (by rfl) (wp_storeV 23 _ _ rfl w.heap.size 8 (.slice A5 (E.pv ++ [by']).length c5) (ecs E a) 34 rfl rfl (X0.out.below RB4.out) (show (8 : Nat) < 29 by decide) sz23 rfl ?_)
 have X1 := hid (show Blk (World.setCell y4 ⟨w.heap.size, 8, none⟩ (.slice A5 (E.pv ++ [by']).length c5)) w.heap.size (ecs { E with pv := E.pv ++ [by'] } { a with pA := A5, pC := c5 }) 34 from (X0.out.below RB4.out).set 8 _)
 have R1 := hid ((R0.out.below RB4.out).other ⟨w.heap.size, 8, none⟩ (.slice A5 (E.pv ++ [by']).length c5) (by show w.heap.size + 1 + 1 ≠ w.heap.size; omega))
 have Y1 := hid ((Y0.out.below RB4.out).other ⟨w.heap.size, 8, none⟩ (.slice A5 (E.pv ++ [by']).length c5) (by show w.heap.size + 1 ≠ w.heap.size; omega))
 have I1 := hid (show IsE (World.setCell y4 ⟨w.heap.size, 8, none⟩ (.slice A5 (E.pv ++ [by']).length c5)) { E with pv := E.pv ++ [by'] } { a with pA := A5, pC := c5 } from { (I0.out.below RB4.out).oneE w.heap.size 8 _ AP.out with pv := J5.out.other _ _ (fun h0 b off e => by have := N5.out b off e; show b ≠ w.heap.size; have := R0.out.lt; omega) })
 have B1 := hid ((BA.out.trans (RB4.out.mono BA.out.size)).setCell (p := ⟨w.heap.size, 8, none⟩) (Nat.le_refl _) (.slice A5 (E.pv ++ [by']).length c5))
 show KK _ (World.setCell y4 ⟨w.heap.size, 8, none⟩ (.slice A5 (E.pv ++ [by']).length c5))
 generalize World.setCell y4 ⟨w.heap.size, 8, none⟩ (.slice A5 (E.pv ++ [by']).length c5) = u1 at X1 R1 Y1 I1 B1 ⊢
 refine hKK.out _ _ (Y1.out) (fun hH6 => ?_)
 clear hKK KK
 try simp only [Act.put, lsA, ls0, ls1]
 refine wpAnyH_done (by kernel_rfl) ?_ _
 go_wp2_with (first
  | (refine wpList_load_mid rfl 34 _ rfl w.heap.size 0 rfl (ecs { E with pv := E.pv ++ [by'] } { a with pA := A5, pC := c5 }) _ X1.out.range Tryz.underlying34 rfl size34 ?_)
  | (refine store_mid_as rfl 34 _ _ rfl (w.heap.size + 1 + 1) 0 (ecs { E with pv := E.pv ++ [by'] } { a with pA := A5, pC := c5 }).toArray rfl rfl (Blk.there (n := 29) R1.out (Nat.le_refl 29)) size34 (ecs_one _ _) ?_; intro wz ez; have EZ := hid ez; clear ez)
  | fail)
 (try simp only [Exit.inBlock, Exit.then])
 refine bodyPost_ret (results_cell_mid rfl _ _ (w.heap.size + 1 + 1) (ecs { E with pv := E.pv ++ [by'] } { a with pA := A5, pC := c5 }) 34 _ rfl (by rw [EZ.out]; exact Blk.setAll R1.out _ rfl) Tryz.underlying34 rfl size34) rfl ?_
 rw [EZ.out]
 exact ⟨{ E with pv := E.pv ++ [by'] }, { a with pA := A5, pC := c5 }, rfl, I1.out.otherE _ _ _ (⟨(fun h0 b off e => by have := N5.out b off e; have := R0.out.lt; omega), AP2.out.au, AP2.out.c⟩), ⟨HS.out.z.rm, HS.out.z.sd, HS.out.z.ky, HS.out.z.sv, by rw [List.length_append]; show E.pv.length + 1 ≤ 100; have := HS.out.pv; omega, HS.out.z.au, HS.out.z.c⟩, rfl, below_setAll (show w.heap.size ≤ w.heap.size + 1 + 1 by omega) _ _ _ B1.out⟩
set_option maxHeartbeats 32000000 in
theorem changed_au (E : Ew) (a : Aw) (fd by' : Int) (w : World) (h : IsE w E a) (hs : SmX E) (hby : i64B by') (c0 : ((IntKind.u64.wrap fd).tmod 7 == 0) = false) (c1 : ((IntKind.u64.wrap fd).tmod 7 == 1) = false) (c2 : ((IntKind.u64.wrap fd).tmod 7 == 2) = false) (c3 : ((IntKind.u64.wrap fd).tmod 7 == 3) = false) (c4 : ((IntKind.u64.wrap fd).tmod 7 == 4) = true) : Calls Tryz.prog 33 #[.agg (ecs E a).toArray, .agg #[.int .i64 fd, .int .i64 by']] w (ChP E w) := by
 have BA := hid ((((Below.refl w.heap.size w).alloc (Nat.le_refl _) (.cells (ecs E a).toArray 34)).alloc (by simp) (.cells #[.int .i64 fd, .int .i64 by'] 49)).alloc (by simp; omega) (.cells z29.toArray 34))
 have X0 := hid (((blk_new w (ecs E a) 34).alloc (.cells #[.int .i64 fd, .int .i64 by'] 49)).alloc (.cells z29.toArray 34))
 have Y0 := hid ((blk_new2 w (.cells (ecs E a).toArray 34) [.int .i64 fd, .int .i64 by'] 49).alloc (.cells z29.toArray 34))
 have R0 := hid (show Blk (((w.alloc (.cells (ecs E a).toArray 34)).alloc (.cells #[.int .i64 fd, .int .i64 by'] 49)).alloc (.cells z29.toArray 34)) (w.heap.size + 1 + 1) z29 34 by simpa using blk_new ((w.alloc (.cells (ecs E a).toArray 34)).alloc (.cells #[.int .i64 fd, .int .i64 by'] 49)) z29 34)
 have HE := hid h
 have HS := hid hs
 have AP := hid (h.ap (Nat.le_refl w.heap.size))
 have AP2 := hid (h.ap (show w.heap.size ≤ w.heap.size + 1 + 1 by omega))
 generalize hW0 : ((w.alloc (.cells (ecs E a).toArray 34)).alloc (.cells #[.int .i64 fd, .int .i64 by'] 49)).alloc (.cells z29.toArray 34) = W0 at BA X0 Y0 R0
 have I0 := hid (HE.out.below BA.out)
 clear h hs
 dsimp only [ecs, z29] at hW0 ⊢
 have p0 := Y0.out.cell (i := 0) rfl
 have p1 := Y0.out.cell (i := 1) rfl
 have m1 := HE.out.au.rws.big
 have m2 := HS.out.au
 have FT := hid (show ∀ z ∈ E.au ++ [by'], i64B z by
  intro z hz
  rcases List.mem_append.1 hz with q | q
  ·exact HE.out.au.fit z q
  ·rw [List.mem_singleton] at q; rw [q]; exact hby)
 obtain ⟨i0, hi, hz0, hz1, hz2⟩ := info_parts info3k
 have HI := hid (And.intro hi (And.intro hz0 (And.intro hz1 hz2)))
 clear hi hz0 hz1 hz2 hby
 go_enter Tryz.func33, Tryz.ntmps33
 go_upto_region 12 with (fail)
 refine wp_region_held_drew (S := (fun y => Blk y (w.heap.size + 1) [.int .i64 fd, .int .i64 by'] 49)) (by kernel_rfl) (Y0.out.below (Below.refl W0.heap.size W0).drew) (fun hH0 => ?_)
 have hD := (Below.refl W0.heap.size W0).drew
 generalize hy0 : World.drew W0 = y0 at hD hH0 ⊢
 have RB0 := hid hD
 clear hy0 hD
 refine mvA 1 (v := ?hv11) rfl ?hy11 ?hr11
 case hy11 => (intro w hSw; (try dsimp only at hSw); go_simp; (try with_reducible rfl))
 try simp only [Act.put, lsA, ls0, ls1]
 refine mvA 4 (v := ?hv12) rfl ?hy12 ?hr12
 case hy12 => (intro w hSw; (try dsimp only at hSw); go_simp; (try with_reducible rfl))
 try simp only [Act.put, lsA, ls0, ls1]
 refine mvA 5 (v := (.int .i64 by')) rfl (fun w0 hw0 => by have q0 := hw0.cell (i := 1) rfl; go_simp) ?_
 try simp only [Act.put, lsA, ls0, ls1]
 refine mvS [0, 2, 6] ?_
 refine mvC rfl (fun KK hKK => ?_) ?_
 ·go_simp
  generalize hy1 : World.alloc _ _ = y1
  generalize hg0 : (World.heap y0).size = g0
  have RB1 : Hid (Below W0.heap.size W0 y1) := hid (by rw [← hy1]; exact RB0.out.alloc RB0.out.size _)
  have RO1 : Hid (y1.ownsRow W0.heap.size 3 1 (.slice (some ⟨g0, 0, none⟩) 0 0) 0 []) := hid (by rw [← hy1, ← hg0]; exact World.ownsRow_made (base := W0.heap.size) (e := 3) (size := 1) _ #[] 0 RB0.out.size (by decide) (by simp))
  clear hy1 hg0
  refine hKK.out _ _ (Y0.out.below RB1.out) (fun hH1 => ?_)
  clear hKK KK
  try simp only [Act.put, lsA, ls0, ls1]
  refine mvS [2, 6] ?_
  refine mvC rfl (fun KK hKK => ?_) ?_
  ·have p8 := (X0.out.below RB1.out).cell (i := 9) rfl
   go_simp
   clear p8
   refine hKK.out _ _ (Y0.out.below RB1.out) (fun hH2 => ?_)
   clear hKK KK
   try simp only [Act.put, lsA, ls0, ls1]
   refine mvS [3, 6] ?_
   refine mvC rfl (fun KK hKK => ?_) ?_
   ·have RS := hid ((I0.out.au.below RB1.out).rws.src)
    refine step_append_any _ rfl (.tmp 48) (.tmp 50) 23 rfl W0.heap.size 3 i0 _ 1 8 Tryz.underlying23 HI.out.1 HI.out.2.1 HI.out.2.2.1 HI.out.2.2.2 rfl (by decide) (.slice (some ⟨g0, 0, none⟩) 0 0) 0 [] rfl RO1.out a.qA E.au.length a.qC (flat E.au.length (rowI E.au)) rfl RS.out (by unfold maxLen; omega) (by omega) RB1.out.size ?_
    intro v4 y2 hgr
    have RB2 : Hid (Below W0.heap.size W0 y2) := hid (hgr.below RB1.out RO1.out)
    have RV2 := hid hgr.own
    clear hgr RS
    refine hKK.out _ _ (Y0.out.below RB2.out) (fun hH3 => ?_)
    clear hKK KK
    try simp only [Act.put, lsA, ls0, ls1]
    refine mvR 6 rfl (fun KK hKK => ?_)
    go_simp
    generalize hy3 : World.alloc _ _ = y3
    generalize hg6 : (World.heap y2).size = g6
    have RB3 : Hid (Below W0.heap.size W0 y3) := hid (by rw [← hy3]; exact RB2.out.alloc RB2.out.size _)
    have RG3 : Hid (Blk y3 g6 [.int .i64 by'] 3) := hid (by rw [← hy3, ← hg6]; exact blk_new _ [.int .i64 by'] 3)
    have RV3 : Hid (y3.ownsRow W0.heap.size 3 1 v4 (0 + E.au.length) ([] ++ flat E.au.length (rowI E.au))) := hid (by rw [← hy3]; exact RV2.out.alloc _)
    clear hy3 hg6
    refine hKK.out _ _ (Y0.out.below RB3.out) (fun hH4 => ?_)
    clear hKK KK
    try simp only [Act.put, lsA, ls0, ls1]
    refine mvR 7 rfl (fun KK hKK => ?_)
    refine step_append_any _ rfl (.tmp 51) (.tmp 54) 23 rfl W0.heap.size 3 i0 _ 1 8 Tryz.underlying23 HI.out.1 HI.out.2.1 HI.out.2.2.1 HI.out.2.2.2 rfl (by decide) v4 _ _ rfl RV3.out (some ⟨g6, 0, none⟩) 1 1 [.int .i64 by'] rfl (blk_src1 RG3.out) (by unfold maxLen; omega) (by omega) RB3.out.size ?_
    intro v5 y4 hgr
    have RB4 : Hid (Below W0.heap.size W0 y4) := hid (hgr.below RB3.out RV3.out)
    have RE : Hid (y4.ownsRow W0.heap.size 3 1 v5 (E.au ++ [by']).length (flat (E.au ++ [by']).length (rowI (E.au ++ [by'])))) := hid (by have := hgr.own; rw [Nat.zero_add, List.nil_append] at this; rw [flat_snoc, List.length_append]; exact this)
    clear hgr
    refine hKK.out _ _ (Y0.out.below RB4.out) (fun hH5 => ?_)
    clear hKK KK
    try simp only [Act.put, lsA, ls0, ls1]
    refine mvA 8 (v := ?hv13) rfl ?hy13 ?hr13
    case hy13 => (intro w hSw; (try dsimp only at hSw); go_simp; (try with_reducible rfl))
    try simp only [Act.put, lsA, ls0, ls1]
    refine mvR 9 rfl (fun KK hKK => ?_)
    obtain ⟨A5, c5, rfl⟩ := own_slice RE.out
    have J5 := hid (own_ins RE.out (by rw [List.length_append]; show E.au.length + 1 ≤ 1000; omega) FT.out)
    have N5 := hid (own_new RE.out)
    refine stepV (by rfl) (wp_storeV 23 _ _ rfl w.heap.size 9 (.slice A5 (E.au ++ [by']).length c5) (ecs E a) 34 rfl rfl (X0.out.below RB4.out) (show (9 : Nat) < 29 by decide) sz23 rfl ?_)
    have X1 := hid (show Blk (World.setCell y4 ⟨w.heap.size, 9, none⟩ (.slice A5 (E.au ++ [by']).length c5)) w.heap.size (ecs { E with au := E.au ++ [by'] } { a with qA := A5, qC := c5 }) 34 from (X0.out.below RB4.out).set 9 _)
    have R1 := hid ((R0.out.below RB4.out).other ⟨w.heap.size, 9, none⟩ (.slice A5 (E.au ++ [by']).length c5) (by show w.heap.size + 1 + 1 ≠ w.heap.size; omega))
    have Y1 := hid ((Y0.out.below RB4.out).other ⟨w.heap.size, 9, none⟩ (.slice A5 (E.au ++ [by']).length c5) (by show w.heap.size + 1 ≠ w.heap.size; omega))
    have I1 := hid (show IsE (World.setCell y4 ⟨w.heap.size, 9, none⟩ (.slice A5 (E.au ++ [by']).length c5)) { E with au := E.au ++ [by'] } { a with qA := A5, qC := c5 } from { (I0.out.below RB4.out).oneE w.heap.size 9 _ AP.out with au := J5.out.other _ _ (fun h0 b off e => by have := N5.out b off e; show b ≠ w.heap.size; have := R0.out.lt; omega) })
    have B1 := hid ((BA.out.trans (RB4.out.mono BA.out.size)).setCell (p := ⟨w.heap.size, 9, none⟩) (Nat.le_refl _) (.slice A5 (E.au ++ [by']).length c5))
    show KK _ (World.setCell y4 ⟨w.heap.size, 9, none⟩ (.slice A5 (E.au ++ [by']).length c5))
    generalize World.setCell y4 ⟨w.heap.size, 9, none⟩ (.slice A5 (E.au ++ [by']).length c5) = u1 at X1 R1 Y1 I1 B1 ⊢
    refine hKK.out _ _ (Y1.out) (fun hH6 => ?_)
    clear hKK KK
    try simp only [Act.put, lsA, ls0, ls1]
    refine wpAnyH_done (by kernel_rfl) ?_ _
    go_wp2_with (first
     | (refine wpList_load_mid rfl 34 _ rfl w.heap.size 0 rfl (ecs { E with au := E.au ++ [by'] } { a with qA := A5, qC := c5 }) _ X1.out.range Tryz.underlying34 rfl size34 ?_)
     | (refine store_mid_as rfl 34 _ _ rfl (w.heap.size + 1 + 1) 0 (ecs { E with au := E.au ++ [by'] } { a with qA := A5, qC := c5 }).toArray rfl rfl (Blk.there (n := 29) R1.out (Nat.le_refl 29)) size34 (ecs_one _ _) ?_; intro wz ez; have EZ := hid ez; clear ez)
     | fail)
    (try simp only [Exit.inBlock, Exit.then])
    refine bodyPost_ret (results_cell_mid rfl _ _ (w.heap.size + 1 + 1) (ecs { E with au := E.au ++ [by'] } { a with qA := A5, qC := c5 }) 34 _ rfl (by rw [EZ.out]; exact Blk.setAll R1.out _ rfl) Tryz.underlying34 rfl size34) rfl ?_
    rw [EZ.out]
    exact ⟨{ E with au := E.au ++ [by'] }, { a with qA := A5, qC := c5 }, rfl, I1.out.otherE _ _ _ (⟨AP2.out.pv, (fun h0 b off e => by have := N5.out b off e; have := R0.out.lt; omega), AP2.out.c⟩), ⟨HS.out.z.rm, HS.out.z.sd, HS.out.z.ky, HS.out.z.sv, HS.out.z.pv, by rw [List.length_append]; show E.au.length + 1 ≤ 100; have := HS.out.au; omega, HS.out.z.c⟩, rfl, below_setAll (show w.heap.size ≤ w.heap.size + 1 + 1 by omega) _ _ _ B1.out⟩
   refine mvC rfl (fun KK hKK => ?_) AllReadyH.nil
   go_simp
   generalize hy2 : World.alloc _ _ = y2
   generalize hg6 : (World.heap y1).size = g6
   have RB2 : Hid (Below W0.heap.size W0 y2) := hid (by rw [← hy2]; exact RB1.out.alloc RB1.out.size _)
   have RG2 : Hid (Blk y2 g6 [.int .i64 by'] 3) := hid (by rw [← hy2, ← hg6]; exact blk_new _ [.int .i64 by'] 3)
   have RO2 : Hid (y2.ownsRow W0.heap.size 3 1 (.slice (some ⟨g0, 0, none⟩) 0 0) 0 []) := hid (by rw [← hy2]; exact RO1.out.alloc _)
   have RN : g6 ≠ g0 := by have := (RO1.out.lt g0 rfl).2; omega
   clear hy2 hg6
   refine hKK.out _ _ (Y0.out.below RB2.out) (fun hH3 => ?_)
   clear hKK KK
   try simp only [Act.put, lsA, ls0, ls1]
   refine mvR 3 rfl (fun KK hKK => ?_)
   have RS := hid ((I0.out.au.below RB2.out).rws.src)
   refine step_append_any _ rfl (.tmp 48) (.tmp 50) 23 rfl W0.heap.size 3 i0 _ 1 8 Tryz.underlying23 HI.out.1 HI.out.2.1 HI.out.2.2.1 HI.out.2.2.2 rfl (by decide) (.slice (some ⟨g0, 0, none⟩) 0 0) 0 [] rfl RO2.out a.qA E.au.length a.qC (flat E.au.length (rowI E.au)) rfl RS.out (by unfold maxLen; omega) (by omega) RB2.out.size ?_
   intro v4 y3 hgr
   have RB3 : Hid (Below W0.heap.size W0 y3) := hid (hgr.below RB2.out RO2.out)
   have RV3 := hid hgr.own
   have RG3 : Hid (Blk y3 g6 [.int .i64 by'] 3) := hid ⟨(hgr.grow.block g6 RG2.out.lt (by simp [Value.ownBlock]; omega)).trans RG2.out.heap⟩
   clear hgr RS
   refine hKK.out _ _ (Y0.out.below RB3.out) (fun hH4 => ?_)
   clear hKK KK
   try simp only [Act.put, lsA, ls0, ls1]
   refine mvR 7 rfl (fun KK hKK => ?_)
   refine step_append_any _ rfl (.tmp 51) (.tmp 54) 23 rfl W0.heap.size 3 i0 _ 1 8 Tryz.underlying23 HI.out.1 HI.out.2.1 HI.out.2.2.1 HI.out.2.2.2 rfl (by decide) v4 _ _ rfl RV3.out (some ⟨g6, 0, none⟩) 1 1 [.int .i64 by'] rfl (blk_src1 RG3.out) (by unfold maxLen; omega) (by omega) RB3.out.size ?_
   intro v5 y4 hgr
   have RB4 : Hid (Below W0.heap.size W0 y4) := hid (hgr.below RB3.out RV3.out)
   have RE : Hid (y4.ownsRow W0.heap.size 3 1 v5 (E.au ++ [by']).length (flat (E.au ++ [by']).length (rowI (E.au ++ [by'])))) := hid (by have := hgr.own; rw [Nat.zero_add, List.nil_append] at this; rw [flat_snoc, List.length_append]; exact this)
   clear hgr
   refine hKK.out _ _ (Y0.out.below RB4.out) (fun hH5 => ?_)
   clear hKK KK
   try simp only [Act.put, lsA, ls0, ls1]
   refine mvA 8 (v := ?hv14) rfl ?hy14 ?hr14
   case hy14 => (intro w hSw; (try dsimp only at hSw); go_simp; (try with_reducible rfl))
   try simp only [Act.put, lsA, ls0, ls1]
   refine mvR 9 rfl (fun KK hKK => ?_)
   obtain ⟨A5, c5, rfl⟩ := own_slice RE.out
   have J5 := hid (own_ins RE.out (by rw [List.length_append]; show E.au.length + 1 ≤ 1000; omega) FT.out)
   have N5 := hid (own_new RE.out)
   refine stepV (by rfl) (wp_storeV 23 _ _ rfl w.heap.size 9 (.slice A5 (E.au ++ [by']).length c5) (ecs E a) 34 rfl rfl (X0.out.below RB4.out) (show (9 : Nat) < 29 by decide) sz23 rfl ?_)
   have X1 := hid (show Blk (World.setCell y4 ⟨w.heap.size, 9, none⟩ (.slice A5 (E.au ++ [by']).length c5)) w.heap.size (ecs { E with au := E.au ++ [by'] } { a with qA := A5, qC := c5 }) 34 from (X0.out.below RB4.out).set 9 _)
   have R1 := hid ((R0.out.below RB4.out).other ⟨w.heap.size, 9, none⟩ (.slice A5 (E.au ++ [by']).length c5) (by show w.heap.size + 1 + 1 ≠ w.heap.size; omega))
   have Y1 := hid ((Y0.out.below RB4.out).other ⟨w.heap.size, 9, none⟩ (.slice A5 (E.au ++ [by']).length c5) (by show w.heap.size + 1 ≠ w.heap.size; omega))
   have I1 := hid (show IsE (World.setCell y4 ⟨w.heap.size, 9, none⟩ (.slice A5 (E.au ++ [by']).length c5)) { E with au := E.au ++ [by'] } { a with qA := A5, qC := c5 } from { (I0.out.below RB4.out).oneE w.heap.size 9 _ AP.out with au := J5.out.other _ _ (fun h0 b off e => by have := N5.out b off e; show b ≠ w.heap.size; have := R0.out.lt; omega) })
   have B1 := hid ((BA.out.trans (RB4.out.mono BA.out.size)).setCell (p := ⟨w.heap.size, 9, none⟩) (Nat.le_refl _) (.slice A5 (E.au ++ [by']).length c5))
   show KK _ (World.setCell y4 ⟨w.heap.size, 9, none⟩ (.slice A5 (E.au ++ [by']).length c5))
   generalize World.setCell y4 ⟨w.heap.size, 9, none⟩ (.slice A5 (E.au ++ [by']).length c5) = u1 at X1 R1 Y1 I1 B1 ⊢
   refine hKK.out _ _ (Y1.out) (fun hH6 => ?_)
   clear hKK KK
   try simp only [Act.put, lsA, ls0, ls1]
   refine wpAnyH_done (by kernel_rfl) ?_ _
   go_wp2_with (first
    | (refine wpList_load_mid rfl 34 _ rfl w.heap.size 0 rfl (ecs { E with au := E.au ++ [by'] } { a with qA := A5, qC := c5 }) _ X1.out.range Tryz.underlying34 rfl size34 ?_)
    | (refine store_mid_as rfl 34 _ _ rfl (w.heap.size + 1 + 1) 0 (ecs { E with au := E.au ++ [by'] } { a with qA := A5, qC := c5 }).toArray rfl rfl (Blk.there (n := 29) R1.out (Nat.le_refl 29)) size34 (ecs_one _ _) ?_; intro wz ez; have EZ := hid ez; clear ez)
    | fail)
   (try simp only [Exit.inBlock, Exit.then])
   refine bodyPost_ret (results_cell_mid rfl _ _ (w.heap.size + 1 + 1) (ecs { E with au := E.au ++ [by'] } { a with qA := A5, qC := c5 }) 34 _ rfl (by rw [EZ.out]; exact Blk.setAll R1.out _ rfl) Tryz.underlying34 rfl size34) rfl ?_
   rw [EZ.out]
   exact ⟨{ E with au := E.au ++ [by'] }, { a with qA := A5, qC := c5 }, rfl, I1.out.otherE _ _ _ (⟨AP2.out.pv, (fun h0 b off e => by have := N5.out b off e; have := R0.out.lt; omega), AP2.out.c⟩), ⟨HS.out.z.rm, HS.out.z.sd, HS.out.z.ky, HS.out.z.sv, HS.out.z.pv, by rw [List.length_append]; show E.au.length + 1 ≤ 100; have := HS.out.au; omega, HS.out.z.c⟩, rfl, below_setAll (show w.heap.size ≤ w.heap.size + 1 + 1 by omega) _ _ _ B1.out⟩
  refine mvC rfl (fun KK hKK => ?_) AllReadyH.nil
  go_simp
  generalize hy2 : World.alloc _ _ = y2
  generalize hg6 : (World.heap y1).size = g6
  have RB2 : Hid (Below W0.heap.size W0 y2) := hid (by rw [← hy2]; exact RB1.out.alloc RB1.out.size _)
  have RG2 : Hid (Blk y2 g6 [.int .i64 by'] 3) := hid (by rw [← hy2, ← hg6]; exact blk_new _ [.int .i64 by'] 3)
  have RO2 : Hid (y2.ownsRow W0.heap.size 3 1 (.slice (some ⟨g0, 0, none⟩) 0 0) 0 []) := hid (by rw [← hy2]; exact RO1.out.alloc _)
  have RN : g6 ≠ g0 := by have := (RO1.out.lt g0 rfl).2; omega
  clear hy2 hg6
  refine hKK.out _ _ (Y0.out.below RB2.out) (fun hH2 => ?_)
  clear hKK KK
  try simp only [Act.put, lsA, ls0, ls1]
  refine mvR 2 rfl (fun KK hKK => ?_)
  have p8 := (X0.out.below RB2.out).cell (i := 9) rfl
  go_simp
  clear p8
  refine hKK.out _ _ (Y0.out.below RB2.out) (fun hH3 => ?_)
  clear hKK KK
  try simp only [Act.put, lsA, ls0, ls1]
  refine mvR 3 rfl (fun KK hKK => ?_)
  have RS := hid ((I0.out.au.below RB2.out).rws.src)
  refine step_append_any _ rfl (.tmp 48) (.tmp 50) 23 rfl W0.heap.size 3 i0 _ 1 8 Tryz.underlying23 HI.out.1 HI.out.2.1 HI.out.2.2.1 HI.out.2.2.2 rfl (by decide) (.slice (some ⟨g0, 0, none⟩) 0 0) 0 [] rfl RO2.out a.qA E.au.length a.qC (flat E.au.length (rowI E.au)) rfl RS.out (by unfold maxLen; omega) (by omega) RB2.out.size ?_
  intro v4 y3 hgr
  have RB3 : Hid (Below W0.heap.size W0 y3) := hid (hgr.below RB2.out RO2.out)
  have RV3 := hid hgr.own
  have RG3 : Hid (Blk y3 g6 [.int .i64 by'] 3) := hid ⟨(hgr.grow.block g6 RG2.out.lt (by simp [Value.ownBlock]; omega)).trans RG2.out.heap⟩
  clear hgr RS
  refine hKK.out _ _ (Y0.out.below RB3.out) (fun hH4 => ?_)
  clear hKK KK
  try simp only [Act.put, lsA, ls0, ls1]
  refine mvR 7 rfl (fun KK hKK => ?_)
  refine step_append_any _ rfl (.tmp 51) (.tmp 54) 23 rfl W0.heap.size 3 i0 _ 1 8 Tryz.underlying23 HI.out.1 HI.out.2.1 HI.out.2.2.1 HI.out.2.2.2 rfl (by decide) v4 _ _ rfl RV3.out (some ⟨g6, 0, none⟩) 1 1 [.int .i64 by'] rfl (blk_src1 RG3.out) (by unfold maxLen; omega) (by omega) RB3.out.size ?_
  intro v5 y4 hgr
  have RB4 : Hid (Below W0.heap.size W0 y4) := hid (hgr.below RB3.out RV3.out)
  have RE : Hid (y4.ownsRow W0.heap.size 3 1 v5 (E.au ++ [by']).length (flat (E.au ++ [by']).length (rowI (E.au ++ [by'])))) := hid (by have := hgr.own; rw [Nat.zero_add, List.nil_append] at this; rw [flat_snoc, List.length_append]; exact this)
  clear hgr
  refine hKK.out _ _ (Y0.out.below RB4.out) (fun hH5 => ?_)
  clear hKK KK
  try simp only [Act.put, lsA, ls0, ls1]
  refine mvA 8 (v := ?hv15) rfl ?hy15 ?hr15
  case hy15 => (intro w hSw; (try dsimp only at hSw); go_simp; (try with_reducible rfl))
  try simp only [Act.put, lsA, ls0, ls1]
  refine mvR 9 rfl (fun KK hKK => ?_)
  obtain ⟨A5, c5, rfl⟩ := own_slice RE.out
  have J5 := hid (own_ins RE.out (by rw [List.length_append]; show E.au.length + 1 ≤ 1000; omega) FT.out)
  have N5 := hid (own_new RE.out)
  refine stepV (by rfl) (wp_storeV 23 _ _ rfl w.heap.size 9 (.slice A5 (E.au ++ [by']).length c5) (ecs E a) 34 rfl rfl (X0.out.below RB4.out) (show (9 : Nat) < 29 by decide) sz23 rfl ?_)
  have X1 := hid (show Blk (World.setCell y4 ⟨w.heap.size, 9, none⟩ (.slice A5 (E.au ++ [by']).length c5)) w.heap.size (ecs { E with au := E.au ++ [by'] } { a with qA := A5, qC := c5 }) 34 from (X0.out.below RB4.out).set 9 _)
  have R1 := hid ((R0.out.below RB4.out).other ⟨w.heap.size, 9, none⟩ (.slice A5 (E.au ++ [by']).length c5) (by show w.heap.size + 1 + 1 ≠ w.heap.size; omega))
  have Y1 := hid ((Y0.out.below RB4.out).other ⟨w.heap.size, 9, none⟩ (.slice A5 (E.au ++ [by']).length c5) (by show w.heap.size + 1 ≠ w.heap.size; omega))
  have I1 := hid (show IsE (World.setCell y4 ⟨w.heap.size, 9, none⟩ (.slice A5 (E.au ++ [by']).length c5)) { E with au := E.au ++ [by'] } { a with qA := A5, qC := c5 } from { (I0.out.below RB4.out).oneE w.heap.size 9 _ AP.out with au := J5.out.other _ _ (fun h0 b off e => by have := N5.out b off e; show b ≠ w.heap.size; have := R0.out.lt; omega) })
  have B1 := hid ((BA.out.trans (RB4.out.mono BA.out.size)).setCell (p := ⟨w.heap.size, 9, none⟩) (Nat.le_refl _) (.slice A5 (E.au ++ [by']).length c5))
  show KK _ (World.setCell y4 ⟨w.heap.size, 9, none⟩ (.slice A5 (E.au ++ [by']).length c5))
  generalize World.setCell y4 ⟨w.heap.size, 9, none⟩ (.slice A5 (E.au ++ [by']).length c5) = u1 at X1 R1 Y1 I1 B1 ⊢
  refine hKK.out _ _ (Y1.out) (fun hH6 => ?_)
  clear hKK KK
  try simp only [Act.put, lsA, ls0, ls1]
  refine wpAnyH_done (by kernel_rfl) ?_ _
  go_wp2_with (first
   | (refine wpList_load_mid rfl 34 _ rfl w.heap.size 0 rfl (ecs { E with au := E.au ++ [by'] } { a with qA := A5, qC := c5 }) _ X1.out.range Tryz.underlying34 rfl size34 ?_)
   | (refine store_mid_as rfl 34 _ _ rfl (w.heap.size + 1 + 1) 0 (ecs { E with au := E.au ++ [by'] } { a with qA := A5, qC := c5 }).toArray rfl rfl (Blk.there (n := 29) R1.out (Nat.le_refl 29)) size34 (ecs_one _ _) ?_; intro wz ez; have EZ := hid ez; clear ez)
   | fail)
  (try simp only [Exit.inBlock, Exit.then])
  refine bodyPost_ret (results_cell_mid rfl _ _ (w.heap.size + 1 + 1) (ecs { E with au := E.au ++ [by'] } { a with qA := A5, qC := c5 }) 34 _ rfl (by rw [EZ.out]; exact Blk.setAll R1.out _ rfl) Tryz.underlying34 rfl size34) rfl ?_
  rw [EZ.out]
  exact ⟨{ E with au := E.au ++ [by'] }, { a with qA := A5, qC := c5 }, rfl, I1.out.otherE _ _ _ (⟨AP2.out.pv, (fun h0 b off e => by have := N5.out b off e; have := R0.out.lt; omega), AP2.out.c⟩), ⟨HS.out.z.rm, HS.out.z.sd, HS.out.z.ky, HS.out.z.sv, HS.out.z.pv, by rw [List.length_append]; show E.au.length + 1 ≤ 100; have := HS.out.au; omega, HS.out.z.c⟩, rfl, below_setAll (show w.heap.size ≤ w.heap.size + 1 + 1 by omega) _ _ _ B1.out⟩
 refine mvC rfl (fun KK hKK => ?_) ?_
 ·have p8 := (X0.out.below RB0.out).cell (i := 9) rfl
  go_simp
  clear p8
  refine hKK.out _ _ (Y0.out.below RB0.out) (fun hH1 => ?_)
  clear hKK KK
  try simp only [Act.put, lsA, ls0, ls1]
  refine mvS [0, 6] ?_
  refine mvC rfl (fun KK hKK => ?_) ?_
  ·go_simp
   generalize hy1 : World.alloc _ _ = y1
   generalize hg0 : (World.heap y0).size = g0
   have RB1 : Hid (Below W0.heap.size W0 y1) := hid (by rw [← hy1]; exact RB0.out.alloc RB0.out.size _)
   have RO1 : Hid (y1.ownsRow W0.heap.size 3 1 (.slice (some ⟨g0, 0, none⟩) 0 0) 0 []) := hid (by rw [← hy1, ← hg0]; exact World.ownsRow_made (base := W0.heap.size) (e := 3) (size := 1) _ #[] 0 RB0.out.size (by decide) (by simp))
   clear hy1 hg0
   refine hKK.out _ _ (Y0.out.below RB1.out) (fun hH2 => ?_)
   clear hKK KK
   try simp only [Act.put, lsA, ls0, ls1]
   refine mvS [3, 6] ?_
   refine mvC rfl (fun KK hKK => ?_) ?_
   ·have RS := hid ((I0.out.au.below RB1.out).rws.src)
    refine step_append_any _ rfl (.tmp 48) (.tmp 50) 23 rfl W0.heap.size 3 i0 _ 1 8 Tryz.underlying23 HI.out.1 HI.out.2.1 HI.out.2.2.1 HI.out.2.2.2 rfl (by decide) (.slice (some ⟨g0, 0, none⟩) 0 0) 0 [] rfl RO1.out a.qA E.au.length a.qC (flat E.au.length (rowI E.au)) rfl RS.out (by unfold maxLen; omega) (by omega) RB1.out.size ?_
    intro v4 y2 hgr
    have RB2 : Hid (Below W0.heap.size W0 y2) := hid (hgr.below RB1.out RO1.out)
    have RV2 := hid hgr.own
    clear hgr RS
    refine hKK.out _ _ (Y0.out.below RB2.out) (fun hH3 => ?_)
    clear hKK KK
    try simp only [Act.put, lsA, ls0, ls1]
    refine mvR 6 rfl (fun KK hKK => ?_)
    go_simp
    generalize hy3 : World.alloc _ _ = y3
    generalize hg6 : (World.heap y2).size = g6
    have RB3 : Hid (Below W0.heap.size W0 y3) := hid (by rw [← hy3]; exact RB2.out.alloc RB2.out.size _)
    have RG3 : Hid (Blk y3 g6 [.int .i64 by'] 3) := hid (by rw [← hy3, ← hg6]; exact blk_new _ [.int .i64 by'] 3)
    have RV3 : Hid (y3.ownsRow W0.heap.size 3 1 v4 (0 + E.au.length) ([] ++ flat E.au.length (rowI E.au))) := hid (by rw [← hy3]; exact RV2.out.alloc _)
    clear hy3 hg6
    refine hKK.out _ _ (Y0.out.below RB3.out) (fun hH4 => ?_)
    clear hKK KK
    try simp only [Act.put, lsA, ls0, ls1]
    refine mvR 7 rfl (fun KK hKK => ?_)
    refine step_append_any _ rfl (.tmp 51) (.tmp 54) 23 rfl W0.heap.size 3 i0 _ 1 8 Tryz.underlying23 HI.out.1 HI.out.2.1 HI.out.2.2.1 HI.out.2.2.2 rfl (by decide) v4 _ _ rfl RV3.out (some ⟨g6, 0, none⟩) 1 1 [.int .i64 by'] rfl (blk_src1 RG3.out) (by unfold maxLen; omega) (by omega) RB3.out.size ?_
    intro v5 y4 hgr
    have RB4 : Hid (Below W0.heap.size W0 y4) := hid (hgr.below RB3.out RV3.out)
    have RE : Hid (y4.ownsRow W0.heap.size 3 1 v5 (E.au ++ [by']).length (flat (E.au ++ [by']).length (rowI (E.au ++ [by'])))) := hid (by have := hgr.own; rw [Nat.zero_add, List.nil_append] at this; rw [flat_snoc, List.length_append]; exact this)
    clear hgr
    refine hKK.out _ _ (Y0.out.below RB4.out) (fun hH5 => ?_)
    clear hKK KK
    try simp only [Act.put, lsA, ls0, ls1]
    refine mvA 8 (v := ?hv16) rfl ?hy16 ?hr16
    case hy16 => (intro w hSw; (try dsimp only at hSw); go_simp; (try with_reducible rfl))
    try simp only [Act.put, lsA, ls0, ls1]
    refine mvR 9 rfl (fun KK hKK => ?_)
    obtain ⟨A5, c5, rfl⟩ := own_slice RE.out
    have J5 := hid (own_ins RE.out (by rw [List.length_append]; show E.au.length + 1 ≤ 1000; omega) FT.out)
    have N5 := hid (own_new RE.out)
    refine stepV (by rfl) (wp_storeV 23 _ _ rfl w.heap.size 9 (.slice A5 (E.au ++ [by']).length c5) (ecs E a) 34 rfl rfl (X0.out.below RB4.out) (show (9 : Nat) < 29 by decide) sz23 rfl ?_)
    have X1 := hid (show Blk (World.setCell y4 ⟨w.heap.size, 9, none⟩ (.slice A5 (E.au ++ [by']).length c5)) w.heap.size (ecs { E with au := E.au ++ [by'] } { a with qA := A5, qC := c5 }) 34 from (X0.out.below RB4.out).set 9 _)
    have R1 := hid ((R0.out.below RB4.out).other ⟨w.heap.size, 9, none⟩ (.slice A5 (E.au ++ [by']).length c5) (by show w.heap.size + 1 + 1 ≠ w.heap.size; omega))
    have Y1 := hid ((Y0.out.below RB4.out).other ⟨w.heap.size, 9, none⟩ (.slice A5 (E.au ++ [by']).length c5) (by show w.heap.size + 1 ≠ w.heap.size; omega))
    have I1 := hid (show IsE (World.setCell y4 ⟨w.heap.size, 9, none⟩ (.slice A5 (E.au ++ [by']).length c5)) { E with au := E.au ++ [by'] } { a with qA := A5, qC := c5 } from { (I0.out.below RB4.out).oneE w.heap.size 9 _ AP.out with au := J5.out.other _ _ (fun h0 b off e => by have := N5.out b off e; show b ≠ w.heap.size; have := R0.out.lt; omega) })
    have B1 := hid ((BA.out.trans (RB4.out.mono BA.out.size)).setCell (p := ⟨w.heap.size, 9, none⟩) (Nat.le_refl _) (.slice A5 (E.au ++ [by']).length c5))
    show KK _ (World.setCell y4 ⟨w.heap.size, 9, none⟩ (.slice A5 (E.au ++ [by']).length c5))
    generalize World.setCell y4 ⟨w.heap.size, 9, none⟩ (.slice A5 (E.au ++ [by']).length c5) = u1 at X1 R1 Y1 I1 B1 ⊢
    refine hKK.out _ _ (Y1.out) (fun hH6 => ?_)
    clear hKK KK
    try simp only [Act.put, lsA, ls0, ls1]
    refine wpAnyH_done (by kernel_rfl) ?_ _
    go_wp2_with (first
     | (refine wpList_load_mid rfl 34 _ rfl w.heap.size 0 rfl (ecs { E with au := E.au ++ [by'] } { a with qA := A5, qC := c5 }) _ X1.out.range Tryz.underlying34 rfl size34 ?_)
     | (refine store_mid_as rfl 34 _ _ rfl (w.heap.size + 1 + 1) 0 (ecs { E with au := E.au ++ [by'] } { a with qA := A5, qC := c5 }).toArray rfl rfl (Blk.there (n := 29) R1.out (Nat.le_refl 29)) size34 (ecs_one _ _) ?_; intro wz ez; have EZ := hid ez; clear ez)
     | fail)
    (try simp only [Exit.inBlock, Exit.then])
    refine bodyPost_ret (results_cell_mid rfl _ _ (w.heap.size + 1 + 1) (ecs { E with au := E.au ++ [by'] } { a with qA := A5, qC := c5 }) 34 _ rfl (by rw [EZ.out]; exact Blk.setAll R1.out _ rfl) Tryz.underlying34 rfl size34) rfl ?_
    rw [EZ.out]
    exact ⟨{ E with au := E.au ++ [by'] }, { a with qA := A5, qC := c5 }, rfl, I1.out.otherE _ _ _ (⟨AP2.out.pv, (fun h0 b off e => by have := N5.out b off e; have := R0.out.lt; omega), AP2.out.c⟩), ⟨HS.out.z.rm, HS.out.z.sd, HS.out.z.ky, HS.out.z.sv, HS.out.z.pv, by rw [List.length_append]; show E.au.length + 1 ≤ 100; have := HS.out.au; omega, HS.out.z.c⟩, rfl, below_setAll (show w.heap.size ≤ w.heap.size + 1 + 1 by omega) _ _ _ B1.out⟩
   refine mvC rfl (fun KK hKK => ?_) AllReadyH.nil
   go_simp
   generalize hy2 : World.alloc _ _ = y2
   generalize hg6 : (World.heap y1).size = g6
   have RB2 : Hid (Below W0.heap.size W0 y2) := hid (by rw [← hy2]; exact RB1.out.alloc RB1.out.size _)
   have RG2 : Hid (Blk y2 g6 [.int .i64 by'] 3) := hid (by rw [← hy2, ← hg6]; exact blk_new _ [.int .i64 by'] 3)
   have RO2 : Hid (y2.ownsRow W0.heap.size 3 1 (.slice (some ⟨g0, 0, none⟩) 0 0) 0 []) := hid (by rw [← hy2]; exact RO1.out.alloc _)
   have RN : g6 ≠ g0 := by have := (RO1.out.lt g0 rfl).2; omega
   clear hy2 hg6
   refine hKK.out _ _ (Y0.out.below RB2.out) (fun hH3 => ?_)
   clear hKK KK
   try simp only [Act.put, lsA, ls0, ls1]
   refine mvR 3 rfl (fun KK hKK => ?_)
   have RS := hid ((I0.out.au.below RB2.out).rws.src)
   refine step_append_any _ rfl (.tmp 48) (.tmp 50) 23 rfl W0.heap.size 3 i0 _ 1 8 Tryz.underlying23 HI.out.1 HI.out.2.1 HI.out.2.2.1 HI.out.2.2.2 rfl (by decide) (.slice (some ⟨g0, 0, none⟩) 0 0) 0 [] rfl RO2.out a.qA E.au.length a.qC (flat E.au.length (rowI E.au)) rfl RS.out (by unfold maxLen; omega) (by omega) RB2.out.size ?_
   intro v4 y3 hgr
   have RB3 : Hid (Below W0.heap.size W0 y3) := hid (hgr.below RB2.out RO2.out)
   have RV3 := hid hgr.own
   have RG3 : Hid (Blk y3 g6 [.int .i64 by'] 3) := hid ⟨(hgr.grow.block g6 RG2.out.lt (by simp [Value.ownBlock]; omega)).trans RG2.out.heap⟩
   clear hgr RS
   refine hKK.out _ _ (Y0.out.below RB3.out) (fun hH4 => ?_)
   clear hKK KK
   try simp only [Act.put, lsA, ls0, ls1]
   refine mvR 7 rfl (fun KK hKK => ?_)
   refine step_append_any _ rfl (.tmp 51) (.tmp 54) 23 rfl W0.heap.size 3 i0 _ 1 8 Tryz.underlying23 HI.out.1 HI.out.2.1 HI.out.2.2.1 HI.out.2.2.2 rfl (by decide) v4 _ _ rfl RV3.out (some ⟨g6, 0, none⟩) 1 1 [.int .i64 by'] rfl (blk_src1 RG3.out) (by unfold maxLen; omega) (by omega) RB3.out.size ?_
   intro v5 y4 hgr
   have RB4 : Hid (Below W0.heap.size W0 y4) := hid (hgr.below RB3.out RV3.out)
   have RE : Hid (y4.ownsRow W0.heap.size 3 1 v5 (E.au ++ [by']).length (flat (E.au ++ [by']).length (rowI (E.au ++ [by'])))) := hid (by have := hgr.own; rw [Nat.zero_add, List.nil_append] at this; rw [flat_snoc, List.length_append]; exact this)
   clear hgr
   refine hKK.out _ _ (Y0.out.below RB4.out) (fun hH5 => ?_)
   clear hKK KK
   try simp only [Act.put, lsA, ls0, ls1]
   refine mvA 8 (v := ?hv17) rfl ?hy17 ?hr17
   case hy17 => (intro w hSw; (try dsimp only at hSw); go_simp; (try with_reducible rfl))
   try simp only [Act.put, lsA, ls0, ls1]
   refine mvR 9 rfl (fun KK hKK => ?_)
   obtain ⟨A5, c5, rfl⟩ := own_slice RE.out
   have J5 := hid (own_ins RE.out (by rw [List.length_append]; show E.au.length + 1 ≤ 1000; omega) FT.out)
   have N5 := hid (own_new RE.out)
   refine stepV (by rfl) (wp_storeV 23 _ _ rfl w.heap.size 9 (.slice A5 (E.au ++ [by']).length c5) (ecs E a) 34 rfl rfl (X0.out.below RB4.out) (show (9 : Nat) < 29 by decide) sz23 rfl ?_)
   have X1 := hid (show Blk (World.setCell y4 ⟨w.heap.size, 9, none⟩ (.slice A5 (E.au ++ [by']).length c5)) w.heap.size (ecs { E with au := E.au ++ [by'] } { a with qA := A5, qC := c5 }) 34 from (X0.out.below RB4.out).set 9 _)
   have R1 := hid ((R0.out.below RB4.out).other ⟨w.heap.size, 9, none⟩ (.slice A5 (E.au ++ [by']).length c5) (by show w.heap.size + 1 + 1 ≠ w.heap.size; omega))
   have Y1 := hid ((Y0.out.below RB4.out).other ⟨w.heap.size, 9, none⟩ (.slice A5 (E.au ++ [by']).length c5) (by show w.heap.size + 1 ≠ w.heap.size; omega))
   have I1 := hid (show IsE (World.setCell y4 ⟨w.heap.size, 9, none⟩ (.slice A5 (E.au ++ [by']).length c5)) { E with au := E.au ++ [by'] } { a with qA := A5, qC := c5 } from { (I0.out.below RB4.out).oneE w.heap.size 9 _ AP.out with au := J5.out.other _ _ (fun h0 b off e => by have := N5.out b off e; show b ≠ w.heap.size; have := R0.out.lt; omega) })
   have B1 := hid ((BA.out.trans (RB4.out.mono BA.out.size)).setCell (p := ⟨w.heap.size, 9, none⟩) (Nat.le_refl _) (.slice A5 (E.au ++ [by']).length c5))
   show KK _ (World.setCell y4 ⟨w.heap.size, 9, none⟩ (.slice A5 (E.au ++ [by']).length c5))
   generalize World.setCell y4 ⟨w.heap.size, 9, none⟩ (.slice A5 (E.au ++ [by']).length c5) = u1 at X1 R1 Y1 I1 B1 ⊢
   refine hKK.out _ _ (Y1.out) (fun hH6 => ?_)
   clear hKK KK
   try simp only [Act.put, lsA, ls0, ls1]
   refine wpAnyH_done (by kernel_rfl) ?_ _
   go_wp2_with (first
    | (refine wpList_load_mid rfl 34 _ rfl w.heap.size 0 rfl (ecs { E with au := E.au ++ [by'] } { a with qA := A5, qC := c5 }) _ X1.out.range Tryz.underlying34 rfl size34 ?_)
    | (refine store_mid_as rfl 34 _ _ rfl (w.heap.size + 1 + 1) 0 (ecs { E with au := E.au ++ [by'] } { a with qA := A5, qC := c5 }).toArray rfl rfl (Blk.there (n := 29) R1.out (Nat.le_refl 29)) size34 (ecs_one _ _) ?_; intro wz ez; have EZ := hid ez; clear ez)
    | fail)
   (try simp only [Exit.inBlock, Exit.then])
   refine bodyPost_ret (results_cell_mid rfl _ _ (w.heap.size + 1 + 1) (ecs { E with au := E.au ++ [by'] } { a with qA := A5, qC := c5 }) 34 _ rfl (by rw [EZ.out]; exact Blk.setAll R1.out _ rfl) Tryz.underlying34 rfl size34) rfl ?_
   rw [EZ.out]
   exact ⟨{ E with au := E.au ++ [by'] }, { a with qA := A5, qC := c5 }, rfl, I1.out.otherE _ _ _ (⟨AP2.out.pv, (fun h0 b off e => by have := N5.out b off e; have := R0.out.lt; omega), AP2.out.c⟩), ⟨HS.out.z.rm, HS.out.z.sd, HS.out.z.ky, HS.out.z.sv, HS.out.z.pv, by rw [List.length_append]; show E.au.length + 1 ≤ 100; have := HS.out.au; omega, HS.out.z.c⟩, rfl, below_setAll (show w.heap.size ≤ w.heap.size + 1 + 1 by omega) _ _ _ B1.out⟩
  refine mvC rfl (fun KK hKK => ?_) AllReadyH.nil
  go_simp
  generalize hy1 : World.alloc _ _ = y1
  generalize hg6 : (World.heap y0).size = g6
  have RB1 : Hid (Below W0.heap.size W0 y1) := hid (by rw [← hy1]; exact RB0.out.alloc RB0.out.size _)
  have RG1 : Hid (Blk y1 g6 [.int .i64 by'] 3) := hid (by rw [← hy1, ← hg6]; exact blk_new _ [.int .i64 by'] 3)
  clear hy1 hg6
  refine hKK.out _ _ (Y0.out.below RB1.out) (fun hH2 => ?_)
  clear hKK KK
  try simp only [Act.put, lsA, ls0, ls1]
  refine mvR 0 rfl (fun KK hKK => ?_)
  go_simp
  generalize hy2 : World.alloc _ _ = y2
  generalize hg0 : (World.heap y1).size = g0
  have RB2 : Hid (Below W0.heap.size W0 y2) := hid (by rw [← hy2]; exact RB1.out.alloc RB1.out.size _)
  have RO2 : Hid (y2.ownsRow W0.heap.size 3 1 (.slice (some ⟨g0, 0, none⟩) 0 0) 0 []) := hid (by rw [← hy2, ← hg0]; exact World.ownsRow_made (base := W0.heap.size) (e := 3) (size := 1) _ #[] 0 RB1.out.size (by decide) (by simp))
  have RG2 : Hid (Blk y2 g6 [.int .i64 by'] 3) := hid (by rw [← hy2]; exact RG1.out.alloc _)
  have RN : g6 ≠ g0 := by have := RG1.out.lt; omega
  clear hy2 hg0
  refine hKK.out _ _ (Y0.out.below RB2.out) (fun hH3 => ?_)
  clear hKK KK
  try simp only [Act.put, lsA, ls0, ls1]
  refine mvR 3 rfl (fun KK hKK => ?_)
  have RS := hid ((I0.out.au.below RB2.out).rws.src)
  refine step_append_any _ rfl (.tmp 48) (.tmp 50) 23 rfl W0.heap.size 3 i0 _ 1 8 Tryz.underlying23 HI.out.1 HI.out.2.1 HI.out.2.2.1 HI.out.2.2.2 rfl (by decide) (.slice (some ⟨g0, 0, none⟩) 0 0) 0 [] rfl RO2.out a.qA E.au.length a.qC (flat E.au.length (rowI E.au)) rfl RS.out (by unfold maxLen; omega) (by omega) RB2.out.size ?_
  intro v4 y3 hgr
  have RB3 : Hid (Below W0.heap.size W0 y3) := hid (hgr.below RB2.out RO2.out)
  have RV3 := hid hgr.own
  have RG3 : Hid (Blk y3 g6 [.int .i64 by'] 3) := hid ⟨(hgr.grow.block g6 RG2.out.lt (by simp [Value.ownBlock]; omega)).trans RG2.out.heap⟩
  clear hgr RS
  refine hKK.out _ _ (Y0.out.below RB3.out) (fun hH4 => ?_)
  clear hKK KK
  try simp only [Act.put, lsA, ls0, ls1]
  refine mvR 7 rfl (fun KK hKK => ?_)
  refine step_append_any _ rfl (.tmp 51) (.tmp 54) 23 rfl W0.heap.size 3 i0 _ 1 8 Tryz.underlying23 HI.out.1 HI.out.2.1 HI.out.2.2.1 HI.out.2.2.2 rfl (by decide) v4 _ _ rfl RV3.out (some ⟨g6, 0, none⟩) 1 1 [.int .i64 by'] rfl (blk_src1 RG3.out) (by unfold maxLen; omega) (by omega) RB3.out.size ?_
  intro v5 y4 hgr
  have RB4 : Hid (Below W0.heap.size W0 y4) := hid (hgr.below RB3.out RV3.out)
  have RE : Hid (y4.ownsRow W0.heap.size 3 1 v5 (E.au ++ [by']).length (flat (E.au ++ [by']).length (rowI (E.au ++ [by'])))) := hid (by have := hgr.own; rw [Nat.zero_add, List.nil_append] at this; rw [flat_snoc, List.length_append]; exact this)
  clear hgr
  refine hKK.out _ _ (Y0.out.below RB4.out) (fun hH5 => ?_)
  clear hKK KK
  try simp only [Act.put, lsA, ls0, ls1]
  refine mvA 8 (v := ?hv18) rfl ?hy18 ?hr18
  case hy18 => (intro w hSw; (try dsimp only at hSw); go_simp; (try with_reducible rfl))
  try simp only [Act.put, lsA, ls0, ls1]
  refine mvR 9 rfl (fun KK hKK => ?_)
  obtain ⟨A5, c5, rfl⟩ := own_slice RE.out
  have J5 := hid (own_ins RE.out (by rw [List.length_append]; show E.au.length + 1 ≤ 1000; omega) FT.out)
  have N5 := hid (own_new RE.out)
  refine stepV (by rfl) (wp_storeV 23 _ _ rfl w.heap.size 9 (.slice A5 (E.au ++ [by']).length c5) (ecs E a) 34 rfl rfl (X0.out.below RB4.out) (show (9 : Nat) < 29 by decide) sz23 rfl ?_)
  have X1 := hid (show Blk (World.setCell y4 ⟨w.heap.size, 9, none⟩ (.slice A5 (E.au ++ [by']).length c5)) w.heap.size (ecs { E with au := E.au ++ [by'] } { a with qA := A5, qC := c5 }) 34 from (X0.out.below RB4.out).set 9 _)
  have R1 := hid ((R0.out.below RB4.out).other ⟨w.heap.size, 9, none⟩ (.slice A5 (E.au ++ [by']).length c5) (by show w.heap.size + 1 + 1 ≠ w.heap.size; omega))
  have Y1 := hid ((Y0.out.below RB4.out).other ⟨w.heap.size, 9, none⟩ (.slice A5 (E.au ++ [by']).length c5) (by show w.heap.size + 1 ≠ w.heap.size; omega))
  have I1 := hid (show IsE (World.setCell y4 ⟨w.heap.size, 9, none⟩ (.slice A5 (E.au ++ [by']).length c5)) { E with au := E.au ++ [by'] } { a with qA := A5, qC := c5 } from { (I0.out.below RB4.out).oneE w.heap.size 9 _ AP.out with au := J5.out.other _ _ (fun h0 b off e => by have := N5.out b off e; show b ≠ w.heap.size; have := R0.out.lt; omega) })
  have B1 := hid ((BA.out.trans (RB4.out.mono BA.out.size)).setCell (p := ⟨w.heap.size, 9, none⟩) (Nat.le_refl _) (.slice A5 (E.au ++ [by']).length c5))
  show KK _ (World.setCell y4 ⟨w.heap.size, 9, none⟩ (.slice A5 (E.au ++ [by']).length c5))
  generalize World.setCell y4 ⟨w.heap.size, 9, none⟩ (.slice A5 (E.au ++ [by']).length c5) = u1 at X1 R1 Y1 I1 B1 ⊢
  refine hKK.out _ _ (Y1.out) (fun hH6 => ?_)
  clear hKK KK
  try simp only [Act.put, lsA, ls0, ls1]
  refine wpAnyH_done (by kernel_rfl) ?_ _
  go_wp2_with (first
   | (refine wpList_load_mid rfl 34 _ rfl w.heap.size 0 rfl (ecs { E with au := E.au ++ [by'] } { a with qA := A5, qC := c5 }) _ X1.out.range Tryz.underlying34 rfl size34 ?_)
   | (refine store_mid_as rfl 34 _ _ rfl (w.heap.size + 1 + 1) 0 (ecs { E with au := E.au ++ [by'] } { a with qA := A5, qC := c5 }).toArray rfl rfl (Blk.there (n := 29) R1.out (Nat.le_refl 29)) size34 (ecs_one _ _) ?_; intro wz ez; have EZ := hid ez; clear ez)
   | fail)
  (try simp only [Exit.inBlock, Exit.then])
  refine bodyPost_ret (results_cell_mid rfl _ _ (w.heap.size + 1 + 1) (ecs { E with au := E.au ++ [by'] } { a with qA := A5, qC := c5 }) 34 _ rfl (by rw [EZ.out]; exact Blk.setAll R1.out _ rfl) Tryz.underlying34 rfl size34) rfl ?_
  rw [EZ.out]
  exact ⟨{ E with au := E.au ++ [by'] }, { a with qA := A5, qC := c5 }, rfl, I1.out.otherE _ _ _ (⟨AP2.out.pv, (fun h0 b off e => by have := N5.out b off e; have := R0.out.lt; omega), AP2.out.c⟩), ⟨HS.out.z.rm, HS.out.z.sd, HS.out.z.ky, HS.out.z.sv, HS.out.z.pv, by rw [List.length_append]; show E.au.length + 1 ≤ 100; have := HS.out.au; omega, HS.out.z.c⟩, rfl, below_setAll (show w.heap.size ≤ w.heap.size + 1 + 1 by omega) _ _ _ B1.out⟩
 refine mvC rfl (fun KK hKK => ?_) AllReadyH.nil
 go_simp
 generalize hy1 : World.alloc _ _ = y1
 generalize hg6 : (World.heap y0).size = g6
 have RB1 : Hid (Below W0.heap.size W0 y1) := hid (by rw [← hy1]; exact RB0.out.alloc RB0.out.size _)
 have RG1 : Hid (Blk y1 g6 [.int .i64 by'] 3) := hid (by rw [← hy1, ← hg6]; exact blk_new _ [.int .i64 by'] 3)
 clear hy1 hg6
 refine hKK.out _ _ (Y0.out.below RB1.out) (fun hH1 => ?_)
 clear hKK KK
 try simp only [Act.put, lsA, ls0, ls1]
 refine mvS [0, 2] ?_
 refine mvC rfl (fun KK hKK => ?_) ?_
 ·go_simp
  generalize hy2 : World.alloc _ _ = y2
  generalize hg0 : (World.heap y1).size = g0
  have RB2 : Hid (Below W0.heap.size W0 y2) := hid (by rw [← hy2]; exact RB1.out.alloc RB1.out.size _)
  have RO2 : Hid (y2.ownsRow W0.heap.size 3 1 (.slice (some ⟨g0, 0, none⟩) 0 0) 0 []) := hid (by rw [← hy2, ← hg0]; exact World.ownsRow_made (base := W0.heap.size) (e := 3) (size := 1) _ #[] 0 RB1.out.size (by decide) (by simp))
  have RG2 : Hid (Blk y2 g6 [.int .i64 by'] 3) := hid (by rw [← hy2]; exact RG1.out.alloc _)
  have RN : g6 ≠ g0 := by have := RG1.out.lt; omega
  clear hy2 hg0
  refine hKK.out _ _ (Y0.out.below RB2.out) (fun hH2 => ?_)
  clear hKK KK
  try simp only [Act.put, lsA, ls0, ls1]
  refine mvR 2 rfl (fun KK hKK => ?_)
  have p8 := (X0.out.below RB2.out).cell (i := 9) rfl
  go_simp
  clear p8
  refine hKK.out _ _ (Y0.out.below RB2.out) (fun hH3 => ?_)
  clear hKK KK
  try simp only [Act.put, lsA, ls0, ls1]
  refine mvR 3 rfl (fun KK hKK => ?_)
  have RS := hid ((I0.out.au.below RB2.out).rws.src)
  refine step_append_any _ rfl (.tmp 48) (.tmp 50) 23 rfl W0.heap.size 3 i0 _ 1 8 Tryz.underlying23 HI.out.1 HI.out.2.1 HI.out.2.2.1 HI.out.2.2.2 rfl (by decide) (.slice (some ⟨g0, 0, none⟩) 0 0) 0 [] rfl RO2.out a.qA E.au.length a.qC (flat E.au.length (rowI E.au)) rfl RS.out (by unfold maxLen; omega) (by omega) RB2.out.size ?_
  intro v4 y3 hgr
  have RB3 : Hid (Below W0.heap.size W0 y3) := hid (hgr.below RB2.out RO2.out)
  have RV3 := hid hgr.own
  have RG3 : Hid (Blk y3 g6 [.int .i64 by'] 3) := hid ⟨(hgr.grow.block g6 RG2.out.lt (by simp [Value.ownBlock]; omega)).trans RG2.out.heap⟩
  clear hgr RS
  refine hKK.out _ _ (Y0.out.below RB3.out) (fun hH4 => ?_)
  clear hKK KK
  try simp only [Act.put, lsA, ls0, ls1]
  refine mvR 7 rfl (fun KK hKK => ?_)
  refine step_append_any _ rfl (.tmp 51) (.tmp 54) 23 rfl W0.heap.size 3 i0 _ 1 8 Tryz.underlying23 HI.out.1 HI.out.2.1 HI.out.2.2.1 HI.out.2.2.2 rfl (by decide) v4 _ _ rfl RV3.out (some ⟨g6, 0, none⟩) 1 1 [.int .i64 by'] rfl (blk_src1 RG3.out) (by unfold maxLen; omega) (by omega) RB3.out.size ?_
  intro v5 y4 hgr
  have RB4 : Hid (Below W0.heap.size W0 y4) := hid (hgr.below RB3.out RV3.out)
  have RE : Hid (y4.ownsRow W0.heap.size 3 1 v5 (E.au ++ [by']).length (flat (E.au ++ [by']).length (rowI (E.au ++ [by'])))) := hid (by have := hgr.own; rw [Nat.zero_add, List.nil_append] at this; rw [flat_snoc, List.length_append]; exact this)
  clear hgr
  refine hKK.out _ _ (Y0.out.below RB4.out) (fun hH5 => ?_)
  clear hKK KK
  try simp only [Act.put, lsA, ls0, ls1]
  refine mvA 8 (v := ?hv19) rfl ?hy19 ?hr19
  case hy19 => (intro w hSw; (try dsimp only at hSw); go_simp; (try with_reducible rfl))
  try simp only [Act.put, lsA, ls0, ls1]
  refine mvR 9 rfl (fun KK hKK => ?_)
  obtain ⟨A5, c5, rfl⟩ := own_slice RE.out
  have J5 := hid (own_ins RE.out (by rw [List.length_append]; show E.au.length + 1 ≤ 1000; omega) FT.out)
  have N5 := hid (own_new RE.out)
  refine stepV (by rfl) (wp_storeV 23 _ _ rfl w.heap.size 9 (.slice A5 (E.au ++ [by']).length c5) (ecs E a) 34 rfl rfl (X0.out.below RB4.out) (show (9 : Nat) < 29 by decide) sz23 rfl ?_)
  have X1 := hid (show Blk (World.setCell y4 ⟨w.heap.size, 9, none⟩ (.slice A5 (E.au ++ [by']).length c5)) w.heap.size (ecs { E with au := E.au ++ [by'] } { a with qA := A5, qC := c5 }) 34 from (X0.out.below RB4.out).set 9 _)
  have R1 := hid ((R0.out.below RB4.out).other ⟨w.heap.size, 9, none⟩ (.slice A5 (E.au ++ [by']).length c5) (by show w.heap.size + 1 + 1 ≠ w.heap.size; omega))
  have Y1 := hid ((Y0.out.below RB4.out).other ⟨w.heap.size, 9, none⟩ (.slice A5 (E.au ++ [by']).length c5) (by show w.heap.size + 1 ≠ w.heap.size; omega))
  have I1 := hid (show IsE (World.setCell y4 ⟨w.heap.size, 9, none⟩ (.slice A5 (E.au ++ [by']).length c5)) { E with au := E.au ++ [by'] } { a with qA := A5, qC := c5 } from { (I0.out.below RB4.out).oneE w.heap.size 9 _ AP.out with au := J5.out.other _ _ (fun h0 b off e => by have := N5.out b off e; show b ≠ w.heap.size; have := R0.out.lt; omega) })
  have B1 := hid ((BA.out.trans (RB4.out.mono BA.out.size)).setCell (p := ⟨w.heap.size, 9, none⟩) (Nat.le_refl _) (.slice A5 (E.au ++ [by']).length c5))
  show KK _ (World.setCell y4 ⟨w.heap.size, 9, none⟩ (.slice A5 (E.au ++ [by']).length c5))
  generalize World.setCell y4 ⟨w.heap.size, 9, none⟩ (.slice A5 (E.au ++ [by']).length c5) = u1 at X1 R1 Y1 I1 B1 ⊢
  refine hKK.out _ _ (Y1.out) (fun hH6 => ?_)
  clear hKK KK
  try simp only [Act.put, lsA, ls0, ls1]
  refine wpAnyH_done (by kernel_rfl) ?_ _
  go_wp2_with (first
   | (refine wpList_load_mid rfl 34 _ rfl w.heap.size 0 rfl (ecs { E with au := E.au ++ [by'] } { a with qA := A5, qC := c5 }) _ X1.out.range Tryz.underlying34 rfl size34 ?_)
   | (refine store_mid_as rfl 34 _ _ rfl (w.heap.size + 1 + 1) 0 (ecs { E with au := E.au ++ [by'] } { a with qA := A5, qC := c5 }).toArray rfl rfl (Blk.there (n := 29) R1.out (Nat.le_refl 29)) size34 (ecs_one _ _) ?_; intro wz ez; have EZ := hid ez; clear ez)
   | fail)
  (try simp only [Exit.inBlock, Exit.then])
  refine bodyPost_ret (results_cell_mid rfl _ _ (w.heap.size + 1 + 1) (ecs { E with au := E.au ++ [by'] } { a with qA := A5, qC := c5 }) 34 _ rfl (by rw [EZ.out]; exact Blk.setAll R1.out _ rfl) Tryz.underlying34 rfl size34) rfl ?_
  rw [EZ.out]
  exact ⟨{ E with au := E.au ++ [by'] }, { a with qA := A5, qC := c5 }, rfl, I1.out.otherE _ _ _ (⟨AP2.out.pv, (fun h0 b off e => by have := N5.out b off e; have := R0.out.lt; omega), AP2.out.c⟩), ⟨HS.out.z.rm, HS.out.z.sd, HS.out.z.ky, HS.out.z.sv, HS.out.z.pv, by rw [List.length_append]; show E.au.length + 1 ≤ 100; have := HS.out.au; omega, HS.out.z.c⟩, rfl, below_setAll (show w.heap.size ≤ w.heap.size + 1 + 1 by omega) _ _ _ B1.out⟩
 refine mvC rfl (fun KK hKK => ?_) AllReadyH.nil
 have p8 := (X0.out.below RB1.out).cell (i := 9) rfl
 go_simp
 clear p8
 refine hKK.out _ _ (Y0.out.below RB1.out) (fun hH2 => ?_)
 clear hKK KK
 try simp only [Act.put, lsA, ls0, ls1]
 refine mvR 0 rfl (fun KK hKK => ?_)
 go_simp
 generalize hy2 : World.alloc _ _ = y2
 generalize hg0 : (World.heap y1).size = g0
 have RB2 : Hid (Below W0.heap.size W0 y2) := hid (by rw [← hy2]; exact RB1.out.alloc RB1.out.size _)
 have RO2 : Hid (y2.ownsRow W0.heap.size 3 1 (.slice (some ⟨g0, 0, none⟩) 0 0) 0 []) := hid (by rw [← hy2, ← hg0]; exact World.ownsRow_made (base := W0.heap.size) (e := 3) (size := 1) _ #[] 0 RB1.out.size (by decide) (by simp))
 have RG2 : Hid (Blk y2 g6 [.int .i64 by'] 3) := hid (by rw [← hy2]; exact RG1.out.alloc _)
 have RN : g6 ≠ g0 := by have := RG1.out.lt; omega
 clear hy2 hg0
 refine hKK.out _ _ (Y0.out.below RB2.out) (fun hH3 => ?_)
 clear hKK KK
 try simp only [Act.put, lsA, ls0, ls1]
 refine mvR 3 rfl (fun KK hKK => ?_)
 have RS := hid ((I0.out.au.below RB2.out).rws.src)
 refine step_append_any _ rfl (.tmp 48) (.tmp 50) 23 rfl W0.heap.size 3 i0 _ 1 8 Tryz.underlying23 HI.out.1 HI.out.2.1 HI.out.2.2.1 HI.out.2.2.2 rfl (by decide) (.slice (some ⟨g0, 0, none⟩) 0 0) 0 [] rfl RO2.out a.qA E.au.length a.qC (flat E.au.length (rowI E.au)) rfl RS.out (by unfold maxLen; omega) (by omega) RB2.out.size ?_
 intro v4 y3 hgr
 have RB3 : Hid (Below W0.heap.size W0 y3) := hid (hgr.below RB2.out RO2.out)
 have RV3 := hid hgr.own
 have RG3 : Hid (Blk y3 g6 [.int .i64 by'] 3) := hid ⟨(hgr.grow.block g6 RG2.out.lt (by simp [Value.ownBlock]; omega)).trans RG2.out.heap⟩
 clear hgr RS
 refine hKK.out _ _ (Y0.out.below RB3.out) (fun hH4 => ?_)
 clear hKK KK
 try simp only [Act.put, lsA, ls0, ls1]
 refine mvR 7 rfl (fun KK hKK => ?_)
 refine step_append_any _ rfl (.tmp 51) (.tmp 54) 23 rfl W0.heap.size 3 i0 _ 1 8 Tryz.underlying23 HI.out.1 HI.out.2.1 HI.out.2.2.1 HI.out.2.2.2 rfl (by decide) v4 _ _ rfl RV3.out (some ⟨g6, 0, none⟩) 1 1 [.int .i64 by'] rfl (blk_src1 RG3.out) (by unfold maxLen; omega) (by omega) RB3.out.size ?_
 intro v5 y4 hgr
 have RB4 : Hid (Below W0.heap.size W0 y4) := hid (hgr.below RB3.out RV3.out)
 have RE : Hid (y4.ownsRow W0.heap.size 3 1 v5 (E.au ++ [by']).length (flat (E.au ++ [by']).length (rowI (E.au ++ [by'])))) := hid (by have := hgr.own; rw [Nat.zero_add, List.nil_append] at this; rw [flat_snoc, List.length_append]; exact this)
 clear hgr
 refine hKK.out _ _ (Y0.out.below RB4.out) (fun hH5 => ?_)
 clear hKK KK
 try simp only [Act.put, lsA, ls0, ls1]
 refine mvA 8 (v := ?hv20) rfl ?hy20 ?hr20
 case hy20 => (intro w hSw; (try dsimp only at hSw); go_simp; (try with_reducible rfl))
 try simp only [Act.put, lsA, ls0, ls1]
 refine mvR 9 rfl (fun KK hKK => ?_)
 obtain ⟨A5, c5, rfl⟩ := own_slice RE.out
 have J5 := hid (own_ins RE.out (by rw [List.length_append]; show E.au.length + 1 ≤ 1000; omega) FT.out)
 have N5 := hid (own_new RE.out)
 refine stepV (by rfl) (wp_storeV 23 _ _ rfl w.heap.size 9 (.slice A5 (E.au ++ [by']).length c5) (ecs E a) 34 rfl rfl (X0.out.below RB4.out) (show (9 : Nat) < 29 by decide) sz23 rfl ?_)
 have X1 := hid (show Blk (World.setCell y4 ⟨w.heap.size, 9, none⟩ (.slice A5 (E.au ++ [by']).length c5)) w.heap.size (ecs { E with au := E.au ++ [by'] } { a with qA := A5, qC := c5 }) 34 from (X0.out.below RB4.out).set 9 _)
 have R1 := hid ((R0.out.below RB4.out).other ⟨w.heap.size, 9, none⟩ (.slice A5 (E.au ++ [by']).length c5) (by show w.heap.size + 1 + 1 ≠ w.heap.size; omega))
 have Y1 := hid ((Y0.out.below RB4.out).other ⟨w.heap.size, 9, none⟩ (.slice A5 (E.au ++ [by']).length c5) (by show w.heap.size + 1 ≠ w.heap.size; omega))
 have I1 := hid (show IsE (World.setCell y4 ⟨w.heap.size, 9, none⟩ (.slice A5 (E.au ++ [by']).length c5)) { E with au := E.au ++ [by'] } { a with qA := A5, qC := c5 } from { (I0.out.below RB4.out).oneE w.heap.size 9 _ AP.out with au := J5.out.other _ _ (fun h0 b off e => by have := N5.out b off e; show b ≠ w.heap.size; have := R0.out.lt; omega) })
 have B1 := hid ((BA.out.trans (RB4.out.mono BA.out.size)).setCell (p := ⟨w.heap.size, 9, none⟩) (Nat.le_refl _) (.slice A5 (E.au ++ [by']).length c5))
 show KK _ (World.setCell y4 ⟨w.heap.size, 9, none⟩ (.slice A5 (E.au ++ [by']).length c5))
 generalize World.setCell y4 ⟨w.heap.size, 9, none⟩ (.slice A5 (E.au ++ [by']).length c5) = u1 at X1 R1 Y1 I1 B1 ⊢
 refine hKK.out _ _ (Y1.out) (fun hH6 => ?_)
 clear hKK KK
 try simp only [Act.put, lsA, ls0, ls1]
 refine wpAnyH_done (by kernel_rfl) ?_ _
 go_wp2_with (first
  | (refine wpList_load_mid rfl 34 _ rfl w.heap.size 0 rfl (ecs { E with au := E.au ++ [by'] } { a with qA := A5, qC := c5 }) _ X1.out.range Tryz.underlying34 rfl size34 ?_)
  | (refine store_mid_as rfl 34 _ _ rfl (w.heap.size + 1 + 1) 0 (ecs { E with au := E.au ++ [by'] } { a with qA := A5, qC := c5 }).toArray rfl rfl (Blk.there (n := 29) R1.out (Nat.le_refl 29)) size34 (ecs_one _ _) ?_; intro wz ez; have EZ := hid ez; clear ez)
  | fail)
 (try simp only [Exit.inBlock, Exit.then])
 refine bodyPost_ret (results_cell_mid rfl _ _ (w.heap.size + 1 + 1) (ecs { E with au := E.au ++ [by'] } { a with qA := A5, qC := c5 }) 34 _ rfl (by rw [EZ.out]; exact Blk.setAll R1.out _ rfl) Tryz.underlying34 rfl size34) rfl ?_
 rw [EZ.out]
 exact ⟨{ E with au := E.au ++ [by'] }, { a with qA := A5, qC := c5 }, rfl, I1.out.otherE _ _ _ (⟨AP2.out.pv, (fun h0 b off e => by have := N5.out b off e; have := R0.out.lt; omega), AP2.out.c⟩), ⟨HS.out.z.rm, HS.out.z.sd, HS.out.z.ky, HS.out.z.sv, HS.out.z.pv, by rw [List.length_append]; show E.au.length + 1 ≤ 100; have := HS.out.au; omega, HS.out.z.c⟩, rfl, below_setAll (show w.heap.size ≤ w.heap.size + 1 + 1 by omega) _ _ _ B1.out⟩
theorem changed33 (E : Ew) (a : Aw) (fd by' : Int) (w : World) (h : IsE w E a) (hs : SmX E) (hby : i64B by') : Calls Tryz.prog 33 #[.agg (ecs E a).toArray, .agg #[.int .i64 fd, .int .i64 by']] w (ChP E w) := by
 cases c0 : ((IntKind.u64.wrap fd).tmod 7 == 0)
 ·cases c1 : ((IntKind.u64.wrap fd).tmod 7 == 1)
  ·cases c2 : ((IntKind.u64.wrap fd).tmod 7 == 2)
   ·cases c3 : ((IntKind.u64.wrap fd).tmod 7 == 3)
    ·cases c4 : ((IntKind.u64.wrap fd).tmod 7 == 4)
     ·cases c5 : ((IntKind.u64.wrap fd).tmod 7 == 5)
      ·exact changed_ky E a fd by' w h hs c0 c1 c2 c3 c4 c5
      ·exact changed_hs E a fd by' w h hs c0 c1 c2 c3 c4 c5
     ·exact changed_au E a fd by' w h hs hby c0 c1 c2 c3 c4
    ·exact changed_pv E a fd by' w h hs hby c0 c1 c2 c3
   ·exact changed_rm E a fd by' w h hs c0 c1 c2
  ·exact changed_dp E a fd by' w h hs c0 c1
 ·exact changed_tm E a fd by' w h hs c0
end Go.Proofs.YtablocpcgknmaaaGreatDoor
