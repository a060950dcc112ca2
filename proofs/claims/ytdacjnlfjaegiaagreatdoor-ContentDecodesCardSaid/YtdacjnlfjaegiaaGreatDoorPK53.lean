/- The reference's decoder: its walk. Bounds: at most 800000 bytes. No condition. -/
import Derived.Test.YtdacjnlfjaegiaaGreatDoorPK52
import Derived.Test.YtdacjnlfjaegiaaGreatDoorPK40
namespace Go.Proofs.YtdacjnlfjaegiaaGreatDoor
open Go Go.RowKit
set_option linter.unusedVariables false
set_option linter.unusedSimpArgs false
set_option maxRecDepth 100000

theorem store_oneE {P : Program} {ops : Array Oper} {rest : List Oper} {op : Oper} {a : Act} {w : World} {Q : Exit → Act → World → Prop} (hgd : op.guard = none) (ty : TypeId) (x y : Operand) (ho : op.op = .store ty x y)
    (t i : Nat) (v : Value) (cs : List Value) (T : TypeId) (hx : a.eval x = .pointer (some ⟨t, i, none⟩)) (hy : a.eval y = v) (hb : Blk w t cs T) (hi : i < cs.length) (hs : (P.info? ty).map (·.size) = some 1) (hv : v.oneCell' = true)
    (h : ∀ w', w' = w.setCell ⟨t, i, none⟩ v → wpList P ops Q rest (a.put op.dst undef) w') : wpList P ops Q (op :: rest) a w :=
  wpList_plain hgd fun K hK => by
    unfold Oper.wp execOp
    simp only [ho, hx, hy, run_storeAt_one w t i ty v hb hi hs hv, Sem.run_bind, Sem.run_pure, Result.andThen_ok]
    exact hK _ _ (h _ rfl)
def gbb (zs : List Int) : Option (Bool × List Int) := match zs with
  | [] => none
  | c :: t => if 1 < c then none else some (c == 1, t)
theorem gb_gbb (zs : List Int) : Cd.gb zs = (gbb zs).map fun p => (Value.bool p.1, p.2) := by
  cases zs with
  | nil => rfl
  | cons c t =>
    show (if 1 < c then none else some (Value.bool (c == 1), t)) = (if 1 < c then none else some (c == 1, t) : Option (Bool × List Int)).map fun p => (Value.bool p.1, p.2)
    by_cases h : 1 < c
    · rw [if_pos h, if_pos h]; rfl
    · rw [if_neg h, if_neg h]; rfl
theorem gT_none {zs z : List Int} {x : ByteArray} {f : Bool} (h : Cd.dt zs = none) (e : gtkT zs false = (x, z, f)) : f = true := by
  unfold gtkT at e; rw [if_neg (by decide), h] at e; injection e with _ e; injection e with _ e; exact e.symm
theorem gI_none {zs z : List Int} {x : Int} {f : Bool} (h : Cd.di zs = none) (e : gtkI zs false = (x, z, f)) : f = true := by
  unfold gtkI at e; rw [if_neg (by decide), h] at e; injection e with _ e; injection e with _ e; exact e.symm
theorem gL_none {zs z : List Int} {x : List ByteArray} {f : Bool} (h : Cd.gts zs = none) (e : gtkL zs false = (x, z, f)) : f = true := by
  unfold gtkL at e; rw [if_neg (by decide), h] at e; injection e with _ e; injection e with _ e; exact e.symm
theorem gB_none {zs z : List Int} {x : Bool} {f : Bool} (h : gbb zs = none) (e : gtk Cd.gb (.bool false) zs false = (.bool x, z, f)) : f = true := by
  unfold gtk at e; rw [if_neg (by decide), gb_gbb, h] at e; injection e with _ e; injection e with _ e; exact e.symm
theorem gT_some {zs z r : List Int} {x v : ByteArray} {f : Bool} (h : Cd.dt zs = some (v, r)) (e : gtkT zs false = (x, z, f)) : x = v ∧ z = r ∧ f = false := by
  unfold gtkT at e; rw [if_neg (by decide), h] at e; injection e with e1 e; injection e with e2 e; exact ⟨e1.symm, e2.symm, e.symm⟩
theorem gI_some {zs z r : List Int} {x v : Int} {f : Bool} (h : Cd.di zs = some (v, r)) (e : gtkI zs false = (x, z, f)) : x = v ∧ z = r ∧ f = false := by
  unfold gtkI at e; rw [if_neg (by decide), h] at e; injection e with e1 e; injection e with e2 e; exact ⟨e1.symm, e2.symm, e.symm⟩
theorem gL_some {zs z r : List Int} {x v : List ByteArray} {f : Bool} (h : Cd.gts zs = some (v, r)) (e : gtkL zs false = (x, z, f)) : x = v ∧ z = r ∧ f = false := by
  unfold gtkL at e; rw [if_neg (by decide), h] at e; injection e with e1 e; injection e with e2 e; exact ⟨e1.symm, e2.symm, e.symm⟩
theorem gB_some {zs z r : List Int} {x v : Bool} {f : Bool} (h : gbb zs = some (v, r)) (e : gtk Cd.gb (.bool false) zs false = (.bool x, z, f)) : x = v ∧ z = r ∧ f = false := by
  unfold gtk at e; rw [if_neg (by decide), gb_gbb, h] at e; injection e with e1 e; injection e with e2 e; injection e1 with e1; exact ⟨e1.symm, e2.symm, e.symm⟩
theorem gT_t {zs z : List Int} {x : ByteArray} {f f' : Bool} (e : gtkT zs f = (x, z, f')) (h : f = true) : f' = true := by
  subst h; unfold gtkT at e; rw [if_pos rfl] at e; injection e with _ e; injection e with _ e; exact e.symm
theorem gI_t {zs z : List Int} {x : Int} {f f' : Bool} (e : gtkI zs f = (x, z, f')) (h : f = true) : f' = true := by
  subst h; unfold gtkI at e; rw [if_pos rfl] at e; injection e with _ e; injection e with _ e; exact e.symm
theorem gL_t {zs z : List Int} {x : List ByteArray} {f f' : Bool} (e : gtkL zs f = (x, z, f')) (h : f = true) : f' = true := by
  subst h; unfold gtkL at e; rw [if_pos rfl] at e; injection e with _ e; injection e with _ e; exact e.symm
theorem gB_t {zs z : List Int} {x : Bool} {f f' : Bool} (e : gtk Cd.gb (.bool false) zs f = (.bool x, z, f')) (h : f = true) : f' = true := by
  subst h; unfold gtk at e; rw [if_pos rfl] at e; injection e with _ e; injection e with _ e; exact e.symm
theorem dc_f {x0 : ByteArray} {x1 x2 : Int} {x3 : Bool} {x4 : ByteArray} {x5 x6 : List ByteArray} {z7 : List Int} {f7 : Bool} (h : f7 = true) : dcE x0 x1 x2 x3 x4 x5 x6 (dcL z7 f7) = none := by
  subst h
  unfold dcL
  rw [cntk_true]
  rfl
theorem dcg_no {r : Option Cn} {w w' : World} (h : r = none) (hb : Below w.heap.size w w') : DcG r w (.returned (.tuple #[.agg #[.string ⟨#[]⟩, .int .i64 0, .int .i64 0, .bool false, .string ⟨#[]⟩, .slice none 0 0, .slice none 0 0, .slice none 0 0, .slice none 0 0, .int .i64 0, .int .i64 0, .int .i64 0, .int .i64 0, .int .i64 0, .int .i64 0, .int .i64 0], .bool false])) w' := by
  subst h
  exact ⟨c0, ad0, rfl, c0_is _, hb, .inr ⟨rfl, rfl⟩⟩
set_option maxHeartbeats 64000000 in
theorem rdecode32 (zs z1 z2 z3 z4 z5 z6 z7 : List Int) (f1 f2 f3 f4 f5 f6 f7 : Bool) (x0 x4 : ByteArray) (x1 x2 : Int) (x3 : Bool) (x5 x6 : List ByteArray) (e0 : gtkT zs false = (x0, z1, f1)) (e1 : gtkI z1 f1 = (x1, z2, f2)) (e2 : gtkI z2 f2 = (x2, z3, f3)) (e3 : gtk Cd.gb (.bool false) z3 f3 = (.bool x3, z4, f4)) (e4 : gtkT z4 f4 = (x4, z5, f5)) (e5 : gtkL z5 f5 = (x5, z6, f6)) (e6 : gtkL z6 f6 = (x6, z7, f7))
    (hz : BZ zs) (A0 : Option Addr) (cc : Nat) (w : World) (h : Cd.Sl w A0 zs.length cc zs) : Calls Tryz.prog 32 #[.slice A0 zs.length cc] w (DcG (dcE x0 x1 x2 x3 x4 x5 x6 (dcL z7 f7)) w) := by
  have b0 := hz.gtkT false
  rw [e0] at b0
  have b1 := b0.2.gtkI f1
  rw [e1] at b1
  have b2 := b1.2.gtkI f2
  rw [e2] at b2
  have b3 := bz_gtkB b2.2 f3
  rw [e3] at b3
  have b4 := b3.gtkT f4
  rw [e4] at b4
  have b5 := b4.2.gtkL f5
  rw [e5] at b5
  have b6 := b5.2.gtkL f6
  rw [e6] at b6
  dsimp only at b0 b1 b2 b3 b4 b5 b6
  have HX := Lib.hid (⟨b0.1, b1.1, b2.1, b4.1, b5.1, b6.1⟩ : x0.size ≤ 1000000 ∧ i64B x1 ∧ i64B x2 ∧ x4.size ≤ 1000000 ∧ x5.length ≤ 800000 ∧ x6.length ≤ 800000)
  have HZ0 := Lib.hid hz
  have HZ1 := Lib.hid b0.2
  have HZ2 := Lib.hid b1.2
  have HZ3 := Lib.hid b2.2
  have HZ4 := Lib.hid b3
  have HZ5 := Lib.hid b4.2
  have HZ6 := Lib.hid b5.2
  have HZ7 := Lib.hid b6.2
  have BA := ((((Below.refl w.heap.size w).alloc (Nat.le_refl _) (.cells #[.string ⟨#[]⟩, .int .i64 0, .int .i64 0, .bool false, .string ⟨#[]⟩, .slice none 0 0, .slice none 0 0, .slice none 0 0, .slice none 0 0, .int .i64 0, .int .i64 0, .int .i64 0, .int .i64 0, .int .i64 0, .int .i64 0, .int .i64 0] 29)).alloc (by simp) (.cells #[.string ⟨#[]⟩, .int .i64 0, .int .i64 0, .bool false, .string ⟨#[]⟩, .slice none 0 0, .slice none 0 0, .slice none 0 0, .slice none 0 0, .int .i64 0, .int .i64 0, .int .i64 0, .int .i64 0, .int .i64 0, .int .i64 0, .int .i64 0] 29)).alloc (by simp; omega) (.cells #[.bool false, .bool false, .bool false, .bool false, .bool false, .bool false, .bool false] 91))
  have R0 := Lib.hid (show RD w [.string ⟨#[]⟩, .int .i64 0, .int .i64 0, .bool false, .string ⟨#[]⟩, .slice none 0 0, .slice none 0 0, .slice none 0 0, .slice none 0 0, .int .i64 0, .int .i64 0, .int .i64 0, .int .i64 0, .int .i64 0, .int .i64 0, .int .i64 0] [.bool false, .bool false, .bool false, .bool false, .bool false, .bool false, .bool false] A0 cc zs (((w.alloc (.cells #[.string ⟨#[]⟩, .int .i64 0, .int .i64 0, .bool false, .string ⟨#[]⟩, .slice none 0 0, .slice none 0 0, .slice none 0 0, .slice none 0 0, .int .i64 0, .int .i64 0, .int .i64 0, .int .i64 0, .int .i64 0, .int .i64 0, .int .i64 0] 29)).alloc (.cells #[.string ⟨#[]⟩, .int .i64 0, .int .i64 0, .bool false, .string ⟨#[]⟩, .slice none 0 0, .slice none 0 0, .slice none 0 0, .slice none 0 0, .int .i64 0, .int .i64 0, .int .i64 0, .int .i64 0, .int .i64 0, .int .i64 0, .int .i64 0] 29)).alloc (.cells #[.bool false, .bool false, .bool false, .bool false, .bool false, .bool false, .bool false] 91)) from
    ⟨(blk_new2 w (.cells #[.string ⟨#[]⟩, .int .i64 0, .int .i64 0, .bool false, .string ⟨#[]⟩, .slice none 0 0, .slice none 0 0, .slice none 0 0, .slice none 0 0, .int .i64 0, .int .i64 0, .int .i64 0, .int .i64 0, .int .i64 0, .int .i64 0, .int .i64 0] 29) [.string ⟨#[]⟩, .int .i64 0, .int .i64 0, .bool false, .string ⟨#[]⟩, .slice none 0 0, .slice none 0 0, .slice none 0 0, .slice none 0 0, .int .i64 0, .int .i64 0, .int .i64 0, .int .i64 0, .int .i64 0, .int .i64 0, .int .i64 0] 29).alloc _, by simpa using blk_new ((w.alloc (.cells #[.string ⟨#[]⟩, .int .i64 0, .int .i64 0, .bool false, .string ⟨#[]⟩, .slice none 0 0, .slice none 0 0, .slice none 0 0, .slice none 0 0, .int .i64 0, .int .i64 0, .int .i64 0, .int .i64 0, .int .i64 0, .int .i64 0, .int .i64 0] 29)).alloc (.cells #[.string ⟨#[]⟩, .int .i64 0, .int .i64 0, .bool false, .string ⟨#[]⟩, .slice none 0 0, .slice none 0 0, .slice none 0 0, .slice none 0 0, .int .i64 0, .int .i64 0, .int .i64 0, .int .i64 0, .int .i64 0, .int .i64 0, .int .i64 0] 29)) [.bool false, .bool false, .bool false, .bool false, .bool false, .bool false, .bool false] 91, ((blk_new w [.string ⟨#[]⟩, .int .i64 0, .int .i64 0, .bool false, .string ⟨#[]⟩, .slice none 0 0, .slice none 0 0, .slice none 0 0, .slice none 0 0, .int .i64 0, .int .i64 0, .int .i64 0, .int .i64 0, .int .i64 0, .int .i64 0, .int .i64 0] 29).alloc _).alloc _, h.below BA, (by intro v hv z e; subst e; simp at hv), (by intro v hv z e; subst e; simp at hv), BA⟩)
  clear h hz b0 b1 b2 b3 b4 b5 b6 BA
  generalize hW : ((w.alloc (.cells #[.string ⟨#[]⟩, .int .i64 0, .int .i64 0, .bool false, .string ⟨#[]⟩, .slice none 0 0, .slice none 0 0, .slice none 0 0, .slice none 0 0, .int .i64 0, .int .i64 0, .int .i64 0, .int .i64 0, .int .i64 0, .int .i64 0, .int .i64 0] 29)).alloc (.cells #[.string ⟨#[]⟩, .int .i64 0, .int .i64 0, .bool false, .string ⟨#[]⟩, .slice none 0 0, .slice none 0 0, .slice none 0 0, .slice none 0 0, .int .i64 0, .int .i64 0, .int .i64 0, .int .i64 0, .int .i64 0, .int .i64 0, .int .i64 0] 29)).alloc (.cells #[.bool false, .bool false, .bool false, .bool false, .bool false, .bool false, .bool false] 91) = W0 at R0
  go_enter Tryz.func32, Tryz.ntmps32
  go_upto_region 3 with (fail)
  cases hd : Cd.dt zs with
  | none =>
    have HG := Lib.hid (show Cd.gt zs = none by rw [Cd.gt_dt, hd]; rfl)
    have hft : f1 = true := gT_none hd e0
    have HNO := Lib.hid (dc_f (x0 := x0) (x1 := x1) (x2 := x2) (x3 := x3) (x4 := x4) (x5 := x5) (x6 := x6) (z7 := z7) (gL_t e6 (gL_t e5 (gT_t e4 (gB_t e3 (gI_t e2 (gI_t e1 hft)))))))
    clear hd hft e0 e1 e2 e3 e4 e5 e6
    go_wp2_with (first
      | (go_at_call 78; go_loud (refine (Cd.rgetText_in _ _ _ _ zs HZ0.out.2 _ R0.out.sl R0.out.sl.here).mono ?_; intro e y1 hgot; obtain ⟨rfl, hb⟩ := Cd.gotin_no hgot HG.out; have S0 := Lib.hid (R0.out.gone hb); clear hgot hb))
      | (refine store_oneE rfl 9 _ _ rfl (w.heap.size + 1) 0 (.string ⟨#[]⟩) [.string ⟨#[]⟩, .int .i64 0, .int .i64 0, .bool false, .string ⟨#[]⟩, .slice none 0 0, .slice none 0 0, .slice none 0 0, .slice none 0 0, .int .i64 0, .int .i64 0, .int .i64 0, .int .i64 0, .int .i64 0, .int .i64 0, .int .i64 0] 29 rfl rfl S0.out.ob (show (0 : Nat) < 16 by decide) size9 rfl ?_; intro u1 eu; have S1 := Lib.hid (show RD w [.string ⟨#[]⟩, .int .i64 0, .int .i64 0, .bool false, .string ⟨#[]⟩, .slice none 0 0, .slice none 0 0, .slice none 0 0, .slice none 0 0, .int .i64 0, .int .i64 0, .int .i64 0, .int .i64 0, .int .i64 0, .int .i64 0, .int .i64 0] [.bool false, .bool false, .bool false, .bool false, .bool false, .bool false, .bool false] _ _ _ u1 by rw [eu]; exact S0.out.setO 0 (.string ⟨#[]⟩) (n8_str _)); clear eu)
      | (refine store_oneE rfl 4 _ _ rfl (w.heap.size + 2) 0 (.bool false) [.bool false, .bool false, .bool false, .bool false, .bool false, .bool false, .bool false] 91 rfl rfl S1.out.bb (show (0 : Nat) < 7 by decide) size4 rfl ?_; intro u2 eu; have S2 := Lib.hid (show RD w [.string ⟨#[]⟩, .int .i64 0, .int .i64 0, .bool false, .string ⟨#[]⟩, .slice none 0 0, .slice none 0 0, .slice none 0 0, .slice none 0 0, .int .i64 0, .int .i64 0, .int .i64 0, .int .i64 0, .int .i64 0, .int .i64 0, .int .i64 0] [.bool false, .bool false, .bool false, .bool false, .bool false, .bool false, .bool false] _ _ _ u2 by rw [eu]; exact S1.out.setB 0 (.bool false) (n8_bool _)); have b0 := S2.out.bb.cell (i := 0) rfl; have b1 := S2.out.bb.cell (i := 1) rfl; have b2 := S2.out.bb.cell (i := 2) rfl; have b3 := S2.out.bb.cell (i := 3) rfl; have b4 := S2.out.bb.cell (i := 4) rfl; have b5 := S2.out.bb.cell (i := 5) rfl; have b6 := S2.out.bb.cell (i := 6) rfl; clear eu)
      | (refine store_mid_as rfl 29 _ _ rfl w.heap.size 0 (#[.string ⟨#[]⟩, .int .i64 0, .int .i64 0, .bool false, .string ⟨#[]⟩, .slice none 0 0, .slice none 0 0, .slice none 0 0, .slice none 0 0, .int .i64 0, .int .i64 0, .int .i64 0, .int .i64 0, .int .i64 0, .int .i64 0, .int .i64 0] : Array Value) rfl rfl (Blk.there (n := 16) S2.out.ar (Nat.le_refl 16)) size29 (by simp [Value.oneCell']) ?_; intro wz ez; have EZ := Lib.hid ez; clear ez)
      | fail)
    (try simp only [Exit.inBlock, Exit.then])
    refine bodyPost_ret (results_cell_tmp_blk rfl _ _ w.heap.size [.string ⟨#[]⟩, .int .i64 0, .int .i64 0, .bool false, .string ⟨#[]⟩, .slice none 0 0, .slice none 0 0, .slice none 0 0, .slice none 0 0, .int .i64 0, .int .i64 0, .int .i64 0, .int .i64 0, .int .i64 0, .int .i64 0, .int .i64 0] 29 _ rfl (by rw [EZ.out]; exact Blk.setAll S2.out.ar _ rfl) Tryz.underlying29 rfl size29) rfl ?_
    rw [EZ.out]
    exact dcg_no HNO.out (below_setAll (Nat.le_refl _) _ _ _ S2.out.bel)
  | some t =>
    obtain ⟨v, r⟩ := t
    have HG0 : Cd.gt zs = some (.string v, r) := by rw [Cd.gt_dt, hd]; rfl
    obtain ⟨rfl, rfl, rfl⟩ : x0 = v ∧ z1 = r ∧ f1 = false := gT_some hd e0
    have HG := Lib.hid HG0
    clear hd HG0 e0
    go_upto_region 5 with (first
      | (go_at_call 78; go_loud (refine (Cd.rgetText_in _ _ _ _ zs HZ0.out.2 _ R0.out.sl R0.out.sl.here).mono ?_; intro e y1 hgot; obtain ⟨As, cs, rfl, hs, hi, hb⟩ := Cd.gotin_yes hgot HG.out; have S0 := Lib.hid (R0.out.call hb hs); clear hgot hb hs hi))
      | (refine store_oneE rfl 9 _ _ rfl (w.heap.size + 1) 0 (.string x0) [.string ⟨#[]⟩, .int .i64 0, .int .i64 0, .bool false, .string ⟨#[]⟩, .slice none 0 0, .slice none 0 0, .slice none 0 0, .slice none 0 0, .int .i64 0, .int .i64 0, .int .i64 0, .int .i64 0, .int .i64 0, .int .i64 0, .int .i64 0] 29 rfl rfl S0.out.ob (show (0 : Nat) < 16 by decide) size9 rfl ?_; intro u1 eu; have S1 := Lib.hid (show RD w [.string x0, .int .i64 0, .int .i64 0, .bool false, .string ⟨#[]⟩, .slice none 0 0, .slice none 0 0, .slice none 0 0, .slice none 0 0, .int .i64 0, .int .i64 0, .int .i64 0, .int .i64 0, .int .i64 0, .int .i64 0, .int .i64 0] [.bool false, .bool false, .bool false, .bool false, .bool false, .bool false, .bool false] _ _ _ u1 by rw [eu]; exact S0.out.setO 0 (.string x0) (n8_str _)); clear eu)
      | (refine store_oneE rfl 4 _ _ rfl (w.heap.size + 2) 0 (.bool true) [.bool false, .bool false, .bool false, .bool false, .bool false, .bool false, .bool false] 91 rfl rfl S1.out.bb (show (0 : Nat) < 7 by decide) size4 rfl ?_; intro u2 eu; have S2 := Lib.hid (show RD w [.string x0, .int .i64 0, .int .i64 0, .bool false, .string ⟨#[]⟩, .slice none 0 0, .slice none 0 0, .slice none 0 0, .slice none 0 0, .int .i64 0, .int .i64 0, .int .i64 0, .int .i64 0, .int .i64 0, .int .i64 0, .int .i64 0] [.bool true, .bool false, .bool false, .bool false, .bool false, .bool false, .bool false] _ _ _ u2 by rw [eu]; exact S1.out.setB 0 (.bool true) (n8_bool _)); have b0 := S2.out.bb.cell (i := 0) rfl; have b1 := S2.out.bb.cell (i := 1) rfl; have b2 := S2.out.bb.cell (i := 2) rfl; have b3 := S2.out.bb.cell (i := 3) rfl; have b4 := S2.out.bb.cell (i := 4) rfl; have b5 := S2.out.bb.cell (i := 5) rfl; have b6 := S2.out.bb.cell (i := 6) rfl; clear eu)
      | fail)
    have R1 := S2
    clear R0 S0 S1 S2 HG b0 b1 b2 b3 b4 b5 b6
    cases hd : Cd.di z1 with
    | none =>
      have HG := Lib.hid (show Cd.gi z1 = none by rw [Cd.gi_di, hd]; rfl)
      have hft : f2 = true := gI_none hd e1
      have HNO := Lib.hid (dc_f (x0 := x0) (x1 := x1) (x2 := x2) (x3 := x3) (x4 := x4) (x5 := x5) (x6 := x6) (z7 := z7) (gL_t e6 (gL_t e5 (gT_t e4 (gB_t e3 (gI_t e2 hft))))))
      clear hd hft e1 e2 e3 e4 e5 e6
      go_wp2_with (first
        | (go_at_call 79; go_loud (refine (Cd.rgetInt_any _ _ _ z1 HZ1.out.2 _ R1.out.sl).mono ?_; intro e y1 hgot; obtain ⟨rfl, hb⟩ := Cd.got_no hgot HG.out; have S0 := Lib.hid (R1.out.gone hb); clear hgot hb))
        | (refine store_oneE rfl 3 _ _ rfl (w.heap.size + 1) 1 (.int .i64 0) [.string x0, .int .i64 0, .int .i64 0, .bool false, .string ⟨#[]⟩, .slice none 0 0, .slice none 0 0, .slice none 0 0, .slice none 0 0, .int .i64 0, .int .i64 0, .int .i64 0, .int .i64 0, .int .i64 0, .int .i64 0, .int .i64 0] 29 rfl rfl S0.out.ob (show (1 : Nat) < 16 by decide) si3 rfl ?_; intro u1 eu; have S1 := Lib.hid (show RD w [.string x0, .int .i64 0, .int .i64 0, .bool false, .string ⟨#[]⟩, .slice none 0 0, .slice none 0 0, .slice none 0 0, .slice none 0 0, .int .i64 0, .int .i64 0, .int .i64 0, .int .i64 0, .int .i64 0, .int .i64 0, .int .i64 0] [.bool true, .bool false, .bool false, .bool false, .bool false, .bool false, .bool false] _ _ _ u1 by rw [eu]; exact S0.out.setO 1 (.int .i64 0) (n8_i64 _)); clear eu)
        | (refine store_oneE rfl 4 _ _ rfl (w.heap.size + 2) 1 (.bool false) [.bool true, .bool false, .bool false, .bool false, .bool false, .bool false, .bool false] 91 rfl rfl S1.out.bb (show (1 : Nat) < 7 by decide) size4 rfl ?_; intro u2 eu; have S2 := Lib.hid (show RD w [.string x0, .int .i64 0, .int .i64 0, .bool false, .string ⟨#[]⟩, .slice none 0 0, .slice none 0 0, .slice none 0 0, .slice none 0 0, .int .i64 0, .int .i64 0, .int .i64 0, .int .i64 0, .int .i64 0, .int .i64 0, .int .i64 0] [.bool true, .bool false, .bool false, .bool false, .bool false, .bool false, .bool false] _ _ _ u2 by rw [eu]; exact S1.out.setB 1 (.bool false) (n8_bool _)); have b0 := S2.out.bb.cell (i := 0) rfl; have b1 := S2.out.bb.cell (i := 1) rfl; have b2 := S2.out.bb.cell (i := 2) rfl; have b3 := S2.out.bb.cell (i := 3) rfl; have b4 := S2.out.bb.cell (i := 4) rfl; have b5 := S2.out.bb.cell (i := 5) rfl; have b6 := S2.out.bb.cell (i := 6) rfl; clear eu)
        | (refine store_mid_as rfl 29 _ _ rfl w.heap.size 0 (#[.string ⟨#[]⟩, .int .i64 0, .int .i64 0, .bool false, .string ⟨#[]⟩, .slice none 0 0, .slice none 0 0, .slice none 0 0, .slice none 0 0, .int .i64 0, .int .i64 0, .int .i64 0, .int .i64 0, .int .i64 0, .int .i64 0, .int .i64 0] : Array Value) rfl rfl (Blk.there (n := 16) S2.out.ar (Nat.le_refl 16)) size29 (by simp [Value.oneCell']) ?_; intro wz ez; have EZ := Lib.hid ez; clear ez)
        | fail)
      (try simp only [Exit.inBlock, Exit.then])
      refine bodyPost_ret (results_cell_tmp_blk rfl _ _ w.heap.size [.string ⟨#[]⟩, .int .i64 0, .int .i64 0, .bool false, .string ⟨#[]⟩, .slice none 0 0, .slice none 0 0, .slice none 0 0, .slice none 0 0, .int .i64 0, .int .i64 0, .int .i64 0, .int .i64 0, .int .i64 0, .int .i64 0, .int .i64 0] 29 _ rfl (by rw [EZ.out]; exact Blk.setAll S2.out.ar _ rfl) Tryz.underlying29 rfl size29) rfl ?_
      rw [EZ.out]
      exact dcg_no HNO.out (below_setAll (Nat.le_refl _) _ _ _ S2.out.bel)
    | some t =>
      obtain ⟨v, r⟩ := t
      have HG0 : Cd.gi z1 = some (.int .i64 v, r) := by rw [Cd.gi_di, hd]; rfl
      obtain ⟨rfl, rfl, rfl⟩ : x1 = v ∧ z2 = r ∧ f2 = false := gI_some hd e1
      have HG := Lib.hid HG0
      clear hd HG0 e1
      go_upto_region 7 with (first
        | (go_at_call 79; go_loud (refine (Cd.rgetInt_any _ _ _ z1 HZ1.out.2 _ R1.out.sl).mono ?_; intro e y2 hgot; obtain ⟨As, cs, rfl, hs, hb⟩ := Cd.got_yes hgot HG.out; have S0 := Lib.hid (R1.out.call hb hs); clear hgot hb hs))
        | (refine store_oneE rfl 3 _ _ rfl (w.heap.size + 1) 1 (.int .i64 x1) [.string x0, .int .i64 0, .int .i64 0, .bool false, .string ⟨#[]⟩, .slice none 0 0, .slice none 0 0, .slice none 0 0, .slice none 0 0, .int .i64 0, .int .i64 0, .int .i64 0, .int .i64 0, .int .i64 0, .int .i64 0, .int .i64 0] 29 rfl rfl S0.out.ob (show (1 : Nat) < 16 by decide) si3 rfl ?_; intro u1 eu; have S1 := Lib.hid (show RD w [.string x0, .int .i64 x1, .int .i64 0, .bool false, .string ⟨#[]⟩, .slice none 0 0, .slice none 0 0, .slice none 0 0, .slice none 0 0, .int .i64 0, .int .i64 0, .int .i64 0, .int .i64 0, .int .i64 0, .int .i64 0, .int .i64 0] [.bool true, .bool false, .bool false, .bool false, .bool false, .bool false, .bool false] _ _ _ u1 by rw [eu]; exact S0.out.setO 1 (.int .i64 x1) (n8_i64 _)); clear eu)
        | (refine store_oneE rfl 4 _ _ rfl (w.heap.size + 2) 1 (.bool true) [.bool true, .bool false, .bool false, .bool false, .bool false, .bool false, .bool false] 91 rfl rfl S1.out.bb (show (1 : Nat) < 7 by decide) size4 rfl ?_; intro u2 eu; have S2 := Lib.hid (show RD w [.string x0, .int .i64 x1, .int .i64 0, .bool false, .string ⟨#[]⟩, .slice none 0 0, .slice none 0 0, .slice none 0 0, .slice none 0 0, .int .i64 0, .int .i64 0, .int .i64 0, .int .i64 0, .int .i64 0, .int .i64 0, .int .i64 0] [.bool true, .bool true, .bool false, .bool false, .bool false, .bool false, .bool false] _ _ _ u2 by rw [eu]; exact S1.out.setB 1 (.bool true) (n8_bool _)); have b0 := S2.out.bb.cell (i := 0) rfl; have b1 := S2.out.bb.cell (i := 1) rfl; have b2 := S2.out.bb.cell (i := 2) rfl; have b3 := S2.out.bb.cell (i := 3) rfl; have b4 := S2.out.bb.cell (i := 4) rfl; have b5 := S2.out.bb.cell (i := 5) rfl; have b6 := S2.out.bb.cell (i := 6) rfl; clear eu)
        | fail)
      have R2 := S2
      clear R1 S0 S1 S2 HG b0 b1 b2 b3 b4 b5 b6
      cases hd : Cd.di z2 with
      | none =>
        have HG := Lib.hid (show Cd.gi z2 = none by rw [Cd.gi_di, hd]; rfl)
        have hft : f3 = true := gI_none hd e2
        have HNO := Lib.hid (dc_f (x0 := x0) (x1 := x1) (x2 := x2) (x3 := x3) (x4 := x4) (x5 := x5) (x6 := x6) (z7 := z7) (gL_t e6 (gL_t e5 (gT_t e4 (gB_t e3 hft)))))
        clear hd hft e2 e3 e4 e5 e6
        go_wp2_with (first
          | (go_at_call 79; go_loud (refine (Cd.rgetInt_any _ _ _ z2 HZ2.out.2 _ R2.out.sl).mono ?_; intro e y1 hgot; obtain ⟨rfl, hb⟩ := Cd.got_no hgot HG.out; have S0 := Lib.hid (R2.out.gone hb); clear hgot hb))
          | (refine store_oneE rfl 3 _ _ rfl (w.heap.size + 1) 2 (.int .i64 0) [.string x0, .int .i64 x1, .int .i64 0, .bool false, .string ⟨#[]⟩, .slice none 0 0, .slice none 0 0, .slice none 0 0, .slice none 0 0, .int .i64 0, .int .i64 0, .int .i64 0, .int .i64 0, .int .i64 0, .int .i64 0, .int .i64 0] 29 rfl rfl S0.out.ob (show (2 : Nat) < 16 by decide) si3 rfl ?_; intro u1 eu; have S1 := Lib.hid (show RD w [.string x0, .int .i64 x1, .int .i64 0, .bool false, .string ⟨#[]⟩, .slice none 0 0, .slice none 0 0, .slice none 0 0, .slice none 0 0, .int .i64 0, .int .i64 0, .int .i64 0, .int .i64 0, .int .i64 0, .int .i64 0, .int .i64 0] [.bool true, .bool true, .bool false, .bool false, .bool false, .bool false, .bool false] _ _ _ u1 by rw [eu]; exact S0.out.setO 2 (.int .i64 0) (n8_i64 _)); clear eu)
          | (refine store_oneE rfl 4 _ _ rfl (w.heap.size + 2) 2 (.bool false) [.bool true, .bool true, .bool false, .bool false, .bool false, .bool false, .bool false] 91 rfl rfl S1.out.bb (show (2 : Nat) < 7 by decide) size4 rfl ?_; intro u2 eu; have S2 := Lib.hid (show RD w [.string x0, .int .i64 x1, .int .i64 0, .bool false, .string ⟨#[]⟩, .slice none 0 0, .slice none 0 0, .slice none 0 0, .slice none 0 0, .int .i64 0, .int .i64 0, .int .i64 0, .int .i64 0, .int .i64 0, .int .i64 0, .int .i64 0] [.bool true, .bool true, .bool false, .bool false, .bool false, .bool false, .bool false] _ _ _ u2 by rw [eu]; exact S1.out.setB 2 (.bool false) (n8_bool _)); have b0 := S2.out.bb.cell (i := 0) rfl; have b1 := S2.out.bb.cell (i := 1) rfl; have b2 := S2.out.bb.cell (i := 2) rfl; have b3 := S2.out.bb.cell (i := 3) rfl; have b4 := S2.out.bb.cell (i := 4) rfl; have b5 := S2.out.bb.cell (i := 5) rfl; have b6 := S2.out.bb.cell (i := 6) rfl; clear eu)
          | (refine store_mid_as rfl 29 _ _ rfl w.heap.size 0 (#[.string ⟨#[]⟩, .int .i64 0, .int .i64 0, .bool false, .string ⟨#[]⟩, .slice none 0 0, .slice none 0 0, .slice none 0 0, .slice none 0 0, .int .i64 0, .int .i64 0, .int .i64 0, .int .i64 0, .int .i64 0, .int .i64 0, .int .i64 0] : Array Value) rfl rfl (Blk.there (n := 16) S2.out.ar (Nat.le_refl 16)) size29 (by simp [Value.oneCell']) ?_; intro wz ez; have EZ := Lib.hid ez; clear ez)
          | fail)
        (try simp only [Exit.inBlock, Exit.then])
        refine bodyPost_ret (results_cell_tmp_blk rfl _ _ w.heap.size [.string ⟨#[]⟩, .int .i64 0, .int .i64 0, .bool false, .string ⟨#[]⟩, .slice none 0 0, .slice none 0 0, .slice none 0 0, .slice none 0 0, .int .i64 0, .int .i64 0, .int .i64 0, .int .i64 0, .int .i64 0, .int .i64 0, .int .i64 0] 29 _ rfl (by rw [EZ.out]; exact Blk.setAll S2.out.ar _ rfl) Tryz.underlying29 rfl size29) rfl ?_
        rw [EZ.out]
        exact dcg_no HNO.out (below_setAll (Nat.le_refl _) _ _ _ S2.out.bel)
      | some t =>
        obtain ⟨v, r⟩ := t
        have HG0 : Cd.gi z2 = some (.int .i64 v, r) := by rw [Cd.gi_di, hd]; rfl
        obtain ⟨rfl, rfl, rfl⟩ : x2 = v ∧ z3 = r ∧ f3 = false := gI_some hd e2
        have HG := Lib.hid HG0
        clear hd HG0 e2
        go_upto_region 9 with (first
          | (go_at_call 79; go_loud (refine (Cd.rgetInt_any _ _ _ z2 HZ2.out.2 _ R2.out.sl).mono ?_; intro e y3 hgot; obtain ⟨As, cs, rfl, hs, hb⟩ := Cd.got_yes hgot HG.out; have S0 := Lib.hid (R2.out.call hb hs); clear hgot hb hs))
          | (refine store_oneE rfl 3 _ _ rfl (w.heap.size + 1) 2 (.int .i64 x2) [.string x0, .int .i64 x1, .int .i64 0, .bool false, .string ⟨#[]⟩, .slice none 0 0, .slice none 0 0, .slice none 0 0, .slice none 0 0, .int .i64 0, .int .i64 0, .int .i64 0, .int .i64 0, .int .i64 0, .int .i64 0, .int .i64 0] 29 rfl rfl S0.out.ob (show (2 : Nat) < 16 by decide) si3 rfl ?_; intro u1 eu; have S1 := Lib.hid (show RD w [.string x0, .int .i64 x1, .int .i64 x2, .bool false, .string ⟨#[]⟩, .slice none 0 0, .slice none 0 0, .slice none 0 0, .slice none 0 0, .int .i64 0, .int .i64 0, .int .i64 0, .int .i64 0, .int .i64 0, .int .i64 0, .int .i64 0] [.bool true, .bool true, .bool false, .bool false, .bool false, .bool false, .bool false] _ _ _ u1 by rw [eu]; exact S0.out.setO 2 (.int .i64 x2) (n8_i64 _)); clear eu)
          | (refine store_oneE rfl 4 _ _ rfl (w.heap.size + 2) 2 (.bool true) [.bool true, .bool true, .bool false, .bool false, .bool false, .bool false, .bool false] 91 rfl rfl S1.out.bb (show (2 : Nat) < 7 by decide) size4 rfl ?_; intro u2 eu; have S2 := Lib.hid (show RD w [.string x0, .int .i64 x1, .int .i64 x2, .bool false, .string ⟨#[]⟩, .slice none 0 0, .slice none 0 0, .slice none 0 0, .slice none 0 0, .int .i64 0, .int .i64 0, .int .i64 0, .int .i64 0, .int .i64 0, .int .i64 0, .int .i64 0] [.bool true, .bool true, .bool true, .bool false, .bool false, .bool false, .bool false] _ _ _ u2 by rw [eu]; exact S1.out.setB 2 (.bool true) (n8_bool _)); have b0 := S2.out.bb.cell (i := 0) rfl; have b1 := S2.out.bb.cell (i := 1) rfl; have b2 := S2.out.bb.cell (i := 2) rfl; have b3 := S2.out.bb.cell (i := 3) rfl; have b4 := S2.out.bb.cell (i := 4) rfl; have b5 := S2.out.bb.cell (i := 5) rfl; have b6 := S2.out.bb.cell (i := 6) rfl; clear eu)
          | fail)
        have R3 := S2
        clear R2 S0 S1 S2 HG b0 b1 b2 b3 b4 b5 b6
        cases hd : gbb z3 with
        | none =>
          have HG := Lib.hid (show Cd.gb z3 = none by rw [gb_gbb, hd]; rfl)
          have hft : f4 = true := gB_none hd e3
          have HNO := Lib.hid (dc_f (x0 := x0) (x1 := x1) (x2 := x2) (x3 := x3) (x4 := x4) (x5 := x5) (x6 := x6) (z7 := z7) (gL_t e6 (gL_t e5 (gT_t e4 hft))))
          clear hd hft e3 e4 e5 e6
          go_wp2_with (first
            | (go_at_call 80; go_loud (refine (Cd.rgetBool_any _ _ _ z3 (Nat.le_trans HZ3.out.2 (by decide)) _ R3.out.sl).mono ?_; intro e y1 hgot; obtain ⟨rfl, hb⟩ := Cd.got_no hgot HG.out; have S0 := Lib.hid (R3.out.gone hb); clear hgot hb))
            | (refine store_oneE rfl 4 _ _ rfl (w.heap.size + 1) 3 (.bool false) [.string x0, .int .i64 x1, .int .i64 x2, .bool false, .string ⟨#[]⟩, .slice none 0 0, .slice none 0 0, .slice none 0 0, .slice none 0 0, .int .i64 0, .int .i64 0, .int .i64 0, .int .i64 0, .int .i64 0, .int .i64 0, .int .i64 0] 29 rfl rfl S0.out.ob (show (3 : Nat) < 16 by decide) size4 rfl ?_; intro u1 eu; have S1 := Lib.hid (show RD w [.string x0, .int .i64 x1, .int .i64 x2, .bool false, .string ⟨#[]⟩, .slice none 0 0, .slice none 0 0, .slice none 0 0, .slice none 0 0, .int .i64 0, .int .i64 0, .int .i64 0, .int .i64 0, .int .i64 0, .int .i64 0, .int .i64 0] [.bool true, .bool true, .bool true, .bool false, .bool false, .bool false, .bool false] _ _ _ u1 by rw [eu]; exact S0.out.setO 3 (.bool false) (n8_bool _)); clear eu)
            | (refine store_oneE rfl 4 _ _ rfl (w.heap.size + 2) 3 (.bool false) [.bool true, .bool true, .bool true, .bool false, .bool false, .bool false, .bool false] 91 rfl rfl S1.out.bb (show (3 : Nat) < 7 by decide) size4 rfl ?_; intro u2 eu; have S2 := Lib.hid (show RD w [.string x0, .int .i64 x1, .int .i64 x2, .bool false, .string ⟨#[]⟩, .slice none 0 0, .slice none 0 0, .slice none 0 0, .slice none 0 0, .int .i64 0, .int .i64 0, .int .i64 0, .int .i64 0, .int .i64 0, .int .i64 0, .int .i64 0] [.bool true, .bool true, .bool true, .bool false, .bool false, .bool false, .bool false] _ _ _ u2 by rw [eu]; exact S1.out.setB 3 (.bool false) (n8_bool _)); have b0 := S2.out.bb.cell (i := 0) rfl; have b1 := S2.out.bb.cell (i := 1) rfl; have b2 := S2.out.bb.cell (i := 2) rfl; have b3 := S2.out.bb.cell (i := 3) rfl; have b4 := S2.out.bb.cell (i := 4) rfl; have b5 := S2.out.bb.cell (i := 5) rfl; have b6 := S2.out.bb.cell (i := 6) rfl; clear eu)
            | (refine store_mid_as rfl 29 _ _ rfl w.heap.size 0 (#[.string ⟨#[]⟩, .int .i64 0, .int .i64 0, .bool false, .string ⟨#[]⟩, .slice none 0 0, .slice none 0 0, .slice none 0 0, .slice none 0 0, .int .i64 0, .int .i64 0, .int .i64 0, .int .i64 0, .int .i64 0, .int .i64 0, .int .i64 0] : Array Value) rfl rfl (Blk.there (n := 16) S2.out.ar (Nat.le_refl 16)) size29 (by simp [Value.oneCell']) ?_; intro wz ez; have EZ := Lib.hid ez; clear ez)
            | fail)
          (try simp only [Exit.inBlock, Exit.then])
          refine bodyPost_ret (results_cell_tmp_blk rfl _ _ w.heap.size [.string ⟨#[]⟩, .int .i64 0, .int .i64 0, .bool false, .string ⟨#[]⟩, .slice none 0 0, .slice none 0 0, .slice none 0 0, .slice none 0 0, .int .i64 0, .int .i64 0, .int .i64 0, .int .i64 0, .int .i64 0, .int .i64 0, .int .i64 0] 29 _ rfl (by rw [EZ.out]; exact Blk.setAll S2.out.ar _ rfl) Tryz.underlying29 rfl size29) rfl ?_
          rw [EZ.out]
          exact dcg_no HNO.out (below_setAll (Nat.le_refl _) _ _ _ S2.out.bel)
        | some t =>
          obtain ⟨v, r⟩ := t
          have HG0 : Cd.gb z3 = some (.bool v, r) := by rw [gb_gbb, hd]; rfl
          obtain ⟨rfl, rfl, rfl⟩ : x3 = v ∧ z4 = r ∧ f4 = false := gB_some hd e3
          have HG := Lib.hid HG0
          clear hd HG0 e3
          go_upto_region 11 with (first
            | (go_at_call 80; go_loud (refine (Cd.rgetBool_any _ _ _ z3 (Nat.le_trans HZ3.out.2 (by decide)) _ R3.out.sl).mono ?_; intro e y4 hgot; obtain ⟨As, cs, rfl, hs, hb⟩ := Cd.got_yes hgot HG.out; have S0 := Lib.hid (R3.out.call hb hs); clear hgot hb hs))
            | (refine store_oneE rfl 4 _ _ rfl (w.heap.size + 1) 3 (.bool x3) [.string x0, .int .i64 x1, .int .i64 x2, .bool false, .string ⟨#[]⟩, .slice none 0 0, .slice none 0 0, .slice none 0 0, .slice none 0 0, .int .i64 0, .int .i64 0, .int .i64 0, .int .i64 0, .int .i64 0, .int .i64 0, .int .i64 0] 29 rfl rfl S0.out.ob (show (3 : Nat) < 16 by decide) size4 rfl ?_; intro u1 eu; have S1 := Lib.hid (show RD w [.string x0, .int .i64 x1, .int .i64 x2, .bool x3, .string ⟨#[]⟩, .slice none 0 0, .slice none 0 0, .slice none 0 0, .slice none 0 0, .int .i64 0, .int .i64 0, .int .i64 0, .int .i64 0, .int .i64 0, .int .i64 0, .int .i64 0] [.bool true, .bool true, .bool true, .bool false, .bool false, .bool false, .bool false] _ _ _ u1 by rw [eu]; exact S0.out.setO 3 (.bool x3) (n8_bool _)); clear eu)
            | (refine store_oneE rfl 4 _ _ rfl (w.heap.size + 2) 3 (.bool true) [.bool true, .bool true, .bool true, .bool false, .bool false, .bool false, .bool false] 91 rfl rfl S1.out.bb (show (3 : Nat) < 7 by decide) size4 rfl ?_; intro u2 eu; have S2 := Lib.hid (show RD w [.string x0, .int .i64 x1, .int .i64 x2, .bool x3, .string ⟨#[]⟩, .slice none 0 0, .slice none 0 0, .slice none 0 0, .slice none 0 0, .int .i64 0, .int .i64 0, .int .i64 0, .int .i64 0, .int .i64 0, .int .i64 0, .int .i64 0] [.bool true, .bool true, .bool true, .bool true, .bool false, .bool false, .bool false] _ _ _ u2 by rw [eu]; exact S1.out.setB 3 (.bool true) (n8_bool _)); have b0 := S2.out.bb.cell (i := 0) rfl; have b1 := S2.out.bb.cell (i := 1) rfl; have b2 := S2.out.bb.cell (i := 2) rfl; have b3 := S2.out.bb.cell (i := 3) rfl; have b4 := S2.out.bb.cell (i := 4) rfl; have b5 := S2.out.bb.cell (i := 5) rfl; have b6 := S2.out.bb.cell (i := 6) rfl; clear eu)
            | fail)
          have R4 := S2
          clear R3 S0 S1 S2 HG b0 b1 b2 b3 b4 b5 b6
          cases hd : Cd.dt z4 with
          | none =>
            have HG := Lib.hid (show Cd.gt z4 = none by rw [Cd.gt_dt, hd]; rfl)
            have hft : f5 = true := gT_none hd e4
            have HNO := Lib.hid (dc_f (x0 := x0) (x1 := x1) (x2 := x2) (x3 := x3) (x4 := x4) (x5 := x5) (x6 := x6) (z7 := z7) (gL_t e6 (gL_t e5 hft)))
            clear hd hft e4 e5 e6
            go_wp2_with (first
              | (go_at_call 78; go_loud (refine (Cd.rgetText_in _ _ _ _ z4 HZ4.out.2 _ R4.out.sl R4.out.sl.here).mono ?_; intro e y1 hgot; obtain ⟨rfl, hb⟩ := Cd.gotin_no hgot HG.out; have S0 := Lib.hid (R4.out.gone hb); clear hgot hb))
              | (refine store_oneE rfl 9 _ _ rfl (w.heap.size + 1) 4 (.string ⟨#[]⟩) [.string x0, .int .i64 x1, .int .i64 x2, .bool x3, .string ⟨#[]⟩, .slice none 0 0, .slice none 0 0, .slice none 0 0, .slice none 0 0, .int .i64 0, .int .i64 0, .int .i64 0, .int .i64 0, .int .i64 0, .int .i64 0, .int .i64 0] 29 rfl rfl S0.out.ob (show (4 : Nat) < 16 by decide) size9 rfl ?_; intro u1 eu; have S1 := Lib.hid (show RD w [.string x0, .int .i64 x1, .int .i64 x2, .bool x3, .string ⟨#[]⟩, .slice none 0 0, .slice none 0 0, .slice none 0 0, .slice none 0 0, .int .i64 0, .int .i64 0, .int .i64 0, .int .i64 0, .int .i64 0, .int .i64 0, .int .i64 0] [.bool true, .bool true, .bool true, .bool true, .bool false, .bool false, .bool false] _ _ _ u1 by rw [eu]; exact S0.out.setO 4 (.string ⟨#[]⟩) (n8_str _)); clear eu)
              | (refine store_oneE rfl 4 _ _ rfl (w.heap.size + 2) 4 (.bool false) [.bool true, .bool true, .bool true, .bool true, .bool false, .bool false, .bool false] 91 rfl rfl S1.out.bb (show (4 : Nat) < 7 by decide) size4 rfl ?_; intro u2 eu; have S2 := Lib.hid (show RD w [.string x0, .int .i64 x1, .int .i64 x2, .bool x3, .string ⟨#[]⟩, .slice none 0 0, .slice none 0 0, .slice none 0 0, .slice none 0 0, .int .i64 0, .int .i64 0, .int .i64 0, .int .i64 0, .int .i64 0, .int .i64 0, .int .i64 0] [.bool true, .bool true, .bool true, .bool true, .bool false, .bool false, .bool false] _ _ _ u2 by rw [eu]; exact S1.out.setB 4 (.bool false) (n8_bool _)); have b0 := S2.out.bb.cell (i := 0) rfl; have b1 := S2.out.bb.cell (i := 1) rfl; have b2 := S2.out.bb.cell (i := 2) rfl; have b3 := S2.out.bb.cell (i := 3) rfl; have b4 := S2.out.bb.cell (i := 4) rfl; have b5 := S2.out.bb.cell (i := 5) rfl; have b6 := S2.out.bb.cell (i := 6) rfl; clear eu)
              | (refine store_mid_as rfl 29 _ _ rfl w.heap.size 0 (#[.string ⟨#[]⟩, .int .i64 0, .int .i64 0, .bool false, .string ⟨#[]⟩, .slice none 0 0, .slice none 0 0, .slice none 0 0, .slice none 0 0, .int .i64 0, .int .i64 0, .int .i64 0, .int .i64 0, .int .i64 0, .int .i64 0, .int .i64 0] : Array Value) rfl rfl (Blk.there (n := 16) S2.out.ar (Nat.le_refl 16)) size29 (by simp [Value.oneCell']) ?_; intro wz ez; have EZ := Lib.hid ez; clear ez)
              | fail)
            (try simp only [Exit.inBlock, Exit.then])
            refine bodyPost_ret (results_cell_tmp_blk rfl _ _ w.heap.size [.string ⟨#[]⟩, .int .i64 0, .int .i64 0, .bool false, .string ⟨#[]⟩, .slice none 0 0, .slice none 0 0, .slice none 0 0, .slice none 0 0, .int .i64 0, .int .i64 0, .int .i64 0, .int .i64 0, .int .i64 0, .int .i64 0, .int .i64 0] 29 _ rfl (by rw [EZ.out]; exact Blk.setAll S2.out.ar _ rfl) Tryz.underlying29 rfl size29) rfl ?_
            rw [EZ.out]
            exact dcg_no HNO.out (below_setAll (Nat.le_refl _) _ _ _ S2.out.bel)
          | some t =>
            obtain ⟨v, r⟩ := t
            have HG0 : Cd.gt z4 = some (.string v, r) := by rw [Cd.gt_dt, hd]; rfl
            obtain ⟨rfl, rfl, rfl⟩ : x4 = v ∧ z5 = r ∧ f5 = false := gT_some hd e4
            have HG := Lib.hid HG0
            clear hd HG0 e4
            go_upto_region 13 with (first
              | (go_at_call 78; go_loud (refine (Cd.rgetText_in _ _ _ _ z4 HZ4.out.2 _ R4.out.sl R4.out.sl.here).mono ?_; intro e y5 hgot; obtain ⟨As, cs, rfl, hs, hi, hb⟩ := Cd.gotin_yes hgot HG.out; have S0 := Lib.hid (R4.out.call hb hs); clear hgot hb hs hi))
              | (refine store_oneE rfl 9 _ _ rfl (w.heap.size + 1) 4 (.string x4) [.string x0, .int .i64 x1, .int .i64 x2, .bool x3, .string ⟨#[]⟩, .slice none 0 0, .slice none 0 0, .slice none 0 0, .slice none 0 0, .int .i64 0, .int .i64 0, .int .i64 0, .int .i64 0, .int .i64 0, .int .i64 0, .int .i64 0] 29 rfl rfl S0.out.ob (show (4 : Nat) < 16 by decide) size9 rfl ?_; intro u1 eu; have S1 := Lib.hid (show RD w [.string x0, .int .i64 x1, .int .i64 x2, .bool x3, .string x4, .slice none 0 0, .slice none 0 0, .slice none 0 0, .slice none 0 0, .int .i64 0, .int .i64 0, .int .i64 0, .int .i64 0, .int .i64 0, .int .i64 0, .int .i64 0] [.bool true, .bool true, .bool true, .bool true, .bool false, .bool false, .bool false] _ _ _ u1 by rw [eu]; exact S0.out.setO 4 (.string x4) (n8_str _)); clear eu)
              | (refine store_oneE rfl 4 _ _ rfl (w.heap.size + 2) 4 (.bool true) [.bool true, .bool true, .bool true, .bool true, .bool false, .bool false, .bool false] 91 rfl rfl S1.out.bb (show (4 : Nat) < 7 by decide) size4 rfl ?_; intro u2 eu; have S2 := Lib.hid (show RD w [.string x0, .int .i64 x1, .int .i64 x2, .bool x3, .string x4, .slice none 0 0, .slice none 0 0, .slice none 0 0, .slice none 0 0, .int .i64 0, .int .i64 0, .int .i64 0, .int .i64 0, .int .i64 0, .int .i64 0, .int .i64 0] [.bool true, .bool true, .bool true, .bool true, .bool true, .bool false, .bool false] _ _ _ u2 by rw [eu]; exact S1.out.setB 4 (.bool true) (n8_bool _)); have b0 := S2.out.bb.cell (i := 0) rfl; have b1 := S2.out.bb.cell (i := 1) rfl; have b2 := S2.out.bb.cell (i := 2) rfl; have b3 := S2.out.bb.cell (i := 3) rfl; have b4 := S2.out.bb.cell (i := 4) rfl; have b5 := S2.out.bb.cell (i := 5) rfl; have b6 := S2.out.bb.cell (i := 6) rfl; clear eu)
              | fail)
            have R5 := S2
            clear R4 S0 S1 S2 HG b0 b1 b2 b3 b4 b5 b6
            cases hd : Cd.gts z5 with
            | none =>
              have HG := Lib.hid hd
              have hft : f6 = true := gL_none hd e5
              have HNO := Lib.hid (dc_f (x0 := x0) (x1 := x1) (x2 := x2) (x3 := x3) (x4 := x4) (x5 := x5) (x6 := x6) (z7 := z7) (gL_t e6 hft))
              clear hd hft e5 e6
              go_wp2_with (first
                | (go_at_call 81; go_loud (refine (Cd.rgetTexts_new _ _ _ z5 HZ5.out.2 _ R5.out.sl).mono ?_; intro e y1 hgot; obtain ⟨rfl, hb⟩ := Cd.gotl_no hgot HG.out; have S0 := Lib.hid (R5.out.gone hb); clear hgot hb))
                | (refine store_oneE rfl 23 _ _ rfl (w.heap.size + 1) 5 (.slice none 0 0) [.string x0, .int .i64 x1, .int .i64 x2, .bool x3, .string x4, .slice none 0 0, .slice none 0 0, .slice none 0 0, .slice none 0 0, .int .i64 0, .int .i64 0, .int .i64 0, .int .i64 0, .int .i64 0, .int .i64 0, .int .i64 0] 29 rfl rfl S0.out.ob (show (5 : Nat) < 16 by decide) size23 rfl ?_; intro u1 eu; have S1 := Lib.hid (show RD w [.string x0, .int .i64 x1, .int .i64 x2, .bool x3, .string x4, .slice none 0 0, .slice none 0 0, .slice none 0 0, .slice none 0 0, .int .i64 0, .int .i64 0, .int .i64 0, .int .i64 0, .int .i64 0, .int .i64 0, .int .i64 0] [.bool true, .bool true, .bool true, .bool true, .bool true, .bool false, .bool false] _ _ _ u1 by rw [eu]; exact S0.out.setO 5 (.slice none 0 0) (n8_sl _ _ _)); clear eu)
                | (refine store_oneE rfl 4 _ _ rfl (w.heap.size + 2) 5 (.bool false) [.bool true, .bool true, .bool true, .bool true, .bool true, .bool false, .bool false] 91 rfl rfl S1.out.bb (show (5 : Nat) < 7 by decide) size4 rfl ?_; intro u2 eu; have S2 := Lib.hid (show RD w [.string x0, .int .i64 x1, .int .i64 x2, .bool x3, .string x4, .slice none 0 0, .slice none 0 0, .slice none 0 0, .slice none 0 0, .int .i64 0, .int .i64 0, .int .i64 0, .int .i64 0, .int .i64 0, .int .i64 0, .int .i64 0] [.bool true, .bool true, .bool true, .bool true, .bool true, .bool false, .bool false] _ _ _ u2 by rw [eu]; exact S1.out.setB 5 (.bool false) (n8_bool _)); have b0 := S2.out.bb.cell (i := 0) rfl; have b1 := S2.out.bb.cell (i := 1) rfl; have b2 := S2.out.bb.cell (i := 2) rfl; have b3 := S2.out.bb.cell (i := 3) rfl; have b4 := S2.out.bb.cell (i := 4) rfl; have b5 := S2.out.bb.cell (i := 5) rfl; have b6 := S2.out.bb.cell (i := 6) rfl; clear eu)
                | (refine store_mid_as rfl 29 _ _ rfl w.heap.size 0 (#[.string ⟨#[]⟩, .int .i64 0, .int .i64 0, .bool false, .string ⟨#[]⟩, .slice none 0 0, .slice none 0 0, .slice none 0 0, .slice none 0 0, .int .i64 0, .int .i64 0, .int .i64 0, .int .i64 0, .int .i64 0, .int .i64 0, .int .i64 0] : Array Value) rfl rfl (Blk.there (n := 16) S2.out.ar (Nat.le_refl 16)) size29 (by simp [Value.oneCell']) ?_; intro wz ez; have EZ := Lib.hid ez; clear ez)
                | fail)
              (try simp only [Exit.inBlock, Exit.then])
              refine bodyPost_ret (results_cell_tmp_blk rfl _ _ w.heap.size [.string ⟨#[]⟩, .int .i64 0, .int .i64 0, .bool false, .string ⟨#[]⟩, .slice none 0 0, .slice none 0 0, .slice none 0 0, .slice none 0 0, .int .i64 0, .int .i64 0, .int .i64 0, .int .i64 0, .int .i64 0, .int .i64 0, .int .i64 0] 29 _ rfl (by rw [EZ.out]; exact Blk.setAll S2.out.ar _ rfl) Tryz.underlying29 rfl size29) rfl ?_
              rw [EZ.out]
              exact dcg_no HNO.out (below_setAll (Nat.le_refl _) _ _ _ S2.out.bel)
            | some t =>
              obtain ⟨v, r⟩ := t
              have HG0 := hd
              obtain ⟨rfl, rfl, rfl⟩ : x5 = v ∧ z6 = r ∧ f6 = false := gL_some hd e5
              have HG := Lib.hid HG0
              clear hd HG0 e5
              go_upto_region 15 with (first
                | (go_at_call 81; go_loud (refine (Cd.rgetTexts_new _ _ _ z5 HZ5.out.2 _ R5.out.sl).mono ?_; intro e y6 hgot; obtain ⟨A5, c5, As, cs, rfl, ht, hs, hb⟩ := Cd.gotl_yes hgot HG.out; have S0 := Lib.hid (R5.out.call hb hs); have T5 := Lib.hid (show Cd.TsN (w.heap.size + 3) y6 A5 x5.length c5 x5 from ⟨ht.1, fun b off e => by have := ht.2 b off e; have := R5.out.bb.lt; omega⟩); clear hgot hb hs ht))
                | (refine store_oneE rfl 23 _ _ rfl (w.heap.size + 1) 5 (.slice A5 x5.length c5) [.string x0, .int .i64 x1, .int .i64 x2, .bool x3, .string x4, .slice none 0 0, .slice none 0 0, .slice none 0 0, .slice none 0 0, .int .i64 0, .int .i64 0, .int .i64 0, .int .i64 0, .int .i64 0, .int .i64 0, .int .i64 0] 29 rfl rfl S0.out.ob (show (5 : Nat) < 16 by decide) size23 rfl ?_; intro u1 eu; have S1 := Lib.hid (show RD w [.string x0, .int .i64 x1, .int .i64 x2, .bool x3, .string x4, .slice A5 x5.length c5, .slice none 0 0, .slice none 0 0, .slice none 0 0, .int .i64 0, .int .i64 0, .int .i64 0, .int .i64 0, .int .i64 0, .int .i64 0, .int .i64 0] [.bool true, .bool true, .bool true, .bool true, .bool true, .bool false, .bool false] _ _ _ u1 by rw [eu]; exact S0.out.setO 5 (.slice A5 x5.length c5) (n8_sl _ _ _)); have T5 := Lib.hid (show Cd.TsN (w.heap.size + 3) u1 A5 x5.length c5 x5 by rw [eu]; exact tsn_setc T5.out (by omega) _ _); clear eu)
                | (refine store_oneE rfl 4 _ _ rfl (w.heap.size + 2) 5 (.bool true) [.bool true, .bool true, .bool true, .bool true, .bool true, .bool false, .bool false] 91 rfl rfl S1.out.bb (show (5 : Nat) < 7 by decide) size4 rfl ?_; intro u2 eu; have S2 := Lib.hid (show RD w [.string x0, .int .i64 x1, .int .i64 x2, .bool x3, .string x4, .slice A5 x5.length c5, .slice none 0 0, .slice none 0 0, .slice none 0 0, .int .i64 0, .int .i64 0, .int .i64 0, .int .i64 0, .int .i64 0, .int .i64 0, .int .i64 0] [.bool true, .bool true, .bool true, .bool true, .bool true, .bool true, .bool false] _ _ _ u2 by rw [eu]; exact S1.out.setB 5 (.bool true) (n8_bool _)); have T5 := Lib.hid (show Cd.TsN (w.heap.size + 3) u2 A5 x5.length c5 x5 by rw [eu]; exact tsn_setc T5.out (by omega) _ _); have b0 := S2.out.bb.cell (i := 0) rfl; have b1 := S2.out.bb.cell (i := 1) rfl; have b2 := S2.out.bb.cell (i := 2) rfl; have b3 := S2.out.bb.cell (i := 3) rfl; have b4 := S2.out.bb.cell (i := 4) rfl; have b5 := S2.out.bb.cell (i := 5) rfl; have b6 := S2.out.bb.cell (i := 6) rfl; clear eu)
                | fail)
              have R6 := S2
              clear R5 S0 S1 S2 HG b0 b1 b2 b3 b4 b5 b6
              cases hd : Cd.gts z6 with
              | none =>
                have HG := Lib.hid hd
                have hft : f7 = true := gL_none hd e6
                have HNO := Lib.hid (dc_f (x0 := x0) (x1 := x1) (x2 := x2) (x3 := x3) (x4 := x4) (x5 := x5) (x6 := x6) (z7 := z7) hft)
                clear hd hft e6
                go_wp2_with (first
                  | (go_at_call 81; go_loud (refine (Cd.rgetTexts_new _ _ _ z6 HZ6.out.2 _ R6.out.sl).mono ?_; intro e y1 hgot; obtain ⟨rfl, hb⟩ := Cd.gotl_no hgot HG.out; have S0 := Lib.hid (R6.out.gone hb); clear hgot hb))
                  | (refine store_oneE rfl 23 _ _ rfl (w.heap.size + 1) 6 (.slice none 0 0) [.string x0, .int .i64 x1, .int .i64 x2, .bool x3, .string x4, .slice A5 x5.length c5, .slice none 0 0, .slice none 0 0, .slice none 0 0, .int .i64 0, .int .i64 0, .int .i64 0, .int .i64 0, .int .i64 0, .int .i64 0, .int .i64 0] 29 rfl rfl S0.out.ob (show (6 : Nat) < 16 by decide) size23 rfl ?_; intro u1 eu; have S1 := Lib.hid (show RD w [.string x0, .int .i64 x1, .int .i64 x2, .bool x3, .string x4, .slice A5 x5.length c5, .slice none 0 0, .slice none 0 0, .slice none 0 0, .int .i64 0, .int .i64 0, .int .i64 0, .int .i64 0, .int .i64 0, .int .i64 0, .int .i64 0] [.bool true, .bool true, .bool true, .bool true, .bool true, .bool true, .bool false] _ _ _ u1 by rw [eu]; exact S0.out.setO 6 (.slice none 0 0) (n8_sl _ _ _)); clear eu)
                  | (refine store_oneE rfl 4 _ _ rfl (w.heap.size + 2) 6 (.bool false) [.bool true, .bool true, .bool true, .bool true, .bool true, .bool true, .bool false] 91 rfl rfl S1.out.bb (show (6 : Nat) < 7 by decide) size4 rfl ?_; intro u2 eu; have S2 := Lib.hid (show RD w [.string x0, .int .i64 x1, .int .i64 x2, .bool x3, .string x4, .slice A5 x5.length c5, .slice none 0 0, .slice none 0 0, .slice none 0 0, .int .i64 0, .int .i64 0, .int .i64 0, .int .i64 0, .int .i64 0, .int .i64 0, .int .i64 0] [.bool true, .bool true, .bool true, .bool true, .bool true, .bool true, .bool false] _ _ _ u2 by rw [eu]; exact S1.out.setB 6 (.bool false) (n8_bool _)); have b0 := S2.out.bb.cell (i := 0) rfl; have b1 := S2.out.bb.cell (i := 1) rfl; have b2 := S2.out.bb.cell (i := 2) rfl; have b3 := S2.out.bb.cell (i := 3) rfl; have b4 := S2.out.bb.cell (i := 4) rfl; have b5 := S2.out.bb.cell (i := 5) rfl; have b6 := S2.out.bb.cell (i := 6) rfl; clear eu)
                  | (refine store_mid_as rfl 29 _ _ rfl w.heap.size 0 (#[.string ⟨#[]⟩, .int .i64 0, .int .i64 0, .bool false, .string ⟨#[]⟩, .slice none 0 0, .slice none 0 0, .slice none 0 0, .slice none 0 0, .int .i64 0, .int .i64 0, .int .i64 0, .int .i64 0, .int .i64 0, .int .i64 0, .int .i64 0] : Array Value) rfl rfl (Blk.there (n := 16) S2.out.ar (Nat.le_refl 16)) size29 (by simp [Value.oneCell']) ?_; intro wz ez; have EZ := Lib.hid ez; clear ez)
                  | fail)
                (try simp only [Exit.inBlock, Exit.then])
                refine bodyPost_ret (results_cell_tmp_blk rfl _ _ w.heap.size [.string ⟨#[]⟩, .int .i64 0, .int .i64 0, .bool false, .string ⟨#[]⟩, .slice none 0 0, .slice none 0 0, .slice none 0 0, .slice none 0 0, .int .i64 0, .int .i64 0, .int .i64 0, .int .i64 0, .int .i64 0, .int .i64 0, .int .i64 0] 29 _ rfl (by rw [EZ.out]; exact Blk.setAll S2.out.ar _ rfl) Tryz.underlying29 rfl size29) rfl ?_
                rw [EZ.out]
                exact dcg_no HNO.out (below_setAll (Nat.le_refl _) _ _ _ S2.out.bel)
              | some t =>
                obtain ⟨v, r⟩ := t
                have HG0 := hd
                obtain ⟨rfl, rfl, rfl⟩ : x6 = v ∧ z7 = r ∧ f7 = false := gL_some hd e6
                have HG := Lib.hid HG0
                clear hd HG0 e6
                go_upto_region 18 with (first
                  | (go_at_call 81; go_loud (refine (Cd.rgetTexts_new _ _ _ z6 HZ6.out.2 _ R6.out.sl).mono ?_; intro e y7 hgot; obtain ⟨A6, c6, As, cs, rfl, ht, hs, hb⟩ := Cd.gotl_yes hgot HG.out; have S0 := Lib.hid (R6.out.call hb hs); have T5 := Lib.hid (tsn_below T5.out hb); have T6 := Lib.hid (show Cd.TsN (w.heap.size + 3) y7 A6 x6.length c6 x6 from ⟨ht.1, fun b off e => by have := ht.2 b off e; have := R6.out.bb.lt; omega⟩); clear hgot hb hs ht))
                  | (refine store_oneE rfl 23 _ _ rfl (w.heap.size + 1) 6 (.slice A6 x6.length c6) [.string x0, .int .i64 x1, .int .i64 x2, .bool x3, .string x4, .slice A5 x5.length c5, .slice none 0 0, .slice none 0 0, .slice none 0 0, .int .i64 0, .int .i64 0, .int .i64 0, .int .i64 0, .int .i64 0, .int .i64 0, .int .i64 0] 29 rfl rfl S0.out.ob (show (6 : Nat) < 16 by decide) size23 rfl ?_; intro u1 eu; have S1 := Lib.hid (show RD w [.string x0, .int .i64 x1, .int .i64 x2, .bool x3, .string x4, .slice A5 x5.length c5, .slice A6 x6.length c6, .slice none 0 0, .slice none 0 0, .int .i64 0, .int .i64 0, .int .i64 0, .int .i64 0, .int .i64 0, .int .i64 0, .int .i64 0] [.bool true, .bool true, .bool true, .bool true, .bool true, .bool true, .bool false] _ _ _ u1 by rw [eu]; exact S0.out.setO 6 (.slice A6 x6.length c6) (n8_sl _ _ _)); have T5 := Lib.hid (show Cd.TsN (w.heap.size + 3) u1 A5 x5.length c5 x5 by rw [eu]; exact tsn_setc T5.out (by omega) _ _); have T6 := Lib.hid (show Cd.TsN (w.heap.size + 3) u1 A6 x6.length c6 x6 by rw [eu]; exact tsn_setc T6.out (by omega) _ _); clear eu)
                  | (refine store_oneE rfl 4 _ _ rfl (w.heap.size + 2) 6 (.bool true) [.bool true, .bool true, .bool true, .bool true, .bool true, .bool true, .bool false] 91 rfl rfl S1.out.bb (show (6 : Nat) < 7 by decide) size4 rfl ?_; intro u2 eu; have S2 := Lib.hid (show RD w [.string x0, .int .i64 x1, .int .i64 x2, .bool x3, .string x4, .slice A5 x5.length c5, .slice A6 x6.length c6, .slice none 0 0, .slice none 0 0, .int .i64 0, .int .i64 0, .int .i64 0, .int .i64 0, .int .i64 0, .int .i64 0, .int .i64 0] [.bool true, .bool true, .bool true, .bool true, .bool true, .bool true, .bool true] _ _ _ u2 by rw [eu]; exact S1.out.setB 6 (.bool true) (n8_bool _)); have T5 := Lib.hid (show Cd.TsN (w.heap.size + 3) u2 A5 x5.length c5 x5 by rw [eu]; exact tsn_setc T5.out (by omega) _ _); have T6 := Lib.hid (show Cd.TsN (w.heap.size + 3) u2 A6 x6.length c6 x6 by rw [eu]; exact tsn_setc T6.out (by omega) _ _); have b0 := S2.out.bb.cell (i := 0) rfl; have b1 := S2.out.bb.cell (i := 1) rfl; have b2 := S2.out.bb.cell (i := 2) rfl; have b3 := S2.out.bb.cell (i := 3) rfl; have b4 := S2.out.bb.cell (i := 4) rfl; have b5 := S2.out.bb.cell (i := 5) rfl; have b6 := S2.out.bb.cell (i := 6) rfl; clear eu)
                  | fail)
                have R7 := S2
                clear R6 S0 S1 S2 HG b0 b1 b2 b3 b4 b5 b6
                have hz7l : z7.length ≤ 800000 := HZ7.out.2
                cases hq : dcL z7 false with
                | none =>
                  have HQ := Lib.hid hq
                  have HNO := Lib.hid (show dcE x0 x1 x2 x3 x4 x5 x6 (dcL z7 false) = none by rw [hq]; rfl)
                  clear hq
                  go_wp2_with (first
                    | (go_at_call 82; go_loud ((with_reducible refine (rlevels82 _ _ z7 _ R7.out.sl hz7l).mono ?_); rintro e y8 ⟨hb, hm⟩; rw [HQ.out] at hm; obtain ⟨⟨us, ks, d, a3, a4, a5, a6, a7, a8⟩, uA, uC, kA, kC, rfl⟩ := hm; have S0 := Lib.hid (R7.out.gone hb); clear hb; rw [show (lcs (⟨us, ks, d, a3, a4, a5, a6, a7, a8⟩ : Lv) uA uC kA kC).toArray = #[.slice uA us.length uC, .slice kA ks.length kC, .int .i64 d, .int .i64 a3, .int .i64 a4, .int .i64 a5, .int .i64 a6, .int .i64 a7, .int .i64 a8] from rfl]))
                    | (refine store_as rfl 27 _ _ rfl [.slice none 0 0, .slice none 0 0, .int .i64 0, .int .i64 0, .int .i64 0, .int .i64 0, .int .i64 0, .int .i64 0, .int .i64 0] [.slice uA us.length uC, .slice kA ks.length kC, .int .i64 d, .int .i64 a3, .int .i64 a4, .int .i64 a5, .int .i64 a6, .int .i64 a7, .int .i64 a8] rfl rfl rfl size27 (by simp [Value.oneCell']) ?_; intro u3 hx hb; have S1 := Lib.hid (S0.out.keep hb); clear hx hb)
                    | (refine store_mid_as rfl 29 _ _ rfl w.heap.size 0 (#[.string ⟨#[]⟩, .int .i64 0, .int .i64 0, .bool false, .string ⟨#[]⟩, .slice none 0 0, .slice none 0 0, .slice none 0 0, .slice none 0 0, .int .i64 0, .int .i64 0, .int .i64 0, .int .i64 0, .int .i64 0, .int .i64 0, .int .i64 0] : Array Value) rfl rfl (Blk.there (n := 16) S1.out.ar (Nat.le_refl 16)) size29 (by simp [Value.oneCell']) ?_; intro wz ez; have EZ := Lib.hid ez; clear ez)
                    | fail)
                  (try simp only [Exit.inBlock, Exit.then])
                  refine bodyPost_ret (results_cell_tmp_blk rfl _ _ w.heap.size [.string ⟨#[]⟩, .int .i64 0, .int .i64 0, .bool false, .string ⟨#[]⟩, .slice none 0 0, .slice none 0 0, .slice none 0 0, .slice none 0 0, .int .i64 0, .int .i64 0, .int .i64 0, .int .i64 0, .int .i64 0, .int .i64 0, .int .i64 0] 29 _ rfl (by rw [EZ.out]; exact Blk.setAll S1.out.ar _ rfl) Tryz.underlying29 rfl size29) rfl ?_
                  rw [EZ.out]
                  exact dcg_no HNO.out (below_setAll (Nat.le_refl _) _ _ _ S1.out.bel)
                | some t =>
                  obtain ⟨L, rest⟩ := t
                  obtain ⟨us, ks, d, a3, a4, a5, a6, a7, a8⟩ := L
                  have HQ := Lib.hid hq
                  have HLF := Lib.hid (dcL_ok HZ7.out hq)
                  by_cases hr0 : rest.length = 0
                  · have HY := Lib.hid (show dcE x0 x1 x2 x3 x4 x5 x6 (dcL z7 false) = some ⟨x0, x1, x2, x3, x4, x5, x6, us, ks, d, a3, a4, a5, a6, a7, a8⟩ by rw [hq]; exact if_pos hr0)
                    have g0 : ¬ 0 < rest.length := by omega
                    clear hr0 hq
                    go_wp2_with (first
                      | (go_at_call 82; go_loud ((with_reducible refine (rlevels82 _ _ z7 _ R7.out.sl hz7l).mono ?_); rintro e y8 ⟨hb, hm⟩; rw [HQ.out] at hm; obtain ⟨uA, uC, kA, kC, As, cs, rfl, hs, hr1, hr2⟩ := hm; have S0 := Lib.hid (R7.out.call hb hs); have T5 := Lib.hid (tsn_below T5.out hb); have T6 := Lib.hid (tsn_below T6.out hb); have U1 := Lib.hid (own_low hr1 (show w.heap.size + 3 ≤ _ from R7.out.bb.lt)); have U2 := Lib.hid (own_low hr2 (show w.heap.size + 3 ≤ _ from R7.out.bb.lt)); clear hb hs hr1 hr2; rw [show (lcs (⟨us, ks, d, a3, a4, a5, a6, a7, a8⟩ : Lv) uA uC kA kC).toArray = #[.slice uA us.length uC, .slice kA ks.length kC, .int .i64 d, .int .i64 a3, .int .i64 a4, .int .i64 a5, .int .i64 a6, .int .i64 a7, .int .i64 a8] from rfl]))
                      | (refine store_as rfl 27 _ _ rfl [.slice none 0 0, .slice none 0 0, .int .i64 0, .int .i64 0, .int .i64 0, .int .i64 0, .int .i64 0, .int .i64 0, .int .i64 0] [.slice uA us.length uC, .slice kA ks.length kC, .int .i64 d, .int .i64 a3, .int .i64 a4, .int .i64 a5, .int .i64 a6, .int .i64 a7, .int .i64 a8] rfl rfl rfl size27 (by simp [Value.oneCell']) ?_; intro u3 hx hb; have S1 := Lib.hid (S0.out.keep hb); have V3 := Lib.hid hx; have T5 := Lib.hid (tsn_below T5.out hb); have T6 := Lib.hid (tsn_below T6.out hb); have U1 := Lib.hid (row_kp U1.out (Kp.below hb w.heap.size) (by omega)); have U2 := Lib.hid (row_kp U2.out (Kp.below hb w.heap.size) (by omega)); clear hx hb)
                      | (refine wpList_load_mid rfl 27 _ rfl _ 0 rfl [.slice uA us.length uC, .slice kA ks.length kC, .int .i64 d, .int .i64 a3, .int .i64 a4, .int .i64 a5, .int .i64 a6, .int .i64 a7, .int .i64 a8] _ V3.out.range Tryz.underlying27 rfl size27 ?_)
                      | (refine store_mid_as rfl 27 _ _ rfl (w.heap.size + 1) 7 (#[.slice uA us.length uC, .slice kA ks.length kC, .int .i64 d, .int .i64 a3, .int .i64 a4, .int .i64 a5, .int .i64 a6, .int .i64 a7, .int .i64 a8] : Array Value) rfl rfl (Blk.thereAt S1.out.ob 7 9 (show (7 : Nat) + 9 ≤ 16 by decide)) size27 (by simp [Value.oneCell']) ?_; intro u4 e4; have O4 := Lib.hid (show Blk u4 (w.heap.size + 1) [.string x0, .int .i64 x1, .int .i64 x2, .bool x3, .string x4, .slice A5 x5.length c5, .slice A6 x6.length c6, .slice uA us.length uC, .slice kA ks.length kC, .int .i64 d, .int .i64 a3, .int .i64 a4, .int .i64 a5, .int .i64 a6, .int .i64 a7, .int .i64 a8] 29 by rw [e4]; exact Blk.setEnd (pre := [.string x0, .int .i64 x1, .int .i64 x2, .bool x3, .string x4, .slice A5 x5.length c5, .slice A6 x6.length c6]) (post := [.slice none 0 0, .slice none 0 0, .int .i64 0, .int .i64 0, .int .i64 0, .int .i64 0, .int .i64 0, .int .i64 0, .int .i64 0]) S1.out.ob rfl); have A4 := Lib.hid (show Blk u4 w.heap.size [.string ⟨#[]⟩, .int .i64 0, .int .i64 0, .bool false, .string ⟨#[]⟩, .slice none 0 0, .slice none 0 0, .slice none 0 0, .slice none 0 0, .int .i64 0, .int .i64 0, .int .i64 0, .int .i64 0, .int .i64 0, .int .i64 0, .int .i64 0] 29 by rw [e4]; exact S1.out.ar.otherAll _ _ _ (by omega)); have B4 := Lib.hid (show Below w.heap.size w u4 by rw [e4]; exact below_setAll (Nat.le_succ _) _ _ _ S1.out.bel); have T5 := Lib.hid (show Cd.TsN (w.heap.size + 3) u4 A5 x5.length c5 x5 by rw [e4]; exact ts_set T5.out (by omega) _ _); have T6 := Lib.hid (show Cd.TsN (w.heap.size + 3) u4 A6 x6.length c6 x6 by rw [e4]; exact ts_set T6.out (by omega) _ _); have U1 := Lib.hid (show u4.ownsRow (w.heap.size + 3) 60 2 (.slice uA us.length uC) us.length (flat us.length (rowU (fU us))) by rw [e4]; exact row_kp U1.out (kp_all _ _ _ _) (by omega)); have U2 := Lib.hid (show u4.ownsRow (w.heap.size + 3) 88 2 (.slice kA ks.length kC) ks.length (flat ks.length (rowK (fK ks))) by rw [e4]; exact row_kp U2.out (kp_all _ _ _ _) (by omega)); clear e4 S0)
                      | (refine wpList_load_mid rfl 29 _ rfl (w.heap.size + 1) 0 rfl [.string x0, .int .i64 x1, .int .i64 x2, .bool x3, .string x4, .slice A5 x5.length c5, .slice A6 x6.length c6, .slice uA us.length uC, .slice kA ks.length kC, .int .i64 d, .int .i64 a3, .int .i64 a4, .int .i64 a5, .int .i64 a6, .int .i64 a7, .int .i64 a8] _ O4.out.range Tryz.underlying29 rfl size29 ?_)
                      | (refine store_mid_as rfl 29 _ _ rfl w.heap.size 0 (#[.string x0, .int .i64 x1, .int .i64 x2, .bool x3, .string x4, .slice A5 x5.length c5, .slice A6 x6.length c6, .slice uA us.length uC, .slice kA ks.length kC, .int .i64 d, .int .i64 a3, .int .i64 a4, .int .i64 a5, .int .i64 a6, .int .i64 a7, .int .i64 a8] : Array Value) rfl rfl (Blk.there (n := 16) A4.out (Nat.le_refl 16)) size29 (by simp [Value.oneCell']) ?_; intro wz ez; have EZ := Lib.hid ez; clear ez)
                      | fail)
                    (try simp only [Exit.inBlock, Exit.then])
                    refine bodyPost_ret (results_cell_tmp_blk rfl _ _ w.heap.size [.string x0, .int .i64 x1, .int .i64 x2, .bool x3, .string x4, .slice A5 x5.length c5, .slice A6 x6.length c6, .slice uA us.length uC, .slice kA ks.length kC, .int .i64 d, .int .i64 a3, .int .i64 a4, .int .i64 a5, .int .i64 a6, .int .i64 a7, .int .i64 a8] 29 _ rfl (by rw [EZ.out]; exact Blk.setAll A4.out _ rfl) Tryz.underlying29 rfl size29) rfl ?_
                    rw [EZ.out, HY.out]
                    have hx := HX.out
                    refine ⟨⟨x0, x1, x2, x3, x4, x5, x6, us, ks, d, a3, a4, a5, a6, a7, a8⟩, ⟨A5, c5, A6, c6, uA, uC, kA, kC⟩, rfl, ⟨ts_txs (ts_set T5.out (by omega) _ _).1 hx.2.2.2.2.1, ts_txs (ts_set T6.out (by omega) _ _).1 hx.2.2.2.2.2, rows_isl HLF.out.1 (row_kp U1.out (kp_all _ _ _ _) (by omega)) (row_kp U2.out (kp_all _ _ _ _) (by omega)), by show x0.size ≤ _; have := hx.1; omega, by show x4.size ≤ _; have := hx.2.2.2.1; omega, hx.2.1, hx.2.2.1⟩, below_setAll (Nat.le_refl _) _ _ _ B4.out, .inl rfl⟩
                  · have HNO := Lib.hid (show dcE x0 x1 x2 x3 x4 x5 x6 (dcL z7 false) = none by rw [hq]; exact if_neg hr0)
                    have g0 : 0 < rest.length := by omega
                    clear hr0 hq
                    go_wp2_with (first
                      | (go_at_call 82; go_loud ((with_reducible refine (rlevels82 _ _ z7 _ R7.out.sl hz7l).mono ?_); rintro e y8 ⟨hb, hm⟩; rw [HQ.out] at hm; obtain ⟨uA, uC, kA, kC, As, cs, rfl, hs, hr1, hr2⟩ := hm; have S0 := Lib.hid (R7.out.call hb hs); clear hb hs hr1 hr2; rw [show (lcs (⟨us, ks, d, a3, a4, a5, a6, a7, a8⟩ : Lv) uA uC kA kC).toArray = #[.slice uA us.length uC, .slice kA ks.length kC, .int .i64 d, .int .i64 a3, .int .i64 a4, .int .i64 a5, .int .i64 a6, .int .i64 a7, .int .i64 a8] from rfl]))
                      | (refine store_as rfl 27 _ _ rfl [.slice none 0 0, .slice none 0 0, .int .i64 0, .int .i64 0, .int .i64 0, .int .i64 0, .int .i64 0, .int .i64 0, .int .i64 0] [.slice uA us.length uC, .slice kA ks.length kC, .int .i64 d, .int .i64 a3, .int .i64 a4, .int .i64 a5, .int .i64 a6, .int .i64 a7, .int .i64 a8] rfl rfl rfl size27 (by simp [Value.oneCell']) ?_; intro u3 hx hb; have S1 := Lib.hid (S0.out.keep hb); clear hx hb)
                      | (refine store_mid_as rfl 29 _ _ rfl w.heap.size 0 (#[.string ⟨#[]⟩, .int .i64 0, .int .i64 0, .bool false, .string ⟨#[]⟩, .slice none 0 0, .slice none 0 0, .slice none 0 0, .slice none 0 0, .int .i64 0, .int .i64 0, .int .i64 0, .int .i64 0, .int .i64 0, .int .i64 0, .int .i64 0] : Array Value) rfl rfl (Blk.there (n := 16) S1.out.ar (Nat.le_refl 16)) size29 (by simp [Value.oneCell']) ?_; intro wz ez; have EZ := Lib.hid ez; clear ez)
                      | fail)
                    (try simp only [Exit.inBlock, Exit.then])
                    refine bodyPost_ret (results_cell_tmp_blk rfl _ _ w.heap.size [.string ⟨#[]⟩, .int .i64 0, .int .i64 0, .bool false, .string ⟨#[]⟩, .slice none 0 0, .slice none 0 0, .slice none 0 0, .slice none 0 0, .int .i64 0, .int .i64 0, .int .i64 0, .int .i64 0, .int .i64 0, .int .i64 0, .int .i64 0] 29 _ rfl (by rw [EZ.out]; exact Blk.setAll S1.out.ar _ rfl) Tryz.underlying29 rfl size29) rfl ?_
                    rw [EZ.out]
                    exact dcg_no HNO.out (below_setAll (Nat.le_refl _) _ _ _ S1.out.bel)
end Go.Proofs.YtdacjnlfjaegiaaGreatDoor
