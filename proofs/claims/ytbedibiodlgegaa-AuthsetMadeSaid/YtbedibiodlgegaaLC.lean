/- clone.Levels and the default levels. -/
import Derived.Test.YtbedibiodlgegaaLB
import Derived.Test.YtbedibiodlgegaaG5
namespace Go.Proofs.Ytbedibiodlgegaa
open Go.RowKit
set_option linter.unusedVariables false

theorem lvc_one (uA : Option Addr) (nU uC : Nat) (kA : Option Addr) (nK kC : Nat) (d x3 x4 x5 x6 x7 x8 : Int) : (lvc uA nU uC kA nK kC d x3 x4 x5 x6 x7 x8).toArray.all (·.oneCell') = true := by simp [Value.oneCell']
/-- What a function gives that makes levels. -/
def LvPost2 (w : World) (L : Lvl) (e : Ending) (w' : World) : Prop := ∃ uA uC kA kC, e = .returned (.agg (lvc uA L.nU uC kA L.nK kC L.d L.x3 L.x4 L.x5 L.x6 L.x7 L.x8).toArray) ∧ Rws w' uA L.nU uC 2 (rowU L.U) ∧ Rws w' kA L.nK kC 2 (rowK L.K) ∧ Below w.heap.size w w' ∧ New w L.nU uA ∧ New w L.nK kA
abbrev lzc : List Value := lvc none 0 0 none 0 0 0 0 0 0 0 0 0
set_option maxHeartbeats 2000000 in
theorem clone26 (uA : Option Addr) (nU uC : Nat) (kA : Option Addr) (nK kC : Nat) (U : Nat → ByteArray × Int) (K : Nat → Int × Int) (d x3 x4 x5 x6 x7 x8 : Int) (w : World)
    (hU : Rws w uA nU uC 2 (rowU U)) (hK : Rws w kA nK kC 2 (rowK K)) (bU : nU * 24 ≤ 140737488355328) (bK : nK * 16 ≤ 140737488355328) :
    Calls Try.prog 65 #[.agg (lvc uA nU uC kA nK kC d x3 x4 x5 x6 x7 x8).toArray] w (LvPost2 w ⟨nU, U, nK, K, d, x3, x4, x5, x6, x7, x8⟩) := by
  have B0 := Lib.hid (((Below.refl w.heap.size w).alloc (Nat.le_refl _) (.cells (lvc uA nU uC kA nK kC d x3 x4 x5 x6 x7 x8).toArray 28)).alloc (by simp) (.cells lzc.toArray 28))
  have X0 := Lib.hid ((blk_new w (lvc uA nU uC kA nK kC d x3 x4 x5 x6 x7 x8) 28).alloc (.cells lzc.toArray 28))
  have Y0 := Lib.hid (show Blk ((w.alloc (.cells (lvc uA nU uC kA nK kC d x3 x4 x5 x6 x7 x8).toArray 28)).alloc (.cells lzc.toArray 28)) (w.heap.size + 1) lzc 28 by
    have := blk_new (w.alloc (.cells (lvc uA nU uC kA nK kC d x3 x4 x5 x6 x7 x8).toArray 28)) lzc 28
    have e : (w.alloc (.cells (lvc uA nU uC kA nK kC d x3 x4 x5 x6 x7 x8).toArray 28)).heap.size = w.heap.size + 1 := by simp
    rw [e] at this
    exact this)
  have HU := Lib.hid hU
  have HK := Lib.hid hK
  have HbU := Lib.hid bU
  have HbK := Lib.hid bK
  clear hU hK bU bK
  show Calls Try.prog 65 #[.agg #[.slice uA nU uC, .slice kA nK kC, .int .i64 d, .int .i64 x3, .int .i64 x4, .int .i64 x5, .int .i64 x6, .int .i64 x7, .int .i64 x8]] w _
  go_enter Try.func65, Try.ntmps65
  go_wp2_with (first
    | (go_at_call 87; refine (clone31 uA nU uC (rowU U) _ (HU.out.below B0.out) HbU.out).mono ?_; rintro e w1 ⟨A1, c1, rfl, k1⟩; have K1 := Lib.hid k1; have X1 := Lib.hid (X0.out.below k1.bel); have Y1 := Lib.hid (Y0.out.below k1.bel); have B1 := Lib.hid (B0.out.trans (k1.bel.mono B0.out.size)); have i0 := X1.out.cell (i := 0) rfl; have i1 := X1.out.cell (i := 1) rfl; have z0 := X1.out.free 0; clear k1)
    | (go_at_call 88; refine (clone32 kA nK kC (rowK K) _ (HK.out.below (B1.out.setCell (p := ⟨w.heap.size, 0, none⟩) (Nat.le_refl _) _)) HbK.out).mono ?_; rintro e w2 ⟨A2, c2, rfl, k2⟩; have K2 := Lib.hid k2; have X2 := Lib.hid ((X1.out.set 0 (.slice A1 nU c1)).below k2.bel); have Y2 := Lib.hid ((Y1.out.other ⟨w.heap.size, 0, none⟩ (.slice A1 nU c1) (by simp)).below k2.bel); have B2 := Lib.hid ((B1.out.setCell (p := ⟨w.heap.size, 0, none⟩) (Nat.le_refl _) (.slice A1 nU c1)).trans (k2.bel.mono (by have := B1.out.size; simpa using this))); clear i0 i1 z0; have i1 := X2.out.cell (i := 1) rfl; have z1 := X2.out.free 1; clear k2)
    | (refine wpList_load_mid rfl 28 _ rfl w.heap.size 0 rfl (lvc A1 nU c1 A2 nK c2 d x3 x4 x5 x6 x7 x8) _ (X2.out.set 1 (.slice A2 nK c2)).range Try.underlying28 rfl size28 ?_)
    | (refine wpList_store_mid rfl 28 _ _ rfl (w.heap.size + 1) 0 (lvc A1 nU c1 A2 nK c2 d x3 x4 x5 x6 x7 x8).toArray rfl rfl (Blk.there (n := 9) (Y2.out.other ⟨w.heap.size, 1, none⟩ (.slice A2 nK c2) (by simp)) (by decide)) size28 (lvc_one _ _ _ _ _ _ _ _ _ _ _ _ _) ?_))
  (try simp only [Exit.inBlock, Exit.then])
  refine bodyPost_ret (results_cell_mid rfl _ _ (w.heap.size + 1) (lvc A1 nU c1 A2 nK c2 d x3 x4 x5 x6 x7 x8) 28 _ rfl ((Y2.out.other ⟨w.heap.size, 1, none⟩ (.slice A2 nK c2) (by simp)).setAll _ rfl) Try.underlying28 rfl size28) rfl ?_
  have hs : w.heap.size + 1 + 1 ≤ w1.heap.size := by have := K1.out.bel.size; simpa using this
  have R1 : Rws w1 A1 nU c1 2 (rowU U) := K1.out.rows HU.out
  have R1' : Rws (w1.setCell ⟨w.heap.size, 0, none⟩ (.slice A1 nU c1)) A1 nU c1 2 (rowU U) := R1.other _ _ (K1.out.new.ne (by simp <;> omega))
  have R2 : Rws w2 A1 nU c1 2 (rowU U) := R1'.below K2.out.bel
  have Q2 : Rws w2 A2 nK c2 2 (rowK K) := K2.out.rows HK.out
  refine ⟨A1, c1, A2, c2, rfl, ?_, ?_, below_setAll (by omega) _ _ _ (B2.out.setCell (Nat.le_refl _) _), K1.out.new.mono (by simp <;> omega), K2.out.new.mono (by simp <;> omega)⟩
  · exact (R2.other _ _ (K1.out.new.ne (by simp <;> omega))).otherAll _ _ _ (K1.out.new.ne (by simp <;> omega))
  · exact (Q2.other _ _ (K2.out.new.ne (by simp <;> omega))).otherAll _ _ _ (K2.out.new.ne (by simp <;> omega))

end Go.Proofs.Ytbedibiodlgegaa
