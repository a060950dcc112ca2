/- One-time keys: compare of two devices, the sort's closure. No condition. -/
import Derived.Test.YtkmocchikgmnbaaW1
import Derived.Deep.Cut
import Derived.Deep.RegionHeld3
namespace Go.Proofs.Ytkmocchikgmnbaa
open Go.RowKit
set_option linter.unusedVariables false

/-- owner.compare. -/
def cmpO (p q : Rc) : Int := orI (cmpS p.us q.us) (cmpS p.dv q.dv)
theorem blk_new3 (w : World) (o o2 : Obj) (cs : List Value) (T : TypeId) : Blk (((w.alloc o).alloc o2).alloc (.cells cs.toArray T)) (w.heap.size + 1 + 1) cs T := by
  have := blk_new2 (w.alloc o) o2 cs T
  rwa [show (w.alloc o).heap.size = w.heap.size + 1 by simp] at this
theorem Gr.drewN {w w1 : World} (h : Gr w w1) (n : Nat) : Gr w (w1.drewN n) := ⟨below_drewN h.bel n, Nat.le_trans h.drawn (Nat.le_add_right _ _)⟩
theorem Gr.drew {w w1 : World} (h : Gr w w1) : Gr w w1.drew := h.drewN 1
set_option maxHeartbeats 1000000 in
theorem compareO (p q : Rc) (w : World) : Calls Try.prog 23 #[.agg #[.string p.us, .string p.dv], .agg #[.string q.us, .string q.dv]] w fun e w' => e = .returned (.int .i64 (cmpO p q)) ∧ Gr w w' := by
  have HC := Lib.hid (fun a b w => compare_any a b w)
  have HO := Lib.hid (fun g x y w h0 h1 => or_any g x y w h0 h1)
  unfold cmpO
  go_enter Try.func23, Try.ntmps23
  go_upto_region 1 with (fail)
  go_region_held3 (fun w' => w'.cell? ⟨w.heap.size, 0, none⟩ = some (.string p.us) ∧ w'.cell? ⟨w.heap.size, 1, none⟩ = some (.string p.dv) ∧ w'.cell? ⟨w.heap.size + 1, 0, none⟩ = some (.string q.us) ∧ w'.cell? ⟨w.heap.size + 1, 1, none⟩ = some (.string q.dv)) (go_keep)
    (first
      | (go_at_call 34; refine (HC.out _ _ _).mono ?_; rintro e w' ⟨rfl, rfl⟩)
      | (go_at_call 33; refine (HO.out _ (cmpS p.us q.us) (cmpS p.dv q.dv) _ ?_ ?_).mono ?_; (exact (blk_new3 _ _ _ _ _).drew.cell (i := 0) rfl); (exact (blk_new3 _ _ _ _ _).drew.cell (i := 1) rfl); rintro e w' ⟨rfl, rfl⟩))
  all_goals go_wp2
  all_goals go_ret
  all_goals exact ⟨rfl, Gr.drew ⟨by go_grown, Nat.le_refl _⟩⟩

theorem eight {w : World} {g : Nat} {p q : Rc} (h : Blk w g (enc p) 45) (k : Blk w (g + 1) (enc q) 45) :
    w.cell? ⟨g, 0, none⟩ = some (.string p.us) ∧ w.cell? ⟨g, 1, none⟩ = some (.string p.dv) ∧ w.cell? ⟨g, 2, none⟩ = some (.int .i64 p.nx) ∧ w.cell? ⟨g, 3, none⟩ = some (.int .i64 p.lf) ∧
    w.cell? ⟨g + 1, 0, none⟩ = some (.string q.us) ∧ w.cell? ⟨g + 1, 1, none⟩ = some (.string q.dv) ∧ w.cell? ⟨g + 1, 2, none⟩ = some (.int .i64 q.nx) ∧ w.cell? ⟨g + 1, 3, none⟩ = some (.int .i64 q.lf) :=
  ⟨h.cell rfl, h.cell rfl, h.cell rfl, h.cell rfl, k.cell rfl, k.cell rfl, k.cell rfl, k.cell rfl⟩

set_option maxHeartbeats 1000000 in
/-- The closure by which 'sorted' sorts. -/
theorem closure37 (p q : Rc) (w : World) : Calls Try.prog 37 #[.agg (enc p).toArray, .agg (enc q).toArray] w fun e w' => e = .returned (.int .i64 (cmpO p q)) ∧ Gr w w' := by
  show Calls Try.prog 37 #[.agg #[.string p.us, .string p.dv, .int .i64 p.nx, .int .i64 p.lf], .agg #[.string q.us, .string q.dv, .int .i64 q.nx, .int .i64 q.lf]] w _
  have HC := Lib.hid (fun p w => owner_of p w)
  have HO := Lib.hid (fun p q w => compareO p q w)
  go_enter Try.func37, Try.ntmps37
  go_upto_region 1 with (fail)
  have B0 := Lib.hid (show Gr w ((w.alloc (.cells #[.string p.us, .string p.dv, .int .i64 p.nx, .int .i64 p.lf] 45)).alloc (.cells #[.string q.us, .string q.dv, .int .i64 q.nx, .int .i64 q.lf] 45)) from ⟨by go_grown, Nat.le_refl _⟩)
  have XP : Hid (Blk _ w.heap.size (enc p) 45) := Lib.hid ((blk_new w (enc p) 45).alloc (.cells #[.string q.us, .string q.dv, .int .i64 q.nx, .int .i64 q.lf] 45))
  have XQ : Hid (Blk _ (w.heap.size + 1) (enc q) 45) := Lib.hid (blk_new2 w (.cells #[.string p.us, .string p.dv, .int .i64 p.nx, .int .i64 p.lf] 45) (enc q) 45)
  go_region_held3 (fun w' => w'.cell? ⟨w.heap.size, 0, none⟩ = some (.string p.us) ∧ w'.cell? ⟨w.heap.size, 1, none⟩ = some (.string p.dv) ∧ w'.cell? ⟨w.heap.size, 2, none⟩ = some (.int .i64 p.nx) ∧ w'.cell? ⟨w.heap.size, 3, none⟩ = some (.int .i64 p.lf) ∧ w'.cell? ⟨w.heap.size + 1, 0, none⟩ = some (.string q.us) ∧ w'.cell? ⟨w.heap.size + 1, 1, none⟩ = some (.string q.dv) ∧ w'.cell? ⟨w.heap.size + 1, 2, none⟩ = some (.int .i64 q.nx) ∧ w'.cell? ⟨w.heap.size + 1, 3, none⟩ = some (.int .i64 q.lf)) (first | exact eight X3.out Y3.out | exact eight X2.out Y2.out | exact eight X1.out Y1.out | exact eight XP.out.drew XQ.out.drew | exact eight XP.out XQ.out)
    (first
      | (go_at_call 21; refine (HC.out p _).mono ?_; rintro e w1 ⟨rfl, hg1⟩; have X1 := Lib.hid (XP.out.drew.below hg1.bel); have Y1 := Lib.hid (XQ.out.drew.below hg1.bel); have G1 := Lib.hid (B0.out.drew.trans hg1); clear hg1)
      | (go_at_call 21; refine (HC.out q _).mono ?_; rintro e w2 ⟨rfl, hg2⟩; have X2 := Lib.hid (X1.out.below hg2.bel); have Y2 := Lib.hid (Y1.out.below hg2.bel); have G2 := Lib.hid (G1.out.trans hg2); clear hg2)
      | (go_at_call 23; refine (HO.out p q _).mono ?_; rintro e w3 ⟨rfl, hg3⟩; have X3 := Lib.hid (X2.out.below hg3.bel); have Y3 := Lib.hid (Y2.out.below hg3.bel); have G3 := Lib.hid (G2.out.trans hg3); clear hg3))
  all_goals go_wp2
  all_goals go_ret
  all_goals exact ⟨rfl, G3.out⟩
end Go.Proofs.Ytkmocchikgmnbaa
