/- Sessions: holderOf, compare, the closures of find and Give. No condition. -/
import Derived.Test.YtbkchcpfnoclhaaGreatH1
import Derived.Test.YtbkchcpfnoclhaaGreatR4
import Derived.Test.YtbkchcpfnoclhaaGreatIU
import Derived.Sort.Grow
import Derived.Handy
import Derived.Deep.LoopGhost
import Derived.Deep.Cut
import Derived.Deep.RegionHeld3
import Derived.BigQuiet
import Derived.Deep.QuietTactic
namespace Go.Proofs.YtbkchcpfnoclhaaGreat
set_option maxRecDepth 100000
open Go Go.RowKit
set_option linter.unusedVariables false
set_option linter.unusedSimpArgs false

/-- Nothing old has turned; draws and blocks behind. -/
structure Gr (w w' : World) : Prop where
  bel : Below w.heap.size w w'
  drawn : w.drawn ≤ w'.drawn
theorem Gr.refl (w : World) : Gr w w := ⟨Below.refl _ _, Nat.le_refl _⟩
theorem Gr.trans {a b c : World} (h : Gr a b) (k : Gr b c) : Gr a c := ⟨h.bel.trans (k.bel.mono h.bel.size), Nat.le_trans h.drawn k.drawn⟩
theorem Gr.grow {w w' : World} (h : Gr w w') : ∃ q os, w' = Sort.grow (w.drewN q) os := by
  refine ⟨w'.drawn - w.drawn, w'.heap.extract w.heap.size w'.heap.size, ?_⟩
  have hs := h.bel.size
  have e : w'.heap = w.heap ++ w'.heap.extract w.heap.size w'.heap.size := by
    apply Array.ext_getElem?
    intro k
    rw [Array.getElem?_append]
    split
    · rename_i hk; exact h.bel.block k hk
    · rename_i hk
      rw [Array.getElem?_extract]
      split
      · rw [show w.heap.size + (k - w.heap.size) = k by omega]
      · rw [Array.getElem?_eq_none]; omega
  obtain ⟨hp, tp, dr, os, out⟩ := w'
  have h1 := h.bel.os; have h2 := h.bel.tape; have h3 := h.bel.output; have h4 := h.drawn
  simp only at h1 h2 h3 h4 e ⊢
  unfold Sort.grow World.drewN
  simp only [World.mk.injEq]
  exact ⟨e, h2, by omega, h1, h3⟩

theorem blk_new2 (w : World) (o : Obj) (cs : List Value) (T : TypeId) : Blk ((w.alloc o).alloc (.cells cs.toArray T)) (w.heap.size + 1) cs T := by
  have := blk_new (w.alloc o) cs T
  rwa [show (w.alloc o).heap.size = w.heap.size + 1 by simp] at this
/-- cmp.Compare of texts. -/
def cmpS (a b : ByteArray) : Int := if Op.bytesLess a.toList b.toList then -1 else if a.toList == b.toList then 0 else 1
theorem nan_any (a : ByteArray) (w : World) : Calls Tryz.prog 47 #[.string a] w fun e w' => e = .returned (.bool false) ∧ w = w' := by
  go_enter Tryz.func47, Tryz.ntmps47
  go_wp2
  all_goals (go_ret; simp)
theorem cmpS_lt {a b : ByteArray} (h : Op.bytesLess a.toList b.toList = true) : cmpS a b = -1 := by unfold cmpS; rw [if_pos h]
theorem cmpS_eq {a b : ByteArray} (h : Op.bytesLess a.toList b.toList = false) (h2 : (a.toList == b.toList) = true) : cmpS a b = 0 := by unfold cmpS; rw [if_neg (by rw [h]; decide), if_pos h2]
theorem cmpS_gt {a b : ByteArray} (h : Op.bytesLess a.toList b.toList = false) (h2 : (a.toList == b.toList) = false) : cmpS a b = 1 := by unfold cmpS; rw [if_neg (by rw [h]; decide), if_neg (by rw [h2]; decide)]
theorem compare_any (a b : ByteArray) (w : World) : Calls Tryz.prog 35 #[.string a, .string b] w fun e w' => e = .returned (.int .i64 (cmpS a b)) ∧ w = w' := by
  have HN := Lib.hid (fun s => nan_any s w)
  cases h1 : Op.bytesLess a.toList b.toList
  · cases h2 : (a.toList == b.toList)
    · rw [cmpS_gt h1 h2]
      go_enter Tryz.func35, Tryz.ntmps35
      go_wp2_with (first | (go_at_call 47; refine (HN.out _).mono ?_; rintro e w' ⟨rfl, rfl⟩) | go_in)
      all_goals (go_ret; first | exact ⟨rfl, rfl⟩ | (exfalso; simp_all))
    · rw [cmpS_eq h1 h2]
      go_enter Tryz.func35, Tryz.ntmps35
      go_wp2_with (first | (go_at_call 47; refine (HN.out _).mono ?_; rintro e w' ⟨rfl, rfl⟩) | go_in)
      all_goals (go_ret; first | exact ⟨rfl, rfl⟩ | (exfalso; simp_all))
  · rw [cmpS_lt h1]
    go_enter Tryz.func35, Tryz.ntmps35
    go_wp2_with (first | (go_at_call 47; refine (HN.out _).mono ?_; rintro e w' ⟨rfl, rfl⟩) | go_in)
    all_goals (go_ret; exact ⟨rfl, rfl⟩)
/-- cmp.Or of two numbers. -/
def orI (x y : Int) : Int := if x = 0 then y else x
theorem or_any (g : Nat) (x y : Int) (w : World) (h0 : w.cell? ⟨g, 0, none⟩ = some (.int .i64 x)) (h1 : w.cell? ⟨g, 1, none⟩ = some (.int .i64 y)) :
    Calls Tryz.prog 34 #[.slice (some ⟨g, 0, none⟩) 2 2] w fun e w' => e = .returned (.int .i64 (orI x y)) ∧ w = w' := by
  go_enter Tryz.func34, Tryz.ntmps34
  go_wp2
  go_loopg [5, 8] 2 (fun gg _ s8 wr => ∃ kk : Nat, kk ≤ 2 ∧ 2 - kk ≤ gg ∧ s8 = .int .i64 kk ∧ (1 ≤ kk → x = 0) ∧ (2 ≤ kk → y = 0) ∧ wr = w)
  case atStart => exact ⟨0, by omega, by omega, rfl, by omega, by omega, rfl⟩
  case round =>
    obtain ⟨kk, hk, hg, rfl, hx, hy, rfl⟩ := hrel
    by_cases k2 : kk = 2
    · subst k2
      have hx := hx (by omega); have hy := hy (by omega)
      subst hx; subst hy
      go_wp2
      go_ret
      exact ⟨rfl, rfl⟩
    · by_cases k1 : kk = 1
      · subst k1
        have hx := hx (by omega); subst hx
        by_cases hy0 : y = 0
        · subst hy0
          go_wp2
          go_roundg 0
          case measure => omega
          case rel => exact ⟨2, by omega, by omega, rfl, fun _ => trivial, fun _ => trivial, rfl⟩
        · have hyb : (y != 0) = true := by simpa using hy0
          go_wp2
          go_ret
          exact ⟨by unfold orI; rw [if_pos rfl]; rfl, rfl⟩
      · obtain rfl : kk = 0 := by omega
        by_cases hx0 : x = 0
        · subst hx0
          go_wp2
          go_roundg 1
          case measure => omega
          case rel => exact ⟨1, by omega, by omega, rfl, fun _ => trivial, fun h => by omega, rfl⟩
        · have hxb : (x != 0) = true := by simpa using hx0
          go_wp2
          go_ret
          exact ⟨by unfold orI; rw [if_neg hx0]; rfl, rfl⟩
/-- owner.compare. -/
def cmpO (p q : Hd.Rc) : Int := orI (cmpS p.us q.us) (cmpS p.dv q.dv)
theorem blk_new3 (w : World) (o o2 : Obj) (cs : List Value) (T : TypeId) : Blk (((w.alloc o).alloc o2).alloc (.cells cs.toArray T)) (w.heap.size + 1 + 1) cs T := by
  have := blk_new2 (w.alloc o) o2 cs T
  rwa [show (w.alloc o).heap.size = w.heap.size + 1 by simp] at this
theorem Gr.drewN {w w1 : World} (h : Gr w w1) (n : Nat) : Gr w (w1.drewN n) := ⟨below_drewN h.bel n, Nat.le_trans h.drawn (Nat.le_add_right _ _)⟩
theorem Gr.drew {w w1 : World} (h : Gr w w1) : Gr w w1.drew := h.drewN 1
set_option maxHeartbeats 1000000 in
theorem compareO (p q : Hd.Rc) (w : World) : Calls Tryz.prog 18 #[.agg #[.string p.us, .string p.dv], .agg #[.string q.us, .string q.dv]] w fun e w' => e = .returned (.int .i64 (cmpO p q)) ∧ Gr w w' := by
  have HC := Lib.hid (fun a b w => compare_any a b w)
  have HO := Lib.hid (fun g x y w h0 h1 => or_any g x y w h0 h1)
  unfold cmpO
  go_enter Tryz.func18, Tryz.ntmps18
  go_upto_region 1 with (fail)
  go_region_held3 (fun w' => w'.cell? ⟨w.heap.size, 0, none⟩ = some (.string p.us) ∧ w'.cell? ⟨w.heap.size, 1, none⟩ = some (.string p.dv) ∧ w'.cell? ⟨w.heap.size + 1, 0, none⟩ = some (.string q.us) ∧ w'.cell? ⟨w.heap.size + 1, 1, none⟩ = some (.string q.dv)) (go_keep)
    (first
      | (go_at_call 35; refine (HC.out _ _ _).mono ?_; rintro e w' ⟨rfl, rfl⟩)
      | (go_at_call 34; refine (HO.out _ (cmpS p.us q.us) (cmpS p.dv q.dv) _ ?_ ?_).mono ?_; (exact (blk_new3 _ _ _ _ _).drew.cell (i := 0) rfl); (exact (blk_new3 _ _ _ _ _).drew.cell (i := 1) rfl); rintro e w' ⟨rfl, rfl⟩))
  all_goals go_wp2
  all_goals go_ret
  all_goals exact ⟨rfl, Gr.drew ⟨by go_grown, Nat.le_refl _⟩⟩


theorem ret_bl {a b : Bool} (h : a = b) : Ending.returned (.bool a) = .returned (.bool b) := by rw [h]
theorem size55 : (Tryz.prog.info? 36).map (·.size) = some 3 := by kernel_rfl
theorem size61 : (Tryz.prog.info? 39).map (·.size) = some 2 := by kernel_rfl
theorem holderOf30 (a d : ByteArray) (x : Int) (w : World) : Calls Tryz.prog 17 #[.agg #[.string a, .string d, .int .i64 x]] w fun e w' => e = .returned (.agg #[.string a, .string d]) ∧ Below w.heap.size w w' := by
  go_enter Tryz.func17, Tryz.ntmps17
  go_wp2
  refine bodyPost_ret (results_cell_mid rfl _ _ (w.heap.size + 1) [.string a, .string d] 39 _ rfl (blk_new2 _ _ _ _) Tryz.underlying39 rfl size61) rfl ?_
  exact ⟨rfl, by go_grown⟩
/-- The share is that of a device. -/
def smH (u d : ByteArray) (p : Rc) : Bool := decide (p.us = u) && decide (p.dv = d)
set_option maxRecDepth 100000 in
set_option maxHeartbeats 4000000 in
theorem find41 (a d hu hd : ByteArray) (x : Int) (c1 : Nat) (u : World) (hc : Blk u c1 [.string hu, .string hd] 39) : Calls Tryz.prog 31 #[.agg #[.string a, .string d, .int .i64 x], .pointer (some ⟨c1, 0, none⟩)] u fun e w' => e = .returned (.bool (decide (a = hu) && decide (d = hd))) ∧ Below u.heap.size u w' := by
  have BA := Lib.hid ((Below.refl u.heap.size u).alloc (Nat.le_refl _) (.cells #[.string a, .string d, .int .i64 x] 36))
  have XA := Lib.hid (blk_new u [.string a, .string d, .int .i64 x] 36)
  have XC := Lib.hid (hc.alloc (.cells #[.string a, .string d, .int .i64 x] 36))
  clear hc
  by_cases e1 : a = hu
  · have z1 : (a.toList == hu.toList) = true := by rw [e1]; exact beq_self_eq_true _
    by_cases e2 : d = hd
    · have z2 : (d.toList == hd.toList) = true := by rw [e2]; exact beq_self_eq_true _
      have HQ := Lib.hid (show true = (decide (a = hu) && decide (d = hd)) by rw [decide_eq_true e1, decide_eq_true e2]; rfl)
      generalize hq : (decide (a = hu) && decide (d = hd)) = q at HQ ⊢
      clear hq e1 e2
      go_enter Tryz.func31, Tryz.ntmps31
      go_upto_region 1 with (fail)
      generalize hwa : World.alloc _ _ = wa at BA XA XC ⊢
      clear hwa
      refine wp_region_held_drew (S := (fun y => Below wa.heap.size wa y)) (by kernel_rfl) ((Below.refl wa.heap.size wa).drew) (fun hH0 => ?_)
      generalize hy0 : World.drew _ = y0 at hH0 ⊢
      have RB0 : Hid (Below wa.heap.size wa y0) := Lib.hid hH0
      clear hy0
      refine wpAnyH_take (i := 0) (oi := ({ dst := some 4, op := Op.load 36 (Operand.tmp 2), type := 36, pos := "sessions.go:44", after := #[], guard := none } : Oper)) (v := .agg #[.string a, .string d, .int .i64 x]) rfl (by kernel_rfl) (by kernel_rfl) (by kernel_rfl) (fun _ _ _ h => h) (yieldsIf_load_mid (by rfl) 36 _ rfl u.heap.size 0 rfl [.string a, .string d, .int .i64 x] _ (fun w0 hw0 => (XA.out.below hw0).range) Tryz.underlying36 rfl size55) (by assumption) ?_
      try simp only [Act.put, List.setIfInBounds_toArray, List.set_cons_zero, List.set_cons_succ]
      refine wpAnyH_take (i := 2) (oi := ({ dst := some 6, op := Op.load 39 (Operand.tmp 1), type := 39, pos := "sessions.go:44", after := #[], guard := none } : Oper)) (v := .agg #[.string hu, .string hd]) rfl (by kernel_rfl) (by kernel_rfl) (by kernel_rfl) (fun _ _ _ h => h) (yieldsIf_load_mid (by rfl) 39 _ rfl c1 0 rfl [.string hu, .string hd] _ (fun w0 hw0 => (XC.out.below hw0).range) Tryz.underlying39 rfl size61) (by assumption) ?_
      try simp only [Act.put, List.setIfInBounds_toArray, List.set_cons_zero, List.set_cons_succ]
      refine wpAnyH_ready (rs := [1]) (by kernel_rfl) (by simp) ?_
      refine AllReadyH.cons (o := ({ dst := some 5, op := Op.call { callee := Callee.value (Operand.func 17), args := #[Operand.tmp 4], argTypes := #[36] }, type := 39, pos := "sessions.go:44", after := #[{ on := 0, ground := Ground.data }], guard := none } : Oper)) rfl (fun KK hKK => ?_) AllReadyH.nil
      go_simp
      (with_reducible refine (holderOf30 a d x _).mono ?_)
      rintro e0 y1 ⟨rfl, hb⟩
      have RB1 := Lib.hid (RB0.out.trans (hb.mono RB0.out.size))
      clear hb
      refine hKK.out _ _ (RB1.out) (fun hH1 => ?_)
      clear hKK KK
      try simp only [Act.put, List.setIfInBounds_toArray, List.set_cons_zero, List.set_cons_succ]
      refine wpAnyH_take (i := 3) (oi := ({ dst := some 7, op := Op.binOp BinOp.eql 39 (Operand.tmp 5) (Operand.tmp 6) 39, type := 4, pos := "sessions.go:44", after := #[{ on := 1, ground := Ground.data }, { on := 2, ground := Ground.data }], guard := none } : Oper)) (v := ?hv1) rfl (by kernel_rfl) (by kernel_rfl) (by kernel_rfl) (fun _ _ _ h => h) (Or.inl ⟨by rfl, ?hy1⟩) (by assumption) ?hr1
      case hy1 => (intro w hSw; (try dsimp only at hSw); go_simp; (try with_reducible rfl))
      try simp only [Act.put, List.setIfInBounds_toArray, List.set_cons_zero, List.set_cons_succ]
      refine wpAnyH_take (i := 4) (oi := ({ dst := some 3, op := Op.assign (Operand.tmp 7), type := 4, pos := "sessions.go:44", after := #[{ on := 3, ground := Ground.data }, { on := 1, ground := Ground.chain }, { on := 0, ground := Ground.phase }, { on := 1, ground := Ground.phase }, { on := 2, ground := Ground.phase }, { on := 3, ground := Ground.phase }], guard := none } : Oper)) (v := ?hv2) rfl (by kernel_rfl) (by kernel_rfl) (by kernel_rfl) (fun _ _ _ h => h) (Or.inl ⟨by rfl, ?hy2⟩) (by assumption) ?hr2
      case hy2 => (intro w hSw; (try dsimp only at hSw); go_simp; (try with_reducible rfl))
      try simp only [Act.put, List.setIfInBounds_toArray, List.set_cons_zero, List.set_cons_succ]
      refine wpAnyH_done (by kernel_rfl) ?_ _
      go_wp2
      go_ret
      exact ⟨ret_bl HQ.out, BA.out.trans (RB1.out.mono BA.out.size)⟩
    · have z2 : (d.toList == hd.toList) = false := beq_eq_false_iff_ne.2 (fun e => e2 (eq_of_toList e))
      have HQ := Lib.hid (show false = (decide (a = hu) && decide (d = hd)) by rw [decide_eq_true e1, decide_eq_false e2]; rfl)
      generalize hq : (decide (a = hu) && decide (d = hd)) = q at HQ ⊢
      clear hq e1 e2
      go_enter Tryz.func31, Tryz.ntmps31
      go_upto_region 1 with (fail)
      generalize hwa : World.alloc _ _ = wa at BA XA XC ⊢
      clear hwa
      refine wp_region_held_drew (S := (fun y => Below wa.heap.size wa y)) (by kernel_rfl) ((Below.refl wa.heap.size wa).drew) (fun hH0 => ?_)
      generalize hy0 : World.drew _ = y0 at hH0 ⊢
      have RB0 : Hid (Below wa.heap.size wa y0) := Lib.hid hH0
      clear hy0
      refine wpAnyH_take (i := 0) (oi := ({ dst := some 4, op := Op.load 36 (Operand.tmp 2), type := 36, pos := "sessions.go:44", after := #[], guard := none } : Oper)) (v := .agg #[.string a, .string d, .int .i64 x]) rfl (by kernel_rfl) (by kernel_rfl) (by kernel_rfl) (fun _ _ _ h => h) (yieldsIf_load_mid (by rfl) 36 _ rfl u.heap.size 0 rfl [.string a, .string d, .int .i64 x] _ (fun w0 hw0 => (XA.out.below hw0).range) Tryz.underlying36 rfl size55) (by assumption) ?_
      try simp only [Act.put, List.setIfInBounds_toArray, List.set_cons_zero, List.set_cons_succ]
      refine wpAnyH_take (i := 2) (oi := ({ dst := some 6, op := Op.load 39 (Operand.tmp 1), type := 39, pos := "sessions.go:44", after := #[], guard := none } : Oper)) (v := .agg #[.string hu, .string hd]) rfl (by kernel_rfl) (by kernel_rfl) (by kernel_rfl) (fun _ _ _ h => h) (yieldsIf_load_mid (by rfl) 39 _ rfl c1 0 rfl [.string hu, .string hd] _ (fun w0 hw0 => (XC.out.below hw0).range) Tryz.underlying39 rfl size61) (by assumption) ?_
      try simp only [Act.put, List.setIfInBounds_toArray, List.set_cons_zero, List.set_cons_succ]
      refine wpAnyH_ready (rs := [1]) (by kernel_rfl) (by simp) ?_
      refine AllReadyH.cons (o := ({ dst := some 5, op := Op.call { callee := Callee.value (Operand.func 17), args := #[Operand.tmp 4], argTypes := #[36] }, type := 39, pos := "sessions.go:44", after := #[{ on := 0, ground := Ground.data }], guard := none } : Oper)) rfl (fun KK hKK => ?_) AllReadyH.nil
      go_simp
      (with_reducible refine (holderOf30 a d x _).mono ?_)
      rintro e0 y1 ⟨rfl, hb⟩
      have RB1 := Lib.hid (RB0.out.trans (hb.mono RB0.out.size))
      clear hb
      refine hKK.out _ _ (RB1.out) (fun hH1 => ?_)
      clear hKK KK
      try simp only [Act.put, List.setIfInBounds_toArray, List.set_cons_zero, List.set_cons_succ]
      refine wpAnyH_take (i := 3) (oi := ({ dst := some 7, op := Op.binOp BinOp.eql 39 (Operand.tmp 5) (Operand.tmp 6) 39, type := 4, pos := "sessions.go:44", after := #[{ on := 1, ground := Ground.data }, { on := 2, ground := Ground.data }], guard := none } : Oper)) (v := ?hv3) rfl (by kernel_rfl) (by kernel_rfl) (by kernel_rfl) (fun _ _ _ h => h) (Or.inl ⟨by rfl, ?hy3⟩) (by assumption) ?hr3
      case hy3 => (intro w hSw; (try dsimp only at hSw); go_simp; (try with_reducible rfl))
      try simp only [Act.put, List.setIfInBounds_toArray, List.set_cons_zero, List.set_cons_succ]
      refine wpAnyH_take (i := 4) (oi := ({ dst := some 3, op := Op.assign (Operand.tmp 7), type := 4, pos := "sessions.go:44", after := #[{ on := 3, ground := Ground.data }, { on := 1, ground := Ground.chain }, { on := 0, ground := Ground.phase }, { on := 1, ground := Ground.phase }, { on := 2, ground := Ground.phase }, { on := 3, ground := Ground.phase }], guard := none } : Oper)) (v := ?hv4) rfl (by kernel_rfl) (by kernel_rfl) (by kernel_rfl) (fun _ _ _ h => h) (Or.inl ⟨by rfl, ?hy4⟩) (by assumption) ?hr4
      case hy4 => (intro w hSw; (try dsimp only at hSw); go_simp; (try with_reducible rfl))
      try simp only [Act.put, List.setIfInBounds_toArray, List.set_cons_zero, List.set_cons_succ]
      refine wpAnyH_done (by kernel_rfl) ?_ _
      go_wp2
      go_ret
      exact ⟨ret_bl HQ.out, BA.out.trans (RB1.out.mono BA.out.size)⟩
  · have z1 : (a.toList == hu.toList) = false := beq_eq_false_iff_ne.2 (fun e => e1 (eq_of_toList e))
    have HQ := Lib.hid (show false = (decide (a = hu) && decide (d = hd)) by rw [decide_eq_false e1]; rfl)
    generalize hq : (decide (a = hu) && decide (d = hd)) = q at HQ ⊢
    clear hq e1
    go_enter Tryz.func31, Tryz.ntmps31
    go_upto_region 1 with (fail)
    generalize hwa : World.alloc _ _ = wa at BA XA XC ⊢
    clear hwa
    refine wp_region_held_drew (S := (fun y => Below wa.heap.size wa y)) (by kernel_rfl) ((Below.refl wa.heap.size wa).drew) (fun hH0 => ?_)
    generalize hy0 : World.drew _ = y0 at hH0 ⊢
    have RB0 : Hid (Below wa.heap.size wa y0) := Lib.hid hH0
    clear hy0
    refine wpAnyH_take (i := 0) (oi := ({ dst := some 4, op := Op.load 36 (Operand.tmp 2), type := 36, pos := "sessions.go:44", after := #[], guard := none } : Oper)) (v := .agg #[.string a, .string d, .int .i64 x]) rfl (by kernel_rfl) (by kernel_rfl) (by kernel_rfl) (fun _ _ _ h => h) (yieldsIf_load_mid (by rfl) 36 _ rfl u.heap.size 0 rfl [.string a, .string d, .int .i64 x] _ (fun w0 hw0 => (XA.out.below hw0).range) Tryz.underlying36 rfl size55) (by assumption) ?_
    try simp only [Act.put, List.setIfInBounds_toArray, List.set_cons_zero, List.set_cons_succ]
    refine wpAnyH_take (i := 2) (oi := ({ dst := some 6, op := Op.load 39 (Operand.tmp 1), type := 39, pos := "sessions.go:44", after := #[], guard := none } : Oper)) (v := .agg #[.string hu, .string hd]) rfl (by kernel_rfl) (by kernel_rfl) (by kernel_rfl) (fun _ _ _ h => h) (yieldsIf_load_mid (by rfl) 39 _ rfl c1 0 rfl [.string hu, .string hd] _ (fun w0 hw0 => (XC.out.below hw0).range) Tryz.underlying39 rfl size61) (by assumption) ?_
    try simp only [Act.put, List.setIfInBounds_toArray, List.set_cons_zero, List.set_cons_succ]
    refine wpAnyH_ready (rs := [1]) (by kernel_rfl) (by simp) ?_
    refine AllReadyH.cons (o := ({ dst := some 5, op := Op.call { callee := Callee.value (Operand.func 17), args := #[Operand.tmp 4], argTypes := #[36] }, type := 39, pos := "sessions.go:44", after := #[{ on := 0, ground := Ground.data }], guard := none } : Oper)) rfl (fun KK hKK => ?_) AllReadyH.nil
    go_simp
    (with_reducible refine (holderOf30 a d x _).mono ?_)
    rintro e0 y1 ⟨rfl, hb⟩
    have RB1 := Lib.hid (RB0.out.trans (hb.mono RB0.out.size))
    clear hb
    refine hKK.out _ _ (RB1.out) (fun hH1 => ?_)
    clear hKK KK
    try simp only [Act.put, List.setIfInBounds_toArray, List.set_cons_zero, List.set_cons_succ]
    refine wpAnyH_take (i := 3) (oi := ({ dst := some 7, op := Op.binOp BinOp.eql 39 (Operand.tmp 5) (Operand.tmp 6) 39, type := 4, pos := "sessions.go:44", after := #[{ on := 1, ground := Ground.data }, { on := 2, ground := Ground.data }], guard := none } : Oper)) (v := ?hv5) rfl (by kernel_rfl) (by kernel_rfl) (by kernel_rfl) (fun _ _ _ h => h) (Or.inl ⟨by rfl, ?hy5⟩) (by assumption) ?hr5
    case hy5 => (intro w hSw; (try dsimp only at hSw); go_simp; (try with_reducible rfl))
    try simp only [Act.put, List.setIfInBounds_toArray, List.set_cons_zero, List.set_cons_succ]
    refine wpAnyH_take (i := 4) (oi := ({ dst := some 3, op := Op.assign (Operand.tmp 7), type := 4, pos := "sessions.go:44", after := #[{ on := 3, ground := Ground.data }, { on := 1, ground := Ground.chain }, { on := 0, ground := Ground.phase }, { on := 1, ground := Ground.phase }, { on := 2, ground := Ground.phase }, { on := 3, ground := Ground.phase }], guard := none } : Oper)) (v := ?hv6) rfl (by kernel_rfl) (by kernel_rfl) (by kernel_rfl) (fun _ _ _ h => h) (Or.inl ⟨by rfl, ?hy6⟩) (by assumption) ?hr6
    case hy6 => (intro w hSw; (try dsimp only at hSw); go_simp; (try with_reducible rfl))
    try simp only [Act.put, List.setIfInBounds_toArray, List.set_cons_zero, List.set_cons_succ]
    refine wpAnyH_done (by kernel_rfl) ?_ _
    go_wp2
    go_ret
    exact ⟨ret_bl HQ.out, BA.out.trans (RB1.out.mono BA.out.size)⟩
set_option maxRecDepth 100000 in
set_option maxHeartbeats 4000000 in
theorem give37 (a d hu hd : ByteArray) (x : Int) (c1 : Nat) (u : World) (hc : Blk u c1 [.string hu, .string hd] 39) : Calls Tryz.prog 16 #[.agg #[.string a, .string d, .int .i64 x], .pointer (some ⟨c1, 0, none⟩)] u fun e w' => e = .returned (.bool (decide (0 < cmpO ⟨a, d⟩ ⟨hu, hd⟩))) ∧ Below u.heap.size u w' := by
  have BA := Lib.hid ((Below.refl u.heap.size u).alloc (Nat.le_refl _) (.cells #[.string a, .string d, .int .i64 x] 36))
  have XA := Lib.hid (blk_new u [.string a, .string d, .int .i64 x] 36)
  have XC := Lib.hid (hc.alloc (.cells #[.string a, .string d, .int .i64 x] 36))
  have HCm := Lib.hid (show ∀ w, Calls Tryz.prog 18 #[.agg #[.string a, .string d], .agg #[.string hu, .string hd]] w fun e w' => e = .returned (.int .i64 (cmpO ⟨a, d⟩ ⟨hu, hd⟩)) ∧ Below w.heap.size w w' from fun w => (compareO ⟨a, d⟩ ⟨hu, hd⟩ w).mono fun e w' ⟨h1, h2⟩ => ⟨h1, h2.bel⟩)
  generalize cmpO ⟨a, d⟩ ⟨hu, hd⟩ = cc at HCm ⊢
  clear hc
  go_enter Tryz.func16, Tryz.ntmps16
  go_upto_region 1 with (fail)
  generalize hwa : World.alloc _ _ = wa at BA XA XC ⊢
  clear hwa
  refine wp_region_held_drew (S := (fun y => Below wa.heap.size wa y)) (by kernel_rfl) ((Below.refl wa.heap.size wa).drew) (fun hH0 => ?_)
  generalize hy0 : World.drew _ = y0 at hH0 ⊢
  have RB0 : Hid (Below wa.heap.size wa y0) := Lib.hid hH0
  clear hy0
  refine wpAnyH_take (i := 0) (oi := ({ dst := some 4, op := Op.load 36 (Operand.tmp 2), type := 36, pos := "sessions.go:60", after := #[], guard := none } : Oper)) (v := .agg #[.string a, .string d, .int .i64 x]) rfl (by kernel_rfl) (by kernel_rfl) (by kernel_rfl) (fun _ _ _ h => h) (yieldsIf_load_mid (by rfl) 36 _ rfl u.heap.size 0 rfl [.string a, .string d, .int .i64 x] _ (fun w0 hw0 => (XA.out.below hw0).range) Tryz.underlying36 rfl size55) (by assumption) ?_
  try simp only [Act.put, List.setIfInBounds_toArray, List.set_cons_zero, List.set_cons_succ]
  refine wpAnyH_take (i := 2) (oi := ({ dst := some 6, op := Op.load 39 (Operand.tmp 1), type := 39, pos := "sessions.go:60", after := #[], guard := none } : Oper)) (v := .agg #[.string hu, .string hd]) rfl (by kernel_rfl) (by kernel_rfl) (by kernel_rfl) (fun _ _ _ h => h) (yieldsIf_load_mid (by rfl) 39 _ rfl c1 0 rfl [.string hu, .string hd] _ (fun w0 hw0 => (XC.out.below hw0).range) Tryz.underlying39 rfl size61) (by assumption) ?_
  try simp only [Act.put, List.setIfInBounds_toArray, List.set_cons_zero, List.set_cons_succ]
  refine wpAnyH_ready (rs := [1]) (by kernel_rfl) (by simp) ?_
  refine AllReadyH.cons (o := ({ dst := some 5, op := Op.call { callee := Callee.value (Operand.func 17), args := #[Operand.tmp 4], argTypes := #[36] }, type := 39, pos := "sessions.go:60", after := #[{ on := 0, ground := Ground.data }], guard := none } : Oper)) rfl (fun KK hKK => ?_) AllReadyH.nil
  go_simp
  (with_reducible refine (holderOf30 a d x _).mono ?_)
  rintro e0 y1 ⟨rfl, hb⟩
  have RB1 := Lib.hid (RB0.out.trans (hb.mono RB0.out.size))
  clear hb
  refine hKK.out _ _ (RB1.out) (fun hH1 => ?_)
  clear hKK KK
  try simp only [Act.put, List.setIfInBounds_toArray, List.set_cons_zero, List.set_cons_succ]
  refine wpAnyH_ready (rs := [3]) (by kernel_rfl) (by simp) ?_
  refine AllReadyH.cons (o := ({ dst := some 7, op := Op.call { callee := Callee.value (Operand.func 18), args := #[Operand.tmp 5, Operand.tmp 6], argTypes := #[39, 39] }, type := 3, pos := "sessions.go:60", after := #[{ on := 1, ground := Ground.data }, { on := 2, ground := Ground.data }, { on := 1, ground := Ground.chain }], guard := none } : Oper)) rfl (fun KK hKK => ?_) AllReadyH.nil
  go_simp
  (with_reducible refine (HCm.out _).mono ?_)
  rintro e0 y2 ⟨rfl, hb⟩
  have RB2 := Lib.hid (RB1.out.trans (hb.mono RB1.out.size))
  clear hb
  refine hKK.out _ _ (RB2.out) (fun hH2 => ?_)
  clear hKK KK
  try simp only [Act.put, List.setIfInBounds_toArray, List.set_cons_zero, List.set_cons_succ]
  refine wpAnyH_take (i := 4) (oi := ({ dst := some 8, op := Op.binOp BinOp.gtr 3 (Operand.tmp 7) (Operand.const (Value.int IntKind.i64 0)) 3, type := 4, pos := "sessions.go:60", after := #[{ on := 3, ground := Ground.data }], guard := none } : Oper)) (v := ?hv7) rfl (by kernel_rfl) (by kernel_rfl) (by kernel_rfl) (fun _ _ _ h => h) (Or.inl ⟨by rfl, ?hy7⟩) (by assumption) ?hr7
  case hy7 => (intro w hSw; (try dsimp only at hSw); go_simp; (try with_reducible rfl))
  try simp only [Act.put, List.setIfInBounds_toArray, List.set_cons_zero, List.set_cons_succ]
  refine wpAnyH_take (i := 5) (oi := ({ dst := some 3, op := Op.assign (Operand.tmp 8), type := 4, pos := "sessions.go:60", after := #[{ on := 4, ground := Ground.data }, { on := 3, ground := Ground.chain }, { on := 0, ground := Ground.phase }, { on := 1, ground := Ground.phase }, { on := 2, ground := Ground.phase }, { on := 3, ground := Ground.phase }, { on := 4, ground := Ground.phase }], guard := none } : Oper)) (v := ?hv8) rfl (by kernel_rfl) (by kernel_rfl) (by kernel_rfl) (fun _ _ _ h => h) (Or.inl ⟨by rfl, ?hy8⟩) (by assumption) ?hr8
  case hy8 => (intro w hSw; (try dsimp only at hSw); go_simp; (try with_reducible rfl))
  try simp only [Act.put, List.setIfInBounds_toArray, List.set_cons_zero, List.set_cons_succ]
  refine wpAnyH_done (by kernel_rfl) ?_ _
  go_wp2
  go_ret
  exact ⟨rfl, BA.out.trans (RB2.out.mono BA.out.size)⟩
end Go.Proofs.YtbkchcpfnoclhaaGreat
