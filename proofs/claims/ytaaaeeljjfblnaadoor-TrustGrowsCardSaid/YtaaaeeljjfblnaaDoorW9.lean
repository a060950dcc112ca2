/- The walk of TrustOf. Condition: the listed table. -/
import Derived.Test.YtaaaeeljjfblnaaDoorW7
import Derived.Deep.RegionHeld3
import Derived.Deep.Cut
namespace Go.Proofs.YtaaaeeljjfblnaaDoor
open Go.RowKit
set_option linter.unusedVariables false
set_option linter.unusedSimpArgs false
set_option maxRecDepth 100000

theorem Sm.size {c : Cs} (h : Sm c) : c.t.us.size + 1 + c.dev.size ≤ 1000000 := by have h1 := h.ut; have h2 := h.ud; omega
theorem RawC.of {w u : World} {c : Cs} (h : RawC w c) (hs : Sm c) (hT : An w) (hb : Below w.heap.size w u) : Calls Tryd.prog 9 #[.agg (cellsC c).toArray] u fun e w' => e = .returned (.int .i64 (trC c)) ∧ Below u.heap.size u w' :=
  of9 c u (hT.below hb) (h.t.below hb) ((h.ints (by have := hs.vn; omega)).below hb) (h.b.below hb) hs.size
set_option maxHeartbeats 16000000 in
theorem trustof3 (c : Cs) (w : World) (h : RawC w c) (hT : An w) : Calls Tryd.prog 3 #[.agg (cellsC c).toArray] w fun e w' => e = .returned (.bool true) ∧ Below w.heap.size w w' := by
  have B0 := Lib.hid ((Below.refl w.heap.size w).alloc (Nat.le_refl _) (.cells (cellsC c).toArray 28))
  have X0 := Lib.hid (blk_new w (cellsC c) 28)
  have C7 := Lib.hid (small7 c _ (h.below B0.out))
  have HR := Lib.hid h
  have HT := Lib.hid hT
  have LV := Lib.hid (fun u (hu : Below w.heap.size w u) => lives_any u (hT.below hu))
  clear h hT
  show Calls Tryd.prog 3 #[.agg #[.string c.o.us, .int .i64 c.o.ms, .int .i64 c.o.ps, .slice c.o.A c.o.n c.o.c, .string c.t.us, .int .i64 c.t.ms, .int .i64 c.t.ps, .slice c.t.A c.t.n c.t.c, .string c.dev, .slice c.vA c.vn c.vc, .slice c.bA c.bn c.bc, .bool c.s]] w _
  go_enter Tryd.func3, Tryd.ntmps3
  go_upto_region 3 with (first
    | (refine wpList_load_mid rfl 28 _ rfl w.heap.size 0 rfl (cellsC c) _ X0.out.range Tryd.underlying28 rfl size28 ?_)
    | (go_at_call 7; (with_reducible refine C7.out.mono ?_); rintro e w1 ⟨⟨q, rfl, hq⟩, hb1⟩; have HQ := Lib.hid hq; have B1 := Lib.hid (B0.out.trans (hb1.mono B0.out.size)); have X1 := Lib.hid (X0.out.below hb1); clear hq hb1; cases q)
    | (go_at_call 8; (with_reducible refine (LV.out _ B1.out).mono ?_); rintro e w2 ⟨rfl, hb2⟩; have B2 := Lib.hid (B1.out.trans (hb2.mono B1.out.size)); clear hb2))
  all_goals first
    | (go_ret; exact ⟨rfl, B2.out⟩)
    | skip
  have hS := HQ.out (by trivial)
  have C9 := Lib.hid (fun u (hu : Below w1.heap.size w1 u) => HR.out.of hS HT.out (B1.out.trans (hu.mono B1.out.size)))
  have C10 := Lib.hid (fun u (hu : Below w1.heap.size w1 u) => show Calls Tryd.prog 10 _ u fun e w' => e = .returned (.int .i64 (trC c)) ∧ Below u.heap.size u w' from rof10 c.o c.t c.dev c.vA c.bA c.vn c.vc c.bn c.bc c.ver c.blk u (HR.out.t.below (B1.out.trans (hu.mono B1.out.size))) ((HR.out.ints (by have := hS.vn; omega)).below (B1.out.trans (hu.mono B1.out.size))) (HR.out.b.below (B1.out.trans (hu.mono B1.out.size))) hS.size)
  clear HQ hS HR C7 X0
  generalize trC c = r at *
  have e0 : (r == r) = true := beq_self_eq_true r
  refine wp_region_held_drew (S := (fun w0 => Below w1.heap.size w1 w0)) (by kernel_rfl) ((Below.refl _ _).drew) (fun hH0 => ?_)
  generalize w1.drew = y0 at hH0 ⊢
  have RB0 : Hid (Below w1.heap.size w1 y0) := Lib.hid hH0
  refine wpAnyH_take (i := 0) (oi := ({ dst := some 7, op := Op.load 28 (Operand.tmp 1), type := 28, pos := "law.go:64", after := #[], guard := none } : Oper)) (v := .agg (cellsC c).toArray) rfl (by kernel_rfl) (by kernel_rfl) (by kernel_rfl) (fun _ _ _ h => h) (yieldsIf_load_mid (by rfl) 28 _ rfl w.heap.size 0 rfl (cellsC c) _ (fun w0 hw0 => (X1.out.below hw0).range) Tryd.underlying28 rfl size28) (by assumption) ?_
  try simp only [Act.put, List.setIfInBounds_toArray, List.set_cons_zero, List.set_cons_succ]
  refine wpAnyH_take (i := 2) (oi := ({ dst := some 9, op := Op.fieldAddr 28 (Operand.tmp 1) 0, type := 0, pos := "law.go:64", after := #[], guard := none } : Oper)) (v := ?hv1) rfl (by kernel_rfl) (by kernel_rfl) (by kernel_rfl) (fun _ _ _ h => h) (Or.inl ⟨by rfl, ?hy1⟩) (by assumption) ?hr1
  case hy1 => (intro w hSw; (try dsimp only at hSw); go_simp; (try with_reducible rfl))
  try simp only [Act.put, List.setIfInBounds_toArray, List.set_cons_zero, List.set_cons_succ]
  refine wpAnyH_take (i := 3) (oi := ({ dst := some 10, op := Op.load 24 (Operand.tmp 9), type := 24, pos := "law.go:64", after := #[{ on := 2, ground := Ground.data }], guard := none } : Oper)) (v := .agg (cellsK c.o).toArray) rfl (by kernel_rfl) (by kernel_rfl) (by kernel_rfl) (fun _ _ _ h => h) (yieldsIf_load_mid (by rfl) 24 _ rfl w.heap.size 0 rfl (cellsK c.o) _ (fun w0 hw0 => (X1.out.below hw0).mid 0 4) Tryd.underlying24 rfl size24) (by assumption) ?_
  try simp only [Act.put, List.setIfInBounds_toArray, List.set_cons_zero, List.set_cons_succ]
  refine wpAnyH_take (i := 4) (oi := ({ dst := some 11, op := Op.fieldAddr 28 (Operand.tmp 1) 1, type := 0, pos := "law.go:64", after := #[], guard := none } : Oper)) (v := ?hv2) rfl (by kernel_rfl) (by kernel_rfl) (by kernel_rfl) (fun _ _ _ h => h) (Or.inl ⟨by rfl, ?hy2⟩) (by assumption) ?hr2
  case hy2 => (intro w hSw; (try dsimp only at hSw); go_simp; (try with_reducible rfl))
  try simp only [Act.put, List.setIfInBounds_toArray, List.set_cons_zero, List.set_cons_succ]
  refine wpAnyH_take (i := 5) (oi := ({ dst := some 12, op := Op.load 24 (Operand.tmp 11), type := 24, pos := "law.go:64", after := #[{ on := 4, ground := Ground.data }], guard := none } : Oper)) (v := .agg (cellsK c.t).toArray) rfl (by kernel_rfl) (by kernel_rfl) (by kernel_rfl) (fun _ _ _ h => h) (yieldsIf_load_mid (by rfl) 24 _ rfl w.heap.size 4 rfl (cellsK c.t) _ (fun w0 hw0 => (X1.out.below hw0).mid 4 4) Tryd.underlying24 rfl size24) (by assumption) ?_
  try simp only [Act.put, List.setIfInBounds_toArray, List.set_cons_zero, List.set_cons_succ]
  refine wpAnyH_take (i := 6) (oi := ({ dst := some 13, op := Op.fieldAddr 28 (Operand.tmp 1) 2, type := 0, pos := "law.go:64", after := #[], guard := none } : Oper)) (v := ?hv3) rfl (by kernel_rfl) (by kernel_rfl) (by kernel_rfl) (fun _ _ _ h => h) (Or.inl ⟨by rfl, ?hy3⟩) (by assumption) ?hr3
  case hy3 => (intro w hSw; (try dsimp only at hSw); go_simp; (try with_reducible rfl))
  try simp only [Act.put, List.setIfInBounds_toArray, List.set_cons_zero, List.set_cons_succ]
  refine wpAnyH_take (i := 7) (oi := ({ dst := some 14, op := Op.load 9 (Operand.tmp 13), type := 9, pos := "law.go:64", after := #[{ on := 6, ground := Ground.data }], guard := none } : Oper)) (v := .string c.dev) rfl (by kernel_rfl) (by kernel_rfl) (by kernel_rfl) (fun _ _ _ h => h) (Or.inl ⟨by rfl, fun w0 hw0 => by have q0 := (X1.out.below hw0).cell (i := 8) rfl; go_simp⟩) (by assumption) ?_
  try simp only [Act.put, List.setIfInBounds_toArray, List.set_cons_zero, List.set_cons_succ]
  refine wpAnyH_take (i := 8) (oi := ({ dst := some 15, op := Op.fieldAddr 28 (Operand.tmp 1) 3, type := 0, pos := "law.go:64", after := #[], guard := none } : Oper)) (v := ?hv4) rfl (by kernel_rfl) (by kernel_rfl) (by kernel_rfl) (fun _ _ _ h => h) (Or.inl ⟨by rfl, ?hy4⟩) (by assumption) ?hr4
  case hy4 => (intro w hSw; (try dsimp only at hSw); go_simp; (try with_reducible rfl))
  try simp only [Act.put, List.setIfInBounds_toArray, List.set_cons_zero, List.set_cons_succ]
  refine wpAnyH_take (i := 9) (oi := ({ dst := some 16, op := Op.load 25 (Operand.tmp 15), type := 25, pos := "law.go:64", after := #[{ on := 8, ground := Ground.data }], guard := none } : Oper)) (v := .slice c.vA c.vn c.vc) rfl (by kernel_rfl) (by kernel_rfl) (by kernel_rfl) (fun _ _ _ h => h) (Or.inl ⟨by rfl, fun w0 hw0 => by have q0 := (X1.out.below hw0).cell (i := 9) rfl; go_simp⟩) (by assumption) ?_
  try simp only [Act.put, List.setIfInBounds_toArray, List.set_cons_zero, List.set_cons_succ]
  refine wpAnyH_take (i := 10) (oi := ({ dst := some 17, op := Op.fieldAddr 28 (Operand.tmp 1) 4, type := 0, pos := "law.go:64", after := #[], guard := none } : Oper)) (v := ?hv5) rfl (by kernel_rfl) (by kernel_rfl) (by kernel_rfl) (fun _ _ _ h => h) (Or.inl ⟨by rfl, ?hy5⟩) (by assumption) ?hr5
  case hy5 => (intro w hSw; (try dsimp only at hSw); go_simp; (try with_reducible rfl))
  try simp only [Act.put, List.setIfInBounds_toArray, List.set_cons_zero, List.set_cons_succ]
  refine wpAnyH_take (i := 11) (oi := ({ dst := some 18, op := Op.load 26 (Operand.tmp 17), type := 26, pos := "law.go:64", after := #[{ on := 10, ground := Ground.data }], guard := none } : Oper)) (v := .slice c.bA c.bn c.bc) rfl (by kernel_rfl) (by kernel_rfl) (by kernel_rfl) (fun _ _ _ h => h) (Or.inl ⟨by rfl, fun w0 hw0 => by have q0 := (X1.out.below hw0).cell (i := 10) rfl; go_simp⟩) (by assumption) ?_
  try simp only [Act.put, List.setIfInBounds_toArray, List.set_cons_zero, List.set_cons_succ]
  refine wpAnyH_ready (rs := [1]) (by kernel_rfl) (by simp) ?_
  refine AllReadyH.cons (o := ({ dst := some 8, op := Op.call { callee := Callee.value (Operand.func 9), args := #[Operand.tmp 7], argTypes := #[28] }, type := 31, pos := "law.go:64", after := #[{ on := 0, ground := Ground.data }], guard := none } : Oper)) rfl (fun KK hKK => ?_) AllReadyH.nil
  go_simp
  (with_reducible refine (C9.out _ RB0.out).mono ?_)
  rintro e0 y1 ⟨rfl, hb⟩
  have RB1 := Lib.hid (RB0.out.trans (hb.mono RB0.out.size))
  clear hb
  refine hKK.out _ _ (RB1.out) (fun hH1 => ?_)
  clear hKK KK
  try simp only [Act.put, List.setIfInBounds_toArray, List.set_cons_zero, List.set_cons_succ]
  refine wpAnyH_ready (rs := [12]) (by kernel_rfl) (by simp) ?_
  refine AllReadyH.cons (o := ({ dst := some 19, op := Op.call { callee := Callee.value (Operand.func 10), args := #[Operand.tmp 10, Operand.tmp 12, Operand.tmp 14, Operand.tmp 16, Operand.tmp 18], argTypes := #[24, 24, 9, 25, 26] }, type := 31, pos := "law.go:64", after := #[{ on := 3, ground := Ground.data }, { on := 5, ground := Ground.data }, { on := 7, ground := Ground.data }, { on := 9, ground := Ground.data }, { on := 11, ground := Ground.data }, { on := 1, ground := Ground.chain }], guard := none } : Oper)) rfl (fun KK hKK => ?_) AllReadyH.nil
  go_simp
  (with_reducible refine (C10.out _ RB1.out).mono ?_)
  rintro e0 y2 ⟨rfl, hb⟩
  have RB2 := Lib.hid (RB1.out.trans (hb.mono RB1.out.size))
  clear hb
  refine hKK.out _ _ (RB2.out) (fun hH2 => ?_)
  clear hKK KK
  try simp only [Act.put, List.setIfInBounds_toArray, List.set_cons_zero, List.set_cons_succ]
  refine wpAnyH_take (i := 13) (oi := ({ dst := some 20, op := Op.binOp BinOp.eql 31 (Operand.tmp 8) (Operand.tmp 19) 31, type := 4, pos := "law.go:64", after := #[{ on := 1, ground := Ground.data }, { on := 12, ground := Ground.data }], guard := none } : Oper)) (v := ?hv6) rfl (by kernel_rfl) (by kernel_rfl) (by kernel_rfl) (fun _ _ _ h => h) (Or.inl ⟨by rfl, ?hy6⟩) (by assumption) ?hr6
  case hy6 => (intro w hSw; (try dsimp only at hSw); go_simp; (try with_reducible rfl))
  try simp only [Act.put, List.setIfInBounds_toArray, List.set_cons_zero, List.set_cons_succ]
  refine wpAnyH_take (i := 14) (oi := ({ dst := some 21, op := Op.move (Operand.tmp 20), type := 4, pos := "law.go:64", after := #[{ on := 13, ground := Ground.data }, { on := 12, ground := Ground.chain }], guard := none } : Oper)) (v := ?hv7) rfl (by kernel_rfl) (by kernel_rfl) (by kernel_rfl) (fun _ _ _ h => h) (Or.inl ⟨by rfl, ?hy7⟩) (by assumption) ?hr7
  case hy7 => (intro w hSw; (try dsimp only at hSw); go_simp; (try with_reducible rfl))
  try simp only [Act.put, List.setIfInBounds_toArray, List.set_cons_zero, List.set_cons_succ]
  refine wpAnyH_ready (rs := [15]) (by kernel_rfl) (by simp) ?_
  refine AllReadyH.cons (o := ({ dst := some 22, op := Op.call { callee := Callee.value (Operand.func 8), args := #[], argTypes := #[] }, type := 4, pos := "law.go:64", after := #[{ on := 14, ground := Ground.chain }, { on := 14, ground := Ground.guard }], guard := some (14, true) } : Oper)) rfl (fun KK hKK => ?_) AllReadyH.nil
  go_simp
  (with_reducible refine (LV.out _ (B1.out.trans (RB2.out.mono B1.out.size))).mono ?_)
  rintro e0 y3 ⟨rfl, hb⟩
  have RB3 := Lib.hid (RB2.out.trans (hb.mono RB2.out.size))
  clear hb
  refine hKK.out _ _ (RB3.out) (fun hH3 => ?_)
  clear hKK KK
  try simp only [Act.put, List.setIfInBounds_toArray, List.set_cons_zero, List.set_cons_succ]
  refine wpAnyH_take (i := 16) (oi := ({ dst := some 23, op := Op.pick (Operand.tmp 21) (Operand.tmp 22) (Operand.const (Value.bool false)), type := 4, pos := "law.go:64", after := #[{ on := 14, ground := Ground.data }, { on := 15, ground := Ground.data }], guard := none } : Oper)) (v := ?hv8) rfl (by kernel_rfl) (by kernel_rfl) (by kernel_rfl) (fun _ _ _ h => h) (Or.inl ⟨by rfl, ?hy8⟩) (by assumption) ?hr8
  case hy8 => (intro w hSw; (try dsimp only at hSw); go_simp; (try with_reducible rfl))
  try simp only [Act.put, List.setIfInBounds_toArray, List.set_cons_zero, List.set_cons_succ]
  refine wpAnyH_take (i := 17) (oi := ({ dst := some 2, op := Op.assign (Operand.tmp 23), type := 4, pos := "law.go:64", after := #[{ on := 16, ground := Ground.data }, { on := 15, ground := Ground.chain }, { on := 0, ground := Ground.phase }, { on := 1, ground := Ground.phase }, { on := 2, ground := Ground.phase }, { on := 3, ground := Ground.phase }, { on := 4, ground := Ground.phase }, { on := 5, ground := Ground.phase }, { on := 6, ground := Ground.phase }, { on := 7, ground := Ground.phase }, { on := 8, ground := Ground.phase }, { on := 9, ground := Ground.phase }, { on := 10, ground := Ground.phase }, { on := 11, ground := Ground.phase }, { on := 12, ground := Ground.phase }, { on := 13, ground := Ground.phase }, { on := 14, ground := Ground.phase }, { on := 15, ground := Ground.phase }, { on := 16, ground := Ground.phase }], guard := none } : Oper)) (v := ?hv9) rfl (by kernel_rfl) (by kernel_rfl) (by kernel_rfl) (fun _ _ _ h => h) (Or.inl ⟨by rfl, ?hy9⟩) (by assumption) ?hr9
  case hy9 => (intro w hSw; (try dsimp only at hSw); go_simp; (try with_reducible rfl))
  try simp only [Act.put, List.setIfInBounds_toArray, List.set_cons_zero, List.set_cons_succ]
  refine wpAnyH_done (by kernel_rfl) ?_ _
  go_wp2
  go_ret
  exact ⟨rfl, B1.out.trans (RB3.out.mono B1.out.size)⟩
end Go.Proofs.YtaaaeeljjfblnaaDoor
