/- RatesLeaves: for every bucket and every numbers the statement returns true and changes nothing. Conditions: none beyond the statement's own. -/
import Derived.Test.YtcnbeflfndfndaaRows
import Derived.Test.YtcnbeflfndfndaaLive
import Derived.Test.YtcnbeflfndfndaaM
import Derived.ProofKit
import Derived.OpenShut
import Derived.ShutString
import Derived.ChangeOld
import Derived.Below
import Derived.Lib.SmallJoins
import Derived.Deep.RegionHeld3
namespace Go.Proofs.Ytcnbeflfndfndaa.ratesLeaves
open Go.ChangeShapes Go.WideShapes Go.ChangeAt Go.RowKit Go.Joins
set_option linter.unusedVariables false

theorem own : ownKnob Try.prog.godebug = none := by kernel_rfl
theorem laidOut : laidOutB Try.prog = true := by kernel_rfl
theorem cells23 : Try.prog.cellsOf 23 = 4 := by kernel_rfl


theorem held_drew {w : World} {b : Nat} {x0 x1 x2 x3 : Int} (h : Held4 w b x0 x1 x2 x3) : Held4 w.drew b x0 x1 x2 x3 := ⟨h.c0, h.c1, h.c2, h.c3, h.fz, h.lt⟩
theorem start_leaves (w w1 : World) (L A M E : Int) (hb : Below (w.alloc (.cells #[.int .i64 L, .int .i64 A, .int .i64 M, .int .i64 E] 23)).heap.size (w.alloc (.cells #[.int .i64 L, .int .i64 A, .int .i64 M, .int .i64 E] 23)) w1) : Below w.heap.size w w1 :=
  ((Below.refl _ _).alloc (Nat.le_refl _) _).trans (hb.mono (by simp))

set_option maxHeartbeats 3200000 in
theorem walk_no (L A M E x1 x2 r : Int) (hr : tk L A M E x1 x2 = .tuple #[bk 0 0 0 0, .int .i64 r]) (hne : (r != 0) = true) (w : World) :
    Calls Try.prog 7 #[bk L A M E, .int .i64 x1, .int .i64 x2] w fun e w' => e = .returned (.bool true) ∧ Below w.heap.size w w' := by
  have c1 : ∀ w, Calls Try.prog 15 #[bk L A M E, .int .i64 x1, .int .i64 x2] w fun e w' => e = .returned (.tuple #[bk 0 0 0 0, .int .i64 r]) ∧ Below w.heap.size w w' := fun w => (take_any L A M E x1 x2 w).mono fun e w' ⟨he, hb⟩ => ⟨by rw [he, hr], hb⟩
  have C1 := Lib.hid c1
  clear hr c1
  go_enter Try.func7, Try.ntmps7
  go_wp2_with (first
    | (go_at_call 15; refine (C1.out _).mono ?_; rintro e w1 ⟨rfl, hb1⟩)
    | (go_at_call 14; refine (live_any _).mono ?_; rintro e w2 ⟨rfl, hb2⟩))
  go_ret
  exact ⟨rfl, bstep (start_leaves w w1 L A M E hb1) hb2⟩

set_option maxHeartbeats 3200000 in
theorem walk_yes (L A M E x1 x2 : Int) (b0 : -9223372036854775808 ≤ x1) (b1 : x1 ≤ 9223372036854775807) (h : Ok L A M E ∧ 1 ≤ x2 ∧ 0 ≤ x1 ∧ x1 ≤ 1000000000) (h2 : ¬ cnt L A M E x1 < x2) (w : World) :
    Calls Try.prog 7 #[bk L A M E, .int .i64 x1, .int .i64 x2] w fun e w' => e = .returned (.bool true) ∧ Below w.heap.size w w' := by
  have HBB := Lib.hid (box_start w L A M E)
  have c1 : ∀ w, Calls Try.prog 15 #[bk L A M E, .int .i64 x1, .int .i64 x2] w fun e w' => e = .returned (.tuple #[bk (cnt L A M E x1 - x2) (tat L A M E x1) M E, .int .i64 0]) ∧ Below w.heap.size w w' := fun w => (take_any L A M E x1 x2 w).mono fun e w' ⟨he, hb⟩ => ⟨by rw [he, ← tk_yes h h2], hb⟩
  have C1 := Lib.hid c1
  obtain ⟨ok, hn, ht0, ht1⟩ := h
  have ok2 := tat_ok ok hn ht1 h2
  have hcb := cnt_bd (now := x1) ok
  have hM := ok.m1
  clear c1
  by_cases hA : x1 < A
  · have d1 : decide (x1 < A) = true := by simpa using hA
    generalize cnt L A M E x1 - x2 = a at *
    generalize tat L A M E x1 = b at *
    go_enter Try.func7, Try.ntmps7
    go_wp2_with (first
      | (go_at_call 15; refine (C1.out _).mono ?_; rintro e w1 ⟨rfl, hb1⟩; have HB1 := Lib.hid ((HBB.out.below hb1).alloc (.cells #[.int .i64 a, .int .i64 b, .int .i64 M, .int .i64 E] 23)); have HX1 := Lib.hid (held_new w1 a b M E); obtain ⟨k0, k1, k2, k3, kf, kl⟩ := HB1.out))
    obtain ⟨p0, p1, p2, p3, pf, pl⟩ := HX1.out
    have A1 := Lib.hid (start_leaves w w1 L A M E hb1)
    clear hb1
    clear k0 k1 k2 k3 kf kl p0 p1 p2 p3 pf pl
    have HT0 := Lib.hid HB1.out
    have HT1 := Lib.hid HX1.out
    have HA2 := Lib.hid (A1.out.alloc A1.out.size (.cells #[.int .i64 a, .int .i64 b, .int .i64 M, .int .i64 E] 23))
    have HSz := Lib.hid HA2.out.size
    clear HB1 HX1 A1 HBB C1
    generalize hb0 : w.heap.size = b0 at HT0 ⊢
    generalize hb1 : w1.heap.size = b1 at HT1 ⊢
    generalize hw2 : w1.alloc (.cells #[.int .i64 a, .int .i64 b, .int .i64 M, .int .i64 E] 23) = w2 at *
    have Hb0 := Lib.hid hb0
    clear hb0 hb1 hw2
    refine wp_region_held_drew (S := (fun w' => Held4 w' b0 L A M E ∧ Held4 w' b1 a b M E ∧ Below w2.heap.size w2 w')) (by kernel_rfl) (by first | exact ⟨held_drew HT0.out, held_drew HT1.out, (Below.refl _ _).drew⟩ | exact ⟨hH0.1.below hb3, hH0.2.1.below hb3, hH0.2.2.trans (hb3.mono hH0.2.2.size)⟩ | exact hH0) (fun hH0 => ?_)
    refine wpAnyH_take (i := 0) (oi := ({ dst := some 24, op := Op.load 23 (Operand.tmp 7), type := 23, pos := "law.go:64", after := #[], guard := none } : Oper)) (v := ?hv1) rfl (by kernel_rfl) (by kernel_rfl) (by kernel_rfl) (fun _ _ _ h => h) (Or.inl ⟨by rfl, ?hy1⟩) (by assumption) ?hr1
    case hy1 => (intro w hSw; (try dsimp only at hSw); have k0 := hSw.2.1.c0; have k1 := hSw.2.1.c1; have k2 := hSw.2.1.c2; have k3 := hSw.2.1.c3; clear hSw; go_simp; (try with_reducible rfl))
    try simp only [Act.put, List.setIfInBounds_toArray, List.set_cons_zero, List.set_cons_succ]
    refine wpAnyH_ready (rs := [1]) (by kernel_rfl) (by simp) ?_
    refine AllReadyH.cons (o := ({ dst := some 25, op := Op.call { callee := Callee.value (Operand.func 12), args := #[Operand.tmp 24], argTypes := #[23] }, type := 24, pos := "law.go:64", after := #[{ on := 0, ground := Ground.data }], guard := none } : Oper)) rfl (fun KK hKK => ?_) AllReadyH.nil
    (go_simp; (with_reducible refine (check_ok ok2 _).mono ?_); rintro e0 w3 ⟨rfl, hb3⟩)
    refine hKK.out _ _ (by first | exact ⟨held_drew HT0.out, held_drew HT1.out, (Below.refl _ _).drew⟩ | exact ⟨hH0.1.below hb3, hH0.2.1.below hb3, hH0.2.2.trans (hb3.mono hH0.2.2.size)⟩ | exact hH0) (fun hH1 => ?_)
    clear hKK KK hH0
    try simp only [Act.put, List.setIfInBounds_toArray, List.set_cons_zero, List.set_cons_succ]
    refine wpAnyH_take (i := 2) (oi := ({ dst := some 26, op := Op.binOp BinOp.eql 24 (Operand.tmp 25) (Operand.const (Value.int IntKind.i64 0)) 24, type := 4, pos := "law.go:64", after := #[{ on := 1, ground := Ground.data }], guard := none } : Oper)) (v := ?hv2) rfl (by kernel_rfl) (by kernel_rfl) (by kernel_rfl) (fun _ _ _ h => h) (Or.inl ⟨by rfl, ?hy2⟩) (by assumption) ?hr2
    case hy2 => (intro w hSw; (try dsimp only at hSw); go_simp; (try with_reducible rfl))
    try simp only [Act.put, List.setIfInBounds_toArray, List.set_cons_zero, List.set_cons_succ]
    refine wpAnyH_take (i := 3) (oi := ({ dst := some 27, op := Op.move (Operand.tmp 26), type := 4, pos := "law.go:64", after := #[{ on := 2, ground := Ground.data }, { on := 1, ground := Ground.chain }], guard := none } : Oper)) (v := ?hv3) rfl (by kernel_rfl) (by kernel_rfl) (by kernel_rfl) (fun _ _ _ h => h) (Or.inl ⟨by rfl, ?hy3⟩) (by assumption) ?hr3
    case hy3 => (intro w hSw; (try dsimp only at hSw); go_simp; (try with_reducible rfl))
    try simp only [Act.put, List.setIfInBounds_toArray, List.set_cons_zero, List.set_cons_succ]
    refine wpAnyH_take (i := 4) (oi := ({ dst := some 28, op := Op.move (Operand.tmp 1), type := 3, pos := "law.go:64", after := #[{ on := 3, ground := Ground.guard }], guard := some (3, true) } : Oper)) (v := ?hv4) rfl (by kernel_rfl) (by kernel_rfl) (by kernel_rfl) (fun _ _ _ h => h) (Or.inl ⟨by rfl, ?hy4⟩) (by assumption) ?hr4
    case hy4 => (intro w hSw; (try dsimp only at hSw); go_simp; (try with_reducible rfl))
    try simp only [Act.put, List.setIfInBounds_toArray, List.set_cons_zero, List.set_cons_succ]
    refine wpAnyH_take (i := 5) (oi := ({ dst := some 29, op := Op.fieldAddr 23 (Operand.tmp 3) 1, type := 0, pos := "law.go:64", after := #[{ on := 3, ground := Ground.guard }], guard := some (3, true) } : Oper)) (v := ?hv5) rfl (by kernel_rfl) (by kernel_rfl) (by kernel_rfl) (fun _ _ _ h => h) (Or.inl ⟨by rfl, ?hy5⟩) (by assumption) ?hr5
    case hy5 => (intro w hSw; (try dsimp only at hSw); go_simp; (try with_reducible rfl))
    try simp only [Act.put, List.setIfInBounds_toArray, List.set_cons_zero, List.set_cons_succ]
    refine wpAnyH_take (i := 6) (oi := ({ dst := some 30, op := Op.load 3 (Operand.tmp 29), type := 3, pos := "law.go:64", after := #[{ on := 5, ground := Ground.data }, { on := 3, ground := Ground.guard }], guard := some (3, true) } : Oper)) (v := ?hv6) rfl (by kernel_rfl) (by kernel_rfl) (by kernel_rfl) (fun _ _ _ h => h) (Or.inl ⟨by rfl, ?hy6⟩) (by assumption) ?hr6
    case hy6 => (intro w hSw; (try dsimp only at hSw); have k1 := hSw.1.c1; clear hSw; go_simp; (try with_reducible rfl))
    try simp only [Act.put, List.setIfInBounds_toArray, List.set_cons_zero, List.set_cons_succ]
    refine wpAnyH_take (i := 7) (oi := ({ dst := some 31, op := Op.binOp BinOp.lss 3 (Operand.tmp 28) (Operand.tmp 30) 3, type := 4, pos := "law.go:64", after := #[{ on := 4, ground := Ground.data }, { on := 6, ground := Ground.data }, { on := 3, ground := Ground.guard }], guard := some (3, true) } : Oper)) (v := ?hv7) rfl (by kernel_rfl) (by kernel_rfl) (by kernel_rfl) (fun _ _ _ h => h) (Or.inl ⟨by rfl, ?hy7⟩) (by assumption) ?hr7
    case hy7 => (intro w hSw; (try dsimp only at hSw); go_simp; (try with_reducible rfl))
    try simp only [Act.put, List.setIfInBounds_toArray, List.set_cons_zero, List.set_cons_succ]
    refine wpAnyH_take (i := 8) (oi := ({ dst := some 32, op := Op.move (Operand.tmp 31), type := 4, pos := "law.go:64", after := #[{ on := 7, ground := Ground.data }, { on := 3, ground := Ground.chain }, { on := 3, ground := Ground.guard }], guard := some (3, true) } : Oper)) (v := ?hv8) rfl (by kernel_rfl) (by kernel_rfl) (by kernel_rfl) (fun _ _ _ h => h) (Or.inl ⟨by rfl, ?hy8⟩) (by assumption) ?hr8
    case hy8 => (intro w hSw; (try dsimp only at hSw); go_simp; (try with_reducible rfl))
    try simp only [Act.put, List.setIfInBounds_toArray, List.set_cons_zero, List.set_cons_succ]
    refine wpAnyH_take (i := 9) (oi := ({ dst := some 33, op := Op.load 23 (Operand.tmp 7), type := 23, pos := "law.go:64", after := #[{ on := 8, ground := Ground.guard }], guard := some (8, false) } : Oper)) (v := undef) rfl (by kernel_rfl) (by kernel_rfl) (by kernel_rfl) (fun _ _ _ h => h) (Or.inr ⟨by rfl, rfl⟩) (by assumption) ?_
    try simp only [Act.put, List.setIfInBounds_toArray, List.set_cons_zero, List.set_cons_succ]
    refine wpAnyH_take (i := 10) (oi := ({ dst := some 34, op := Op.move (Operand.tmp 1), type := 3, pos := "law.go:64", after := #[{ on := 8, ground := Ground.guard }], guard := some (8, false) } : Oper)) (v := undef) rfl (by kernel_rfl) (by kernel_rfl) (by kernel_rfl) (fun _ _ _ h => h) (Or.inr ⟨by rfl, rfl⟩) (by assumption) ?_
    try simp only [Act.put, List.setIfInBounds_toArray, List.set_cons_zero, List.set_cons_succ]
    refine wpAnyH_take (i := 12) (oi := ({ dst := some 36, op := Op.load 23 (Operand.tmp 3), type := 23, pos := "law.go:64", after := #[{ on := 8, ground := Ground.guard }], guard := some (8, false) } : Oper)) (v := undef) rfl (by kernel_rfl) (by kernel_rfl) (by kernel_rfl) (fun _ _ _ h => h) (Or.inr ⟨by rfl, rfl⟩) (by assumption) ?_
    try simp only [Act.put, List.setIfInBounds_toArray, List.set_cons_zero, List.set_cons_succ]
    refine wpAnyH_take (i := 13) (oi := ({ dst := some 37, op := Op.move (Operand.tmp 1), type := 3, pos := "law.go:64", after := #[{ on := 8, ground := Ground.guard }], guard := some (8, false) } : Oper)) (v := undef) rfl (by kernel_rfl) (by kernel_rfl) (by kernel_rfl) (fun _ _ _ h => h) (Or.inr ⟨by rfl, rfl⟩) (by assumption) ?_
    try simp only [Act.put, List.setIfInBounds_toArray, List.set_cons_zero, List.set_cons_succ]
    refine wpAnyH_take (i := 15) (oi := ({ dst := some 39, op := Op.move (Operand.tmp 2), type := 3, pos := "law.go:64", after := #[{ on := 8, ground := Ground.guard }], guard := some (8, false) } : Oper)) (v := undef) rfl (by kernel_rfl) (by kernel_rfl) (by kernel_rfl) (fun _ _ _ h => h) (Or.inr ⟨by rfl, rfl⟩) (by assumption) ?_
    try simp only [Act.put, List.setIfInBounds_toArray, List.set_cons_zero, List.set_cons_succ]
    refine wpAnyH_ready (rs := [11]) (by kernel_rfl) (by simp) ?_
    refine AllReadyH.cons (o := ({ dst := some 35, op := Op.call { callee := Callee.value (Operand.func 17), args := #[Operand.tmp 33, Operand.tmp 34], argTypes := #[23, 3] }, type := 3, pos := "law.go:64", after := #[{ on := 9, ground := Ground.data }, { on := 10, ground := Ground.data }, { on := 8, ground := Ground.chain }, { on := 8, ground := Ground.guard }], guard := some (8, false) } : Oper)) rfl (fun KK hKK => ?_) AllReadyH.nil
    go_simp
    refine hKK.out _ _ (by first | exact ⟨held_drew HT0.out, held_drew HT1.out, (Below.refl _ _).drew⟩ | exact ⟨hH1.1.below hb3, hH1.2.1.below hb3, hH1.2.2.trans (hb3.mono hH1.2.2.size)⟩ | exact hH1) (fun hH2 => ?_)
    clear hKK KK hH1
    try simp only [Act.put, List.setIfInBounds_toArray, List.set_cons_zero, List.set_cons_succ]
    refine wpAnyH_ready (rs := [14]) (by kernel_rfl) (by simp) ?_
    refine AllReadyH.cons (o := ({ dst := some 38, op := Op.call { callee := Callee.value (Operand.func 17), args := #[Operand.tmp 36, Operand.tmp 37], argTypes := #[23, 3] }, type := 3, pos := "law.go:64", after := #[{ on := 12, ground := Ground.data }, { on := 13, ground := Ground.data }, { on := 11, ground := Ground.chain }, { on := 8, ground := Ground.guard }], guard := some (8, false) } : Oper)) rfl (fun KK hKK => ?_) AllReadyH.nil
    go_simp
    refine hKK.out _ _ (by first | exact ⟨held_drew HT0.out, held_drew HT1.out, (Below.refl _ _).drew⟩ | exact ⟨hH2.1.below hb3, hH2.2.1.below hb3, hH2.2.2.trans (hb3.mono hH2.2.2.size)⟩ | exact hH2) (fun hH3 => ?_)
    clear hKK KK hH2
    try simp only [Act.put, List.setIfInBounds_toArray, List.set_cons_zero, List.set_cons_succ]
    refine wpAnyH_take (i := 16) (oi := ({ dst := some 40, op := Op.binOp BinOp.sub 3 (Operand.tmp 38) (Operand.tmp 39) 3, type := 3, pos := "law.go:64", after := #[{ on := 14, ground := Ground.data }, { on := 15, ground := Ground.data }, { on := 8, ground := Ground.guard }], guard := some (8, false) } : Oper)) (v := undef) rfl (by kernel_rfl) (by kernel_rfl) (by kernel_rfl) (fun _ _ _ h => h) (Or.inr ⟨by rfl, rfl⟩) (by assumption) ?_
    try simp only [Act.put, List.setIfInBounds_toArray, List.set_cons_zero, List.set_cons_succ]
    refine wpAnyH_take (i := 17) (oi := ({ dst := some 41, op := Op.binOp BinOp.eql 3 (Operand.tmp 35) (Operand.tmp 40) 3, type := 4, pos := "law.go:64", after := #[{ on := 11, ground := Ground.data }, { on := 16, ground := Ground.data }, { on := 8, ground := Ground.guard }], guard := some (8, false) } : Oper)) (v := undef) rfl (by kernel_rfl) (by kernel_rfl) (by kernel_rfl) (fun _ _ _ h => h) (Or.inr ⟨by rfl, rfl⟩) (by assumption) ?_
    try simp only [Act.put, List.setIfInBounds_toArray, List.set_cons_zero, List.set_cons_succ]
    refine wpAnyH_take (i := 18) (oi := ({ dst := some 42, op := Op.pick (Operand.tmp 32) (Operand.const (Value.bool true)) (Operand.tmp 41), type := 4, pos := "law.go:64", after := #[{ on := 8, ground := Ground.data }, { on := 17, ground := Ground.data }, { on := 3, ground := Ground.guard }], guard := some (3, true) } : Oper)) (v := ?hv9) rfl (by kernel_rfl) (by kernel_rfl) (by kernel_rfl) (fun _ _ _ h => h) (Or.inl ⟨by rfl, ?hy9⟩) (by assumption) ?hr9
    case hy9 => (intro w hSw; (try dsimp only at hSw); go_simp; (try with_reducible rfl))
    try simp only [Act.put, List.setIfInBounds_toArray, List.set_cons_zero, List.set_cons_succ]
    refine wpAnyH_take (i := 19) (oi := ({ dst := some 43, op := Op.pick (Operand.tmp 27) (Operand.tmp 42) (Operand.const (Value.bool false)), type := 4, pos := "law.go:64", after := #[{ on := 3, ground := Ground.data }, { on := 18, ground := Ground.data }], guard := none } : Oper)) (v := ?hv10) rfl (by kernel_rfl) (by kernel_rfl) (by kernel_rfl) (fun _ _ _ h => h) (Or.inl ⟨by rfl, ?hy10⟩) (by assumption) ?hr10
    case hy10 => (intro w hSw; (try dsimp only at hSw); go_simp; (try with_reducible rfl))
    try simp only [Act.put, List.setIfInBounds_toArray, List.set_cons_zero, List.set_cons_succ]
    refine wpAnyH_take (i := 20) (oi := ({ dst := some 44, op := Op.move (Operand.tmp 43), type := 4, pos := "law.go:64", after := #[{ on := 19, ground := Ground.data }, { on := 14, ground := Ground.chain }], guard := none } : Oper)) (v := ?hv11) rfl (by kernel_rfl) (by kernel_rfl) (by kernel_rfl) (fun _ _ _ h => h) (Or.inl ⟨by rfl, ?hy11⟩) (by assumption) ?hr11
    case hy11 => (intro w hSw; (try dsimp only at hSw); go_simp; (try with_reducible rfl))
    try simp only [Act.put, List.setIfInBounds_toArray, List.set_cons_zero, List.set_cons_succ]
    refine wpAnyH_ready (rs := [21]) (by kernel_rfl) (by simp) ?_
    refine AllReadyH.cons (o := ({ dst := some 45, op := Op.call { callee := Callee.value (Operand.func 14), args := #[], argTypes := #[] }, type := 4, pos := "law.go:64", after := #[{ on := 20, ground := Ground.chain }, { on := 20, ground := Ground.guard }], guard := some (20, true) } : Oper)) rfl (fun KK hKK => ?_) AllReadyH.nil
    (go_simp; (with_reducible refine (live_any _).mono ?_); rintro e0 w3 ⟨rfl, hb3⟩)
    refine hKK.out _ _ (by first | exact ⟨held_drew HT0.out, held_drew HT1.out, (Below.refl _ _).drew⟩ | exact ⟨hH3.1.below hb3, hH3.2.1.below hb3, hH3.2.2.trans (hb3.mono hH3.2.2.size)⟩ | exact hH3) (fun hH4 => ?_)
    clear hKK KK hH3
    try simp only [Act.put, List.setIfInBounds_toArray, List.set_cons_zero, List.set_cons_succ]
    refine wpAnyH_take (i := 22) (oi := ({ dst := some 46, op := Op.pick (Operand.tmp 44) (Operand.tmp 45) (Operand.const (Value.bool false)), type := 4, pos := "law.go:64", after := #[{ on := 20, ground := Ground.data }, { on := 21, ground := Ground.data }], guard := none } : Oper)) (v := ?hv12) rfl (by kernel_rfl) (by kernel_rfl) (by kernel_rfl) (fun _ _ _ h => h) (Or.inl ⟨by rfl, ?hy12⟩) (by assumption) ?hr12
    case hy12 => (intro w hSw; (try dsimp only at hSw); go_simp; (try with_reducible rfl))
    try simp only [Act.put, List.setIfInBounds_toArray, List.set_cons_zero, List.set_cons_succ]
    refine wpAnyH_take (i := 23) (oi := ({ dst := some 6, op := Op.assign (Operand.tmp 46), type := 4, pos := "law.go:64", after := #[{ on := 22, ground := Ground.data }, { on := 21, ground := Ground.chain }, { on := 0, ground := Ground.phase }, { on := 1, ground := Ground.phase }, { on := 2, ground := Ground.phase }, { on := 3, ground := Ground.phase }, { on := 4, ground := Ground.phase }, { on := 5, ground := Ground.phase }, { on := 6, ground := Ground.phase }, { on := 7, ground := Ground.phase }, { on := 8, ground := Ground.phase }, { on := 9, ground := Ground.phase }, { on := 10, ground := Ground.phase }, { on := 11, ground := Ground.phase }, { on := 12, ground := Ground.phase }, { on := 13, ground := Ground.phase }, { on := 14, ground := Ground.phase }, { on := 15, ground := Ground.phase }, { on := 16, ground := Ground.phase }, { on := 17, ground := Ground.phase }, { on := 18, ground := Ground.phase }, { on := 19, ground := Ground.phase }, { on := 20, ground := Ground.phase }, { on := 21, ground := Ground.phase }, { on := 22, ground := Ground.phase }], guard := none } : Oper)) (v := ?hv13) rfl (by kernel_rfl) (by kernel_rfl) (by kernel_rfl) (fun _ _ _ h => h) (Or.inl ⟨by rfl, ?hy13⟩) (by assumption) ?hr13
    case hy13 => (intro w hSw; (try dsimp only at hSw); go_simp; (try with_reducible rfl))
    try simp only [Act.put, List.setIfInBounds_toArray, List.set_cons_zero, List.set_cons_succ]
    refine wpAnyH_done (by kernel_rfl) ?_ _
    have hBl := hH4.2.2
    clear hH4
    go_wp2
    go_ret
    exact ⟨rfl, by rw [← Hb0.out] at *; exact HA2.out.trans (hBl.mono HSz.out)⟩
  · have d1 : decide (x1 < A) = false := by simpa using hA
    have hl := lef_after ok hn ht1 h2 (show A ≤ x1 by omega)
    have hl2 := lef_yes (now := x1) ok
    have cl1 : ∀ w, Calls Try.prog 17 #[bk (cnt L A M E x1 - x2) (tat L A M E x1) M E, .int .i64 x1] w fun e w' => e = .returned (.int .i64 (cnt L A M E x1 - x2)) ∧ Below w.heap.size w w' := fun w => (left_any _ _ _ _ x1 b0 b1 w).mono fun e w' ⟨he, hb⟩ => ⟨by rw [he, hl], hb⟩
    have cl2 : ∀ w, Calls Try.prog 17 #[bk L A M E, .int .i64 x1] w fun e w' => e = .returned (.int .i64 (cnt L A M E x1)) ∧ Below w.heap.size w w' := fun w => (left_any _ _ _ _ x1 b0 b1 w).mono fun e w' ⟨he, hb⟩ => ⟨by rw [he, ← hl2], hb⟩
    have CL1 := Lib.hid cl1
    have CL2 := Lib.hid cl2
    have wd := IntWalk.i64_in (cnt L A M E x1 - x2) (by omega)
    have hq : (cnt L A M E x1 - x2 == cnt L A M E x1 - x2) = true := beq_self_eq_true _
    clear hl hl2 cl1 cl2 h2
    generalize tat L A M E x1 = b at *
    generalize cnt L A M E x1 = a at *
    go_enter Try.func7, Try.ntmps7
    go_wp2_with (first
      | (go_at_call 15; refine (C1.out _).mono ?_; rintro e w1 ⟨rfl, hb1⟩; have HB1 := Lib.hid ((HBB.out.below hb1).alloc (.cells #[.int .i64 (a - x2), .int .i64 b, .int .i64 M, .int .i64 E] 23)); have HX1 := Lib.hid (held_new w1 (a - x2) b M E); obtain ⟨k0, k1, k2, k3, kf, kl⟩ := HB1.out))
    obtain ⟨p0, p1, p2, p3, pf, pl⟩ := HX1.out
    have A1 := Lib.hid (start_leaves w w1 L A M E hb1)
    clear hb1
    go_region_held3 (fun w' => w'.cell? ⟨w.heap.size, 0, none⟩ = some (.int .i64 L) ∧ w'.cell? ⟨w.heap.size, 1, none⟩ = some (.int .i64 A) ∧ w'.cell? ⟨w.heap.size, 2, none⟩ = some (.int .i64 M) ∧ w'.cell? ⟨w.heap.size, 3, none⟩ = some (.int .i64 E) ∧ w'.cell? ⟨w1.heap.size, 0, none⟩ = some (.int .i64 (a - x2)) ∧ w'.cell? ⟨w1.heap.size, 1, none⟩ = some (.int .i64 b) ∧ w'.cell? ⟨w1.heap.size, 2, none⟩ = some (.int .i64 M) ∧ w'.cell? ⟨w1.heap.size, 3, none⟩ = some (.int .i64 E)) (go_keep)
      (first
        | (go_at_call 12; refine (check_ok ok2 _).mono ?_; rintro e w3 ⟨rfl, hb3⟩; have hb4 : Below (w1.alloc (.cells #[.int .i64 (a - x2), .int .i64 b, .int .i64 M, .int .i64 E] 23)).heap.size (w1.alloc (.cells #[.int .i64 (a - x2), .int .i64 b, .int .i64 M, .int .i64 E] 23)) w3 := ⟨hb3.os, hb3.tape, hb3.output, hb3.size, hb3.block⟩; have HB3 := Lib.hid (HB1.out.below hb4); have HX3 := Lib.hid (HX1.out.below hb4); have A3 := Lib.hid (bstep A1.out hb4); clear k0 k1 k2 k3 kf kl p0 p1 p2 p3 pf pl; obtain ⟨k0, k1, k2, k3, kf, kl⟩ := HB3.out; obtain ⟨p0, p1, p2, p3, pf, pl⟩ := HX3.out)
        | (go_at_call 17; ((with_reducible refine (CL1.out _).mono ?_); rintro e w4 ⟨rfl, hb4⟩; have HB4 := Lib.hid (HB3.out.below hb4); have HX4 := Lib.hid (HX3.out.below hb4); have A4 := Lib.hid (bgo A3.out hb4); clear k0 k1 k2 k3 kf kl p0 p1 p2 p3 pf pl; obtain ⟨k0, k1, k2, k3, kf, kl⟩ := HB4.out; obtain ⟨p0, p1, p2, p3, pf, pl⟩ := HX4.out))
        | (go_at_call 17; ((with_reducible refine (CL2.out _).mono ?_); rintro e w5 ⟨rfl, hb5⟩; have HB5 := Lib.hid (HB4.out.below hb5); have HX5 := Lib.hid (HX4.out.below hb5); have A5 := Lib.hid (bgo A4.out hb5); clear k0 k1 k2 k3 kf kl p0 p1 p2 p3 pf pl; obtain ⟨k0, k1, k2, k3, kf, kl⟩ := HB5.out; obtain ⟨p0, p1, p2, p3, pf, pl⟩ := HX5.out))
        | (go_at_call 14; refine (live_any _).mono ?_; rintro e w6 ⟨rfl, hb6⟩; have HB6 := Lib.hid (HB5.out.below hb6); have HX6 := Lib.hid (HX5.out.below hb6); have A6 := Lib.hid (bgo A5.out hb6); clear k0 k1 k2 k3 kf kl p0 p1 p2 p3 pf pl; obtain ⟨k0, k1, k2, k3, kf, kl⟩ := HB6.out; obtain ⟨p0, p1, p2, p3, pf, pl⟩ := HX6.out))
    all_goals go_wp2
    all_goals go_ret
    all_goals exact ⟨rfl, A6.out⟩

theorem walk (L A M E x1 x2 : Int) (bx1 : -9223372036854775808 ≤ x1 ∧ x1 ≤ 9223372036854775807) (bx2 : -9223372036854775808 ≤ x2 ∧ x2 ≤ 9223372036854775807) (w : World) :
    Calls Try.prog 7 #[bk L A M E, .int .i64 x1, .int .i64 x2] w fun e w' => e = .returned (.bool true) ∧ Below w.heap.size w w' := by
  by_cases h : Ok L A M E ∧ 1 ≤ x2 ∧ 0 ≤ x1 ∧ x1 ≤ 1000000000
  · by_cases h2 : cnt L A M E x1 < x2
    · exact walk_no L A M E x1 x2 25 (Ending.returned.inj (tk_few h h2)).symm rfl w
    · exact walk_yes L A M E x1 x2 bx1.1 bx1.2 h h2 w
  · exact walk_no L A M E x1 x2 2 (Ending.returned.inj (tk_bad h)).symm rfl w


set_option maxRecDepth 100000 in
theorem lifted (os : Os) (started : os.Started) (H : Type) (enc : TypeId × Value → H) :
    ReturnsInHanded {} Try.checked os 7 .any (Rows.ratesLeavesSpec.pre6 enc Try.prog Try.f7 Rows.ratesLeavesRow.domain false) (Rows.ratesLeavesSpec.post enc Try.prog Try.f7 false true false false) := by
  refine returnsInHanded_of_change (C := Try.checked) own started (by kernel_rfl) Try.func7
    (ChangeSpec.witness6 (enc := enc) (C := Try.checked) false ⟨#[], #[.agg #[.int .i64 0, .int .i64 0, .int .i64 0, .int .i64 0], .int .i64 0, .int .i64 0], []⟩ 8 (by kernel_rfl) (by kernel_rfl) (by kernel_rfl) (by kernel_rfl)) ?_
  intro W base args ds gs before hval0 hW hcnd _
  have hval : ∀ (j : Nat) t v, Try.f7.params[j]? = some t → args[j]? = some v → Value.okWide Try.prog W .any base t v := hval0
  have hW' := hW
  obtain ⟨p, q, hA0, hV, rfl, hfz, hnd⟩ := hW
  have hA : DataW.TrodAll enc Try.prog W 0 (fun _ => true) true Try.f7.params.toList args.toList ds p := hA0
  rw [Try.params7] at hA hval
  obtain ⟨v0, vs0, d0, ds0, p0, q0, hargs, rfl, rfl, h0, r0⟩ := trodAll_cons hA
  obtain ⟨v1, vs1, d1, ds1, p1, q1, rfl, rfl, rfl, h1, r1⟩ := trodAll_cons r0
  obtain ⟨v2, vs2, d2, ds2, p2, q2, rfl, rfl, rfl, h2, r2⟩ := trodAll_cons r1
  obtain ⟨rfl, rfl, rfl⟩ := trodAll_nil r2
  obtain rfl : args = #[v0, v1, v2] := by cases args; simp_all
  obtain ⟨rfl, rfl⟩ := trodVars_none hV
  have k0 := h0
  have lt0 : ∀ x ∈ p0, x.block < W.heap.size := by obtain ⟨m, hm⟩ := k0; exact DataW.trod_lt m _ _ _ hm
  obtain ⟨c0, c1, c2, c3, y0, y1, y2, y3, m, rfl, hd0, hp0, hy0, hy1, hy2, hy3⟩ := open_agg4 Try.underlying23 (by kernel_rfl) cells23 (hval 0 23 v0 rfl rfl) h0
  obtain ⟨L, e0, _, _⟩ := DataW.trod_int Try.underlying3 hy0
  obtain ⟨A, e1, _, _⟩ := DataW.trod_int Try.underlying3 hy1
  obtain ⟨M, e2, _, _⟩ := DataW.trod_int Try.underlying3 hy2
  obtain ⟨E, e3, _, _⟩ := DataW.trod_int Try.underlying3 hy3
  simp only [List.cons.injEq, and_true] at e0 e1 e2 e3
  subst e0 e1 e2 e3
  obtain ⟨x1, rfl, rfl, rfl, w1⟩ := open_int Try.underlying3 (hval 1 3 v1 rfl rfl) h1
  obtain ⟨x2, rfl, rfl, rfl, w2⟩ := open_int Try.underlying3 (hval 2 3 v2 rfl rfl) h2
  clear hA0 hval0
  refine (walk L A M E x1 x2 (bounds_i64 w1) (bounds_i64 w2) W).mono fun e W' ⟨he, bel⟩ => ?_
  subst he
  exact ⟨_, rfl, _, _, _, [], _, [], hW', trodAll_mk1 (shut_bool Try.underlying4 _), (trodAll_cons_mk (Below.trod laidOut (by kernel_rfl) (of_decide_eq_true (by kernel_rfl)) k0 bel lt0) (trodAll_cons_mk (shut_int Try.underlying3 w1) (trodAll_cons_mk (shut_int Try.underlying3 w2) trodAll_mk0))), rfl, bel.frame _, fun h => by cases h⟩

theorem over : Rows.ratesLeavesRow.holds Try.pinned (OpenSpec.ofChange Rows.ratesLeavesSpec) :=
  OpenClaim.holds_of_wide 7 Try.f7 rfl rfl rfl rfl rfl rfl rfl ⟨rfl, rfl, rfl, rfl, rfl⟩ rfl rfl rfl rfl rfl (by kernel_rfl) Try.func7 (by kernel_rfl)
    (of_decide_eq_true (by kernel_rfl)) (by unfold Func.isWrapper; first | (rw [if_pos (by decide +kernel)]; kernel_rfl) | (rw [if_neg (by decide +kernel)]; exact ⟨rfl, rfl⟩))
    (fun os started H enc _ => lifted os started H enc)

theorem proved : Rows.RatesLeavesSaid := over
#print axioms proved
end Go.Proofs.Ytcnbeflfndfndaa.ratesLeaves
