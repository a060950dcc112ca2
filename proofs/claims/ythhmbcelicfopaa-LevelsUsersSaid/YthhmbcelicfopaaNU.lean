/- The walk of LevelsUsers. -/
import Derived.Test.YthhmbcelicfopaaN13
namespace Go.Proofs.Ythhmbcelicfopaa
open Go.RowKit
set_option linter.unusedVariables false
set_option maxHeartbeats 8000000 in
theorem users_walk (uA : Option Addr) (n uC : Nat) (kA : Option Addr) (nK kC : Nat) (d x3 x4 x5 x6 x7 x8 : Int) (U : Nat → ByteArray × Int) (K : Nat → Int × Int) (user : ByteArray) (k : Int) (w : World) (hU : Rws w uA n uC 2 (rowU U)) (hK : Rws w kA nK kC 2 (rowK K)) :
    Calls Try.prog 3 #[.agg (lvc uA n uC kA nK kC d x3 x4 x5 x6 x7 x8).toArray, .string user, .int .i64 k] w fun e' w' => e' = .returned (.bool true) ∧ Below w.heap.size w w' := by
  have HX := Lib.hid (blk_new w (lvc uA n uC kA nK kC d x3 x4 x5 x6 x7 x8) 25)
  have HW := Lib.hid (Below.alloc (Below.refl w.heap.size w) (Nat.le_refl _) (.cells (lvc uA n uC kA nK kC d x3 x4 x5 x6 x7 x8).toArray 25))
  have HU := Lib.hid (hU.below HW.out)
  have HK := Lib.hid (hK.below HW.out)
  obtain ⟨r, hr⟩ := user_ex U user n d
  obtain ⟨q, hq⟩ := need_ex K k nK x3 x4
  have Hr := Lib.hid hr
  have Hq := Lib.hid hq
  have HG := Lib.hid (fun w => great9 uA n uC kA nK kC d x3 x4 x5 x6 x7 x8 w)
  clear hU hK hr hq
  show Calls Try.prog 3 #[.agg #[.slice uA n uC, .slice kA nK kC, .int .i64 d, .int .i64 x3, .int .i64 x4, .int .i64 x5, .int .i64 x6, .int .i64 x7, .int .i64 x8], .string user, .int .i64 k] w _
  cases gg : isGreat n nK with
  | false =>
    rw [gg] at HG
    go_enter Try.func3, Try.ntmps3
    go_upto_region 3 with (go_at_call 9; refine (HG.out _).mono ?_; rintro e0 w2 ⟨rfl, hb0⟩; have HB0 := Lib.hid hb0; clear hb0)
    have HT1 := Lib.hid (HX.out.below HB0.out)
    have HU2 := Lib.hid (HU.out.below HB0.out)
    have HK2 := Lib.hid (HK.out.below HB0.out)
    have HW2 := Lib.hid (HW.out.trans (HB0.out.mono HW.out.size))
    have HSz := Lib.hid HW2.out.size
    clear HX HU HK HB0
    generalize hb0 : w.heap.size = b1 at HT1 ⊢
    clear hb0
    refine wp_region_held_drew (S := (fun w' => Blk w' b1 (lvc uA n uC kA nK kC d x3 x4 x5 x6 x7 x8) 25 ∧ Below w2.heap.size w2 w')) (by kernel_rfl) (by first | exact ⟨HT1.out.drew, (Below.refl _ _).drew⟩ | exact ⟨hH0.1.below hb3, hH0.2.trans (hb3.mono hH0.2.size)⟩ | exact hH0) (fun hH0 => ?_)
    refine wpAnyH_take (i := 0) (oi := ({ dst := some 10, op := Op.load 25 (Operand.tmp 3), type := 25, pos := "law.go:26", after := #[], guard := none } : Oper)) (v := ?hv1) rfl (by kernel_rfl) (by kernel_rfl) (by kernel_rfl) (fun _ _ _ h => h) (Or.inl ⟨by rfl, ?hy1⟩) (by assumption) ?hr1
    case hy1 => (intro w hSw; (try dsimp only at hSw); have k0 := hSw.1.cell (i := 0) rfl; have k1 := hSw.1.cell (i := 1) rfl; have k2 := hSw.1.cell (i := 2) rfl; have k3 := hSw.1.cell (i := 3) rfl; have k4 := hSw.1.cell (i := 4) rfl; have k5 := hSw.1.cell (i := 5) rfl; have k6 := hSw.1.cell (i := 6) rfl; have k7 := hSw.1.cell (i := 7) rfl; have k8 := hSw.1.cell (i := 8) rfl; clear hSw; go_simp; (try with_reducible rfl))
    try simp only [Act.put, List.setIfInBounds_toArray, List.set_cons_zero, List.set_cons_succ]
    refine wpAnyH_take (i := 1) (oi := ({ dst := some 11, op := Op.move (Operand.tmp 1), type := 9, pos := "law.go:26", after := #[], guard := none } : Oper)) (v := ?hv2) rfl (by kernel_rfl) (by kernel_rfl) (by kernel_rfl) (fun _ _ _ h => h) (Or.inl ⟨by rfl, ?hy2⟩) (by assumption) ?hr2
    case hy2 => (intro w hSw; (try dsimp only at hSw); go_simp; (try with_reducible rfl))
    try simp only [Act.put, List.setIfInBounds_toArray, List.set_cons_zero, List.set_cons_succ]
    refine wpAnyH_take (i := 3) (oi := ({ dst := some 13, op := Op.load 25 (Operand.tmp 3), type := 25, pos := "law.go:26", after := #[], guard := none } : Oper)) (v := ?hv3) rfl (by kernel_rfl) (by kernel_rfl) (by kernel_rfl) (fun _ _ _ h => h) (Or.inl ⟨by rfl, ?hy3⟩) (by assumption) ?hr3
    case hy3 => (intro w hSw; (try dsimp only at hSw); have k0 := hSw.1.cell (i := 0) rfl; have k1 := hSw.1.cell (i := 1) rfl; have k2 := hSw.1.cell (i := 2) rfl; have k3 := hSw.1.cell (i := 3) rfl; have k4 := hSw.1.cell (i := 4) rfl; have k5 := hSw.1.cell (i := 5) rfl; have k6 := hSw.1.cell (i := 6) rfl; have k7 := hSw.1.cell (i := 7) rfl; have k8 := hSw.1.cell (i := 8) rfl; clear hSw; go_simp; (try with_reducible rfl))
    try simp only [Act.put, List.setIfInBounds_toArray, List.set_cons_zero, List.set_cons_succ]
    refine wpAnyH_take (i := 4) (oi := ({ dst := some 14, op := Op.move (Operand.tmp 1), type := 9, pos := "law.go:26", after := #[], guard := none } : Oper)) (v := ?hv4) rfl (by kernel_rfl) (by kernel_rfl) (by kernel_rfl) (fun _ _ _ h => h) (Or.inl ⟨by rfl, ?hy4⟩) (by assumption) ?hr4
    case hy4 => (intro w hSw; (try dsimp only at hSw); go_simp; (try with_reducible rfl))
    try simp only [Act.put, List.setIfInBounds_toArray, List.set_cons_zero, List.set_cons_succ]
    refine wpAnyH_ready (rs := [2]) (by kernel_rfl) (by simp) ?_
    refine AllReadyH.cons (o := ({ dst := some 12, op := Op.call { callee := Callee.value (Operand.func 11), args := #[Operand.tmp 10, Operand.tmp 11], argTypes := #[25, 9] }, type := 3, pos := "law.go:26", after := #[{ on := 0, ground := Ground.data }, { on := 1, ground := Ground.data }], guard := none } : Oper)) rfl (fun KK hKK => ?_) AllReadyH.nil
    (go_simp; (with_reducible refine (user21_is uA n uC kA nK kC d x3 x4 x5 x6 x7 x8 U user r _ (HU2.out.below hH0.2) Hr.out).mono ?_); rintro e0 w3 ⟨rfl, hb3⟩)
    refine hKK.out _ _ (by first | exact ⟨HT1.out.drew, (Below.refl _ _).drew⟩ | exact ⟨hH0.1.below hb3, hH0.2.trans (hb3.mono hH0.2.size)⟩ | exact hH0) (fun hH1 => ?_)
    clear hKK KK hH0
    try simp only [Act.put, List.setIfInBounds_toArray, List.set_cons_zero, List.set_cons_succ]
    refine wpAnyH_ready (rs := [5]) (by kernel_rfl) (by simp) ?_
    refine AllReadyH.cons (o := ({ dst := some 15, op := Op.call { callee := Callee.value (Operand.func 12), args := #[Operand.tmp 13, Operand.tmp 14], argTypes := #[25, 9] }, type := 3, pos := "law.go:26", after := #[{ on := 3, ground := Ground.data }, { on := 4, ground := Ground.data }, { on := 2, ground := Ground.chain }], guard := none } : Oper)) rfl (fun KK hKK => ?_) AllReadyH.nil
    (go_simp; (with_reducible refine (user24_is uA n uC kA nK kC d x3 x4 x5 x6 x7 x8 U user r _ (HU2.out.below hH1.2) Hr.out).mono ?_); rintro e0 w3 ⟨rfl, hb3⟩)
    refine hKK.out _ _ (by first | exact ⟨HT1.out.drew, (Below.refl _ _).drew⟩ | exact ⟨hH1.1.below hb3, hH1.2.trans (hb3.mono hH1.2.size)⟩ | exact hH1) (fun hH2 => ?_)
    clear hKK KK hH1
    try simp only [Act.put, List.setIfInBounds_toArray, List.set_cons_zero, List.set_cons_succ]
    refine wpAnyH_take (i := 6) (oi := ({ dst := some 16, op := Op.binOp BinOp.eql 3 (Operand.tmp 12) (Operand.tmp 15) 3, type := 4, pos := "law.go:26", after := #[{ on := 2, ground := Ground.data }, { on := 5, ground := Ground.data }], guard := none } : Oper)) (v := ?hv5) rfl (by kernel_rfl) (by kernel_rfl) (by kernel_rfl) (fun _ _ _ h => h) (Or.inl ⟨by rfl, ?hy5⟩) (by assumption) ?hr5
    case hy5 => (intro w hSw; (try dsimp only at hSw); go_simp; (try with_reducible rfl))
    try simp only [Act.put, List.setIfInBounds_toArray, List.set_cons_zero, List.set_cons_succ]
    refine wpAnyH_take (i := 7) (oi := ({ dst := some 17, op := Op.move (Operand.tmp 16), type := 4, pos := "law.go:26", after := #[{ on := 6, ground := Ground.data }, { on := 5, ground := Ground.chain }], guard := none } : Oper)) (v := ?hv6) rfl (by kernel_rfl) (by kernel_rfl) (by kernel_rfl) (fun _ _ _ h => h) (Or.inl ⟨by rfl, ?hy6⟩) (by assumption) ?hr6
    case hy6 => (intro w hSw; (try dsimp only at hSw); go_simp; (try with_reducible rfl))
    try simp only [Act.put, List.setIfInBounds_toArray, List.set_cons_zero, List.set_cons_succ]
    refine wpAnyH_take (i := 8) (oi := ({ dst := some 18, op := Op.load 25 (Operand.tmp 3), type := 25, pos := "law.go:26", after := #[{ on := 7, ground := Ground.guard }], guard := some (7, true) } : Oper)) (v := ?hv7) rfl (by kernel_rfl) (by kernel_rfl) (by kernel_rfl) (fun _ _ _ h => h) (Or.inl ⟨by rfl, ?hy7⟩) (by assumption) ?hr7
    case hy7 => (intro w hSw; (try dsimp only at hSw); have k0 := hSw.1.cell (i := 0) rfl; have k1 := hSw.1.cell (i := 1) rfl; have k2 := hSw.1.cell (i := 2) rfl; have k3 := hSw.1.cell (i := 3) rfl; have k4 := hSw.1.cell (i := 4) rfl; have k5 := hSw.1.cell (i := 5) rfl; have k6 := hSw.1.cell (i := 6) rfl; have k7 := hSw.1.cell (i := 7) rfl; have k8 := hSw.1.cell (i := 8) rfl; clear hSw; go_simp; (try with_reducible rfl))
    try simp only [Act.put, List.setIfInBounds_toArray, List.set_cons_zero, List.set_cons_succ]
    refine wpAnyH_take (i := 9) (oi := ({ dst := some 19, op := Op.move (Operand.tmp 2), type := 26, pos := "law.go:26", after := #[{ on := 7, ground := Ground.guard }], guard := some (7, true) } : Oper)) (v := ?hv8) rfl (by kernel_rfl) (by kernel_rfl) (by kernel_rfl) (fun _ _ _ h => h) (Or.inl ⟨by rfl, ?hy8⟩) (by assumption) ?hr8
    case hy8 => (intro w hSw; (try dsimp only at hSw); go_simp; (try with_reducible rfl))
    try simp only [Act.put, List.setIfInBounds_toArray, List.set_cons_zero, List.set_cons_succ]
    refine wpAnyH_take (i := 11) (oi := ({ dst := some 21, op := Op.load 25 (Operand.tmp 3), type := 25, pos := "law.go:26", after := #[{ on := 7, ground := Ground.guard }], guard := some (7, true) } : Oper)) (v := ?hv9) rfl (by kernel_rfl) (by kernel_rfl) (by kernel_rfl) (fun _ _ _ h => h) (Or.inl ⟨by rfl, ?hy9⟩) (by assumption) ?hr9
    case hy9 => (intro w hSw; (try dsimp only at hSw); have k0 := hSw.1.cell (i := 0) rfl; have k1 := hSw.1.cell (i := 1) rfl; have k2 := hSw.1.cell (i := 2) rfl; have k3 := hSw.1.cell (i := 3) rfl; have k4 := hSw.1.cell (i := 4) rfl; have k5 := hSw.1.cell (i := 5) rfl; have k6 := hSw.1.cell (i := 6) rfl; have k7 := hSw.1.cell (i := 7) rfl; have k8 := hSw.1.cell (i := 8) rfl; clear hSw; go_simp; (try with_reducible rfl))
    try simp only [Act.put, List.setIfInBounds_toArray, List.set_cons_zero, List.set_cons_succ]
    refine wpAnyH_take (i := 12) (oi := ({ dst := some 22, op := Op.move (Operand.tmp 2), type := 26, pos := "law.go:26", after := #[{ on := 7, ground := Ground.guard }], guard := some (7, true) } : Oper)) (v := ?hv10) rfl (by kernel_rfl) (by kernel_rfl) (by kernel_rfl) (fun _ _ _ h => h) (Or.inl ⟨by rfl, ?hy10⟩) (by assumption) ?hr10
    case hy10 => (intro w hSw; (try dsimp only at hSw); go_simp; (try with_reducible rfl))
    try simp only [Act.put, List.setIfInBounds_toArray, List.set_cons_zero, List.set_cons_succ]
    refine wpAnyH_ready (rs := [10]) (by kernel_rfl) (by simp) ?_
    refine AllReadyH.cons (o := ({ dst := some 20, op := Op.call { callee := Callee.value (Operand.func 13), args := #[Operand.tmp 18, Operand.tmp 19], argTypes := #[25, 26] }, type := 3, pos := "law.go:26", after := #[{ on := 8, ground := Ground.data }, { on := 9, ground := Ground.data }, { on := 7, ground := Ground.chain }, { on := 7, ground := Ground.guard }], guard := some (7, true) } : Oper)) rfl (fun KK hKK => ?_) AllReadyH.nil
    (go_simp; (with_reducible refine (needs13 uA n uC kA nK kC K d x3 x4 x5 x6 x7 x8 k q _ (HK2.out.below hH2.2) Hq.out).mono ?_); rintro e0 w3 ⟨rfl, hb3⟩)
    refine hKK.out _ _ (by first | exact ⟨HT1.out.drew, (Below.refl _ _).drew⟩ | exact ⟨hH2.1.below hb3, hH2.2.trans (hb3.mono hH2.2.size)⟩ | exact hH2) (fun hH3 => ?_)
    clear hKK KK hH2
    try simp only [Act.put, List.setIfInBounds_toArray, List.set_cons_zero, List.set_cons_succ]
    refine wpAnyH_ready (rs := [13]) (by kernel_rfl) (by simp) ?_
    refine AllReadyH.cons (o := ({ dst := some 23, op := Op.call { callee := Callee.value (Operand.func 14), args := #[Operand.tmp 21, Operand.tmp 22], argTypes := #[25, 26] }, type := 3, pos := "law.go:26", after := #[{ on := 11, ground := Ground.data }, { on := 12, ground := Ground.data }, { on := 10, ground := Ground.chain }, { on := 7, ground := Ground.guard }], guard := some (7, true) } : Oper)) rfl (fun KK hKK => ?_) AllReadyH.nil
    (go_simp; (with_reducible refine (needs14 uA n uC kA nK kC K d x3 x4 x5 x6 x7 x8 k q _ (HK2.out.below hH3.2) Hq.out).mono ?_); rintro e0 w3 ⟨rfl, hb3⟩)
    refine hKK.out _ _ (by first | exact ⟨HT1.out.drew, (Below.refl _ _).drew⟩ | exact ⟨hH3.1.below hb3, hH3.2.trans (hb3.mono hH3.2.size)⟩ | exact hH3) (fun hH4 => ?_)
    clear hKK KK hH3
    try simp only [Act.put, List.setIfInBounds_toArray, List.set_cons_zero, List.set_cons_succ]
    refine wpAnyH_take (i := 14) (oi := ({ dst := some 24, op := Op.binOp BinOp.eql 3 (Operand.tmp 20) (Operand.tmp 23) 3, type := 4, pos := "law.go:26", after := #[{ on := 10, ground := Ground.data }, { on := 13, ground := Ground.data }, { on := 7, ground := Ground.guard }], guard := some (7, true) } : Oper)) (v := ?hv11) rfl (by kernel_rfl) (by kernel_rfl) (by kernel_rfl) (fun _ _ _ h => h) (Or.inl ⟨by rfl, ?hy11⟩) (by assumption) ?hr11
    case hy11 => (intro w hSw; (try dsimp only at hSw); go_simp; (try with_reducible rfl))
    try simp only [Act.put, List.setIfInBounds_toArray, List.set_cons_zero, List.set_cons_succ]
    refine wpAnyH_take (i := 15) (oi := ({ dst := some 25, op := Op.pick (Operand.tmp 17) (Operand.tmp 24) (Operand.const (Value.bool false)), type := 4, pos := "law.go:26", after := #[{ on := 7, ground := Ground.data }, { on := 14, ground := Ground.data }], guard := none } : Oper)) (v := ?hv12) rfl (by kernel_rfl) (by kernel_rfl) (by kernel_rfl) (fun _ _ _ h => h) (Or.inl ⟨by rfl, ?hy12⟩) (by assumption) ?hr12
    case hy12 => (intro w hSw; (try dsimp only at hSw); go_simp; (try with_reducible rfl))
    try simp only [Act.put, List.setIfInBounds_toArray, List.set_cons_zero, List.set_cons_succ]
    refine wpAnyH_take (i := 16) (oi := ({ dst := some 26, op := Op.move (Operand.tmp 25), type := 4, pos := "law.go:26", after := #[{ on := 15, ground := Ground.data }, { on := 13, ground := Ground.chain }], guard := none } : Oper)) (v := ?hv13) rfl (by kernel_rfl) (by kernel_rfl) (by kernel_rfl) (fun _ _ _ h => h) (Or.inl ⟨by rfl, ?hy13⟩) (by assumption) ?hr13
    case hy13 => (intro w hSw; (try dsimp only at hSw); go_simp; (try with_reducible rfl))
    try simp only [Act.put, List.setIfInBounds_toArray, List.set_cons_zero, List.set_cons_succ]
    refine wpAnyH_take (i := 17) (oi := ({ dst := some 27, op := Op.move (Operand.tmp 1), type := 9, pos := "law.go:26", after := #[{ on := 16, ground := Ground.guard }], guard := some (16, true) } : Oper)) (v := ?hv14) rfl (by kernel_rfl) (by kernel_rfl) (by kernel_rfl) (fun _ _ _ h => h) (Or.inl ⟨by rfl, ?hy14⟩) (by assumption) ?hr14
    case hy14 => (intro w hSw; (try dsimp only at hSw); go_simp; (try with_reducible rfl))
    try simp only [Act.put, List.setIfInBounds_toArray, List.set_cons_zero, List.set_cons_succ]
    refine wpAnyH_take (i := 19) (oi := ({ dst := some 29, op := Op.move (Operand.tmp 1), type := 9, pos := "law.go:26", after := #[{ on := 16, ground := Ground.guard }], guard := some (16, true) } : Oper)) (v := ?hv15) rfl (by kernel_rfl) (by kernel_rfl) (by kernel_rfl) (fun _ _ _ h => h) (Or.inl ⟨by rfl, ?hy15⟩) (by assumption) ?hr15
    case hy15 => (intro w hSw; (try dsimp only at hSw); go_simp; (try with_reducible rfl))
    try simp only [Act.put, List.setIfInBounds_toArray, List.set_cons_zero, List.set_cons_succ]
    refine wpAnyH_ready (rs := [18]) (by kernel_rfl) (by simp) ?_
    refine AllReadyH.cons (o := ({ dst := some 28, op := Op.call { callee := Callee.value (Operand.func 16), args := #[Operand.tmp 27], argTypes := #[9] }, type := 25, pos := "law.go:26", after := #[{ on := 17, ground := Ground.data }, { on := 16, ground := Ground.chain }, { on := 16, ground := Ground.guard }], guard := some (16, true) } : Oper)) rfl (fun KK hKK => ?_) AllReadyH.nil
    (go_simp; (refine (default27 user _).mono ?_); rintro e0 w3 ⟨uA5, uC5, kA5, kC5, rfl, hU5, hK5, hb3, _, _⟩)
    refine hKK.out _ _ (by first | exact ⟨HT1.out.drew, (Below.refl _ _).drew⟩ | exact ⟨hH4.1.below hb3, hH4.2.trans (hb3.mono hH4.2.size)⟩ | exact hH4) (fun hH5 => ?_)
    clear hKK KK hH4
    try simp only [Act.put, List.setIfInBounds_toArray, List.set_cons_zero, List.set_cons_succ]
    refine wpAnyH_ready (rs := [20]) (by kernel_rfl) (by simp) ?_
    refine AllReadyH.cons (o := ({ dst := some 30, op := Op.call { callee := Callee.value (Operand.func 17), args := #[Operand.tmp 29], argTypes := #[9] }, type := 25, pos := "law.go:26", after := #[{ on := 19, ground := Ground.data }, { on := 18, ground := Ground.chain }, { on := 16, ground := Ground.guard }], guard := some (16, true) } : Oper)) rfl (fun KK hKK => ?_) AllReadyH.nil
    (go_simp; (refine (default28 user _).mono ?_); rintro e0 w3 ⟨uA6, uC6, kA6, kC6, rfl, hU6, hK6, hb3, _, _⟩)
    refine hKK.out _ _ (by first | exact ⟨HT1.out.drew, (Below.refl _ _).drew⟩ | exact ⟨hH5.1.below hb3, hH5.2.trans (hb3.mono hH5.2.size)⟩ | exact hH5) (fun hH6 => ?_)
    clear hKK KK hH5
    try simp only [Act.put, List.setIfInBounds_toArray, List.set_cons_zero, List.set_cons_succ]
    refine wpAnyH_ready (rs := [21]) (by kernel_rfl) (by simp) ?_
    refine AllReadyH.cons (o := ({ dst := some 31, op := Op.call { callee := Callee.value (Operand.func 15), args := #[Operand.tmp 28, Operand.tmp 30], argTypes := #[25, 25] }, type := 4, pos := "law.go:26", after := #[{ on := 18, ground := Ground.data }, { on := 20, ground := Ground.data }, { on := 20, ground := Ground.chain }, { on := 16, ground := Ground.guard }], guard := some (16, true) } : Oper)) rfl (fun KK hKK => ?_) AllReadyH.nil
    (go_simp; (with_reducible refine (same15_refl uA5 uA6 uC5 uC6 kA5 kA6 kC5 kC6 (defLv user) _ (hU5.below hb3) hU6 (hK5.below hb3) hK6).mono ?_); rintro e0 w3 ⟨rfl, hb3⟩)
    refine hKK.out _ _ (by first | exact ⟨HT1.out.drew, (Below.refl _ _).drew⟩ | exact ⟨hH6.1.below hb3, hH6.2.trans (hb3.mono hH6.2.size)⟩ | exact hH6) (fun hH7 => ?_)
    clear hKK KK hH6
    try simp only [Act.put, List.setIfInBounds_toArray, List.set_cons_zero, List.set_cons_succ]
    refine wpAnyH_take (i := 22) (oi := ({ dst := some 32, op := Op.pick (Operand.tmp 26) (Operand.tmp 31) (Operand.const (Value.bool false)), type := 4, pos := "law.go:26", after := #[{ on := 16, ground := Ground.data }, { on := 21, ground := Ground.data }], guard := none } : Oper)) (v := ?hv16) rfl (by kernel_rfl) (by kernel_rfl) (by kernel_rfl) (fun _ _ _ h => h) (Or.inl ⟨by rfl, ?hy16⟩) (by assumption) ?hr16
    case hy16 => (intro w hSw; (try dsimp only at hSw); go_simp; (try with_reducible rfl))
    try simp only [Act.put, List.setIfInBounds_toArray, List.set_cons_zero, List.set_cons_succ]
    refine wpAnyH_take (i := 23) (oi := ({ dst := some 33, op := Op.move (Operand.tmp 32), type := 4, pos := "law.go:26", after := #[{ on := 22, ground := Ground.data }, { on := 21, ground := Ground.chain }], guard := none } : Oper)) (v := ?hv17) rfl (by kernel_rfl) (by kernel_rfl) (by kernel_rfl) (fun _ _ _ h => h) (Or.inl ⟨by rfl, ?hy17⟩) (by assumption) ?hr17
    case hy17 => (intro w hSw; (try dsimp only at hSw); go_simp; (try with_reducible rfl))
    try simp only [Act.put, List.setIfInBounds_toArray, List.set_cons_zero, List.set_cons_succ]
    refine wpAnyH_ready (rs := [24]) (by kernel_rfl) (by simp) ?_
    refine AllReadyH.cons (o := ({ dst := some 34, op := Op.call { callee := Callee.value (Operand.func 10), args := #[], argTypes := #[] }, type := 4, pos := "law.go:26", after := #[{ on := 23, ground := Ground.chain }, { on := 23, ground := Ground.guard }], guard := some (23, true) } : Oper)) rfl (fun KK hKK => ?_) AllReadyH.nil
    (go_simp; (with_reducible refine (awake10 _).mono ?_); rintro e0 w3 ⟨rfl, hb3⟩)
    refine hKK.out _ _ (by first | exact ⟨HT1.out.drew, (Below.refl _ _).drew⟩ | exact ⟨hH7.1.below hb3, hH7.2.trans (hb3.mono hH7.2.size)⟩ | exact hH7) (fun hH8 => ?_)
    clear hKK KK hH7
    try simp only [Act.put, List.setIfInBounds_toArray, List.set_cons_zero, List.set_cons_succ]
    refine wpAnyH_take (i := 25) (oi := ({ dst := some 35, op := Op.pick (Operand.tmp 33) (Operand.tmp 34) (Operand.const (Value.bool false)), type := 4, pos := "law.go:26", after := #[{ on := 23, ground := Ground.data }, { on := 24, ground := Ground.data }], guard := none } : Oper)) (v := ?hv18) rfl (by kernel_rfl) (by kernel_rfl) (by kernel_rfl) (fun _ _ _ h => h) (Or.inl ⟨by rfl, ?hy18⟩) (by assumption) ?hr18
    case hy18 => (intro w hSw; (try dsimp only at hSw); go_simp; (try with_reducible rfl))
    try simp only [Act.put, List.setIfInBounds_toArray, List.set_cons_zero, List.set_cons_succ]
    refine wpAnyH_take (i := 26) (oi := ({ dst := some 6, op := Op.assign (Operand.tmp 35), type := 4, pos := "law.go:26", after := #[{ on := 25, ground := Ground.data }, { on := 24, ground := Ground.chain }, { on := 0, ground := Ground.phase }, { on := 1, ground := Ground.phase }, { on := 2, ground := Ground.phase }, { on := 3, ground := Ground.phase }, { on := 4, ground := Ground.phase }, { on := 5, ground := Ground.phase }, { on := 6, ground := Ground.phase }, { on := 7, ground := Ground.phase }, { on := 8, ground := Ground.phase }, { on := 9, ground := Ground.phase }, { on := 10, ground := Ground.phase }, { on := 11, ground := Ground.phase }, { on := 12, ground := Ground.phase }, { on := 13, ground := Ground.phase }, { on := 14, ground := Ground.phase }, { on := 15, ground := Ground.phase }, { on := 16, ground := Ground.phase }, { on := 17, ground := Ground.phase }, { on := 18, ground := Ground.phase }, { on := 19, ground := Ground.phase }, { on := 20, ground := Ground.phase }, { on := 21, ground := Ground.phase }, { on := 22, ground := Ground.phase }, { on := 23, ground := Ground.phase }, { on := 24, ground := Ground.phase }, { on := 25, ground := Ground.phase }], guard := none } : Oper)) (v := ?hv19) rfl (by kernel_rfl) (by kernel_rfl) (by kernel_rfl) (fun _ _ _ h => h) (Or.inl ⟨by rfl, ?hy19⟩) (by assumption) ?hr19
    case hy19 => (intro w hSw; (try dsimp only at hSw); go_simp; (try with_reducible rfl))
    try simp only [Act.put, List.setIfInBounds_toArray, List.set_cons_zero, List.set_cons_succ]
    refine wpAnyH_done (by kernel_rfl) ?_ _
    have hBl := hH8.2
    clear hH8
    go_wp2
    go_ret
    exact ⟨rfl, HW2.out.trans (hBl.mono HSz.out)⟩
  | true =>
    rw [gg] at HG
    go_enter Try.func3, Try.ntmps3
    go_wp2_with (first
      | (go_at_call 9; refine (HG.out _).mono ?_; rintro e0 w2 ⟨rfl, hb0⟩; have HB0 := Lib.hid hb0; clear hb0)
      | (go_at_call 10; refine (awake10 _).mono ?_; rintro e0 w3 ⟨rfl, hb0⟩; have HB1 := Lib.hid hb0; clear hb0))
    go_ret
    have HW2 := HW.out.trans (HB0.out.mono HW.out.size)
    exact ⟨rfl, HW2.trans (HB1.out.mono HW2.size)⟩
end Go.Proofs.Ythhmbcelicfopaa
