/- The walk of sames. -/
import Derived.Test.YthhmbcelicfopaaN13
namespace Go.Proofs.Ythhmbcelicfopaa
open Go.RowKit
set_option linter.unusedVariables false
set_option maxHeartbeats 16000000 in
theorem sames_walk (uA : Option Addr) (n uC : Nat) (kA : Option Addr) (nK kC : Nat) (d x3 x4 x5 x6 x7 x8 : Int) (vA : Option Addr) (m vC : Nat) (lA : Option Addr) (mK lC : Nat) (e y3 y4 y5 y6 y7 y8 : Int) (U V : Nat → ByteArray × Int) (K M : Nat → Int × Int)  (w : World) (hU : Rws w uA n uC 2 (rowU U)) (hK : Rws w kA nK kC 2 (rowK K)) (hV : Rws w vA m vC 2 (rowU V)) (hM : Rws w lA mK lC 2 (rowK M)) :
    Calls Try.prog 6 #[.agg (lvc uA n uC kA nK kC d x3 x4 x5 x6 x7 x8).toArray, .agg (lvc vA m vC lA mK lC e y3 y4 y5 y6 y7 y8).toArray] w fun e' w' => e' = .returned (.bool true) ∧ Below w.heap.size w w' := by
  have HX := Lib.hid (two_boxes w (lvc uA n uC kA nK kC d x3 x4 x5 x6 x7 x8) (lvc vA m vC lA mK lC e y3 y4 y5 y6 y7 y8))
  have HU := Lib.hid (hU.below HX.out.2.2)
  have HV := Lib.hid (hV.below HX.out.2.2)
  have HK := Lib.hid (hK.below HX.out.2.2)
  have HM := Lib.hid (hM.below HX.out.2.2)
  obtain ⟨bu, hbu⟩ := bool_of (UEq n m U V)
  obtain ⟨bk, hbk⟩ := bool_of (KEq nK mK K M)
  have Hbu := Lib.hid hbu
  have Hbk := Lib.hid hbk
  clear hbu hbk
  have HG1 := Lib.hid (fun w => great9 uA n uC kA nK kC d x3 x4 x5 x6 x7 x8 w)
  have HG2 := Lib.hid (fun w => great9 vA m vC lA mK lC e y3 y4 y5 y6 y7 y8 w)
  clear hU hK hV hM
  show Calls Try.prog 6 #[.agg #[.slice uA n uC, .slice kA nK kC, .int .i64 d, .int .i64 x3, .int .i64 x4, .int .i64 x5, .int .i64 x6, .int .i64 x7, .int .i64 x8], .agg #[.slice vA m vC, .slice lA mK lC, .int .i64 e, .int .i64 y3, .int .i64 y4, .int .i64 y5, .int .i64 y6, .int .i64 y7, .int .i64 y8]] w _
  cases g1 : isGreat n nK with
  | false =>
    cases g2 : isGreat m mK with
    | false =>
      rw [g1] at HG1
      rw [g2] at HG2
      go_enter Try.func6, Try.ntmps6
      go_upto_region 3 with (first
      | (go_at_call 9; with_reducible refine (HG1.out _).mono ?_; rintro e0 w2 ⟨rfl, hb0⟩; have HB0 := Lib.hid hb0; clear hb0; have T2 := HX.out.2.1.below HB0.out; have q0 := T2.cell (i := 0) rfl; have q1 := T2.cell (i := 1) rfl; have q2 := T2.cell (i := 2) rfl; have q3 := T2.cell (i := 3) rfl; have q4 := T2.cell (i := 4) rfl; have q5 := T2.cell (i := 5) rfl; have q6 := T2.cell (i := 6) rfl; have q7 := T2.cell (i := 7) rfl; have q8 := T2.cell (i := 8) rfl; clear T2)
      | (go_at_call 9; with_reducible refine (HG2.out _).mono ?_; rintro e0 w2 ⟨rfl, hb0⟩; have HB1 := Lib.hid (HB0.out.trans (hb0.mono HB0.out.size)); clear hb0 HB0; have HB0 := HB1; clear HB1 q0 q1 q2 q3 q4 q5 q6 q7 q8)
      | (go_at_call 10; refine (awake10 _).mono ?_; rintro e0 w3 ⟨rfl, hb0⟩; have HB2 := Lib.hid (HB0.out.trans (hb0.mono HB0.out.size)); clear hb0))
      have HT1 := Lib.hid (HX.out.1.below HB0.out)
      have HT2 := Lib.hid (HX.out.2.1.below HB0.out)
      have HU2 := Lib.hid (HU.out.below HB0.out)
      have HV2 := Lib.hid (HV.out.below HB0.out)
      have HK2 := Lib.hid (HK.out.below HB0.out)
      have HM2 := Lib.hid (HM.out.below HB0.out)
      have HW2 := Lib.hid (HX.out.2.2.trans (HB0.out.mono HX.out.2.2.size))
      have HSz := Lib.hid HW2.out.size
      clear HX HU HK HV HM HB0
      generalize hb2 : w.heap.size + 1 = b2 at HT2 ⊢
      generalize hb0 : w.heap.size = b1 at HT1 ⊢
      clear hb0 hb2
      refine wp_region_held_drew (S := (fun w' => Blk w' b1 (lvc uA n uC kA nK kC d x3 x4 x5 x6 x7 x8) 25 ∧ Blk w' b2 (lvc vA m vC lA mK lC e y3 y4 y5 y6 y7 y8) 25 ∧ Below w2.heap.size w2 w')) (by kernel_rfl) (by first | exact ⟨HT1.out.drew, HT2.out.drew, (Below.refl _ _).drew⟩ | exact ⟨hH0.1.below hb3, hH0.2.1.below hb3, hH0.2.2.trans (hb3.mono hH0.2.2.size)⟩ | exact hH0) (fun hH0 => ?_)
      refine wpAnyH_take (i := 0) (oi := ({ dst := some 12, op := Op.load 25 (Operand.tmp 2), type := 25, pos := "law.go:57", after := #[], guard := none } : Oper)) (v := ?hv30) rfl (by kernel_rfl) (by kernel_rfl) (by kernel_rfl) (fun _ _ _ h => h) (Or.inl ⟨by rfl, ?hy30⟩) (by assumption) ?hr30
      case hy30 => (intro w hSw; (try dsimp only at hSw); have k0 := hSw.1.cell (i := 0) rfl; have k1 := hSw.1.cell (i := 1) rfl; have k2 := hSw.1.cell (i := 2) rfl; have k3 := hSw.1.cell (i := 3) rfl; have k4 := hSw.1.cell (i := 4) rfl; have k5 := hSw.1.cell (i := 5) rfl; have k6 := hSw.1.cell (i := 6) rfl; have k7 := hSw.1.cell (i := 7) rfl; have k8 := hSw.1.cell (i := 8) rfl; clear hSw; go_simp; (try with_reducible rfl))
      try simp only [Act.put, List.setIfInBounds_toArray, List.set_cons_zero, List.set_cons_succ]
      refine wpAnyH_take (i := 1) (oi := ({ dst := some 13, op := Op.load 25 (Operand.tmp 3), type := 25, pos := "law.go:57", after := #[], guard := none } : Oper)) (v := ?hv31) rfl (by kernel_rfl) (by kernel_rfl) (by kernel_rfl) (fun _ _ _ h => h) (Or.inl ⟨by rfl, ?hy31⟩) (by assumption) ?hr31
      case hy31 => (intro w hSw; (try dsimp only at hSw); have k0 := hSw.2.1.cell (i := 0) rfl; have k1 := hSw.2.1.cell (i := 1) rfl; have k2 := hSw.2.1.cell (i := 2) rfl; have k3 := hSw.2.1.cell (i := 3) rfl; have k4 := hSw.2.1.cell (i := 4) rfl; have k5 := hSw.2.1.cell (i := 5) rfl; have k6 := hSw.2.1.cell (i := 6) rfl; have k7 := hSw.2.1.cell (i := 7) rfl; have k8 := hSw.2.1.cell (i := 8) rfl; clear hSw; go_simp; (try with_reducible rfl))
      try simp only [Act.put, List.setIfInBounds_toArray, List.set_cons_zero, List.set_cons_succ]
      refine wpAnyH_take (i := 3) (oi := ({ dst := some 15, op := Op.load 25 (Operand.tmp 2), type := 25, pos := "law.go:57", after := #[], guard := none } : Oper)) (v := ?hv32) rfl (by kernel_rfl) (by kernel_rfl) (by kernel_rfl) (fun _ _ _ h => h) (Or.inl ⟨by rfl, ?hy32⟩) (by assumption) ?hr32
      case hy32 => (intro w hSw; (try dsimp only at hSw); have k0 := hSw.1.cell (i := 0) rfl; have k1 := hSw.1.cell (i := 1) rfl; have k2 := hSw.1.cell (i := 2) rfl; have k3 := hSw.1.cell (i := 3) rfl; have k4 := hSw.1.cell (i := 4) rfl; have k5 := hSw.1.cell (i := 5) rfl; have k6 := hSw.1.cell (i := 6) rfl; have k7 := hSw.1.cell (i := 7) rfl; have k8 := hSw.1.cell (i := 8) rfl; clear hSw; go_simp; (try with_reducible rfl))
      try simp only [Act.put, List.setIfInBounds_toArray, List.set_cons_zero, List.set_cons_succ]
      refine wpAnyH_take (i := 4) (oi := ({ dst := some 16, op := Op.load 25 (Operand.tmp 3), type := 25, pos := "law.go:57", after := #[], guard := none } : Oper)) (v := ?hv33) rfl (by kernel_rfl) (by kernel_rfl) (by kernel_rfl) (fun _ _ _ h => h) (Or.inl ⟨by rfl, ?hy33⟩) (by assumption) ?hr33
      case hy33 => (intro w hSw; (try dsimp only at hSw); have k0 := hSw.2.1.cell (i := 0) rfl; have k1 := hSw.2.1.cell (i := 1) rfl; have k2 := hSw.2.1.cell (i := 2) rfl; have k3 := hSw.2.1.cell (i := 3) rfl; have k4 := hSw.2.1.cell (i := 4) rfl; have k5 := hSw.2.1.cell (i := 5) rfl; have k6 := hSw.2.1.cell (i := 6) rfl; have k7 := hSw.2.1.cell (i := 7) rfl; have k8 := hSw.2.1.cell (i := 8) rfl; clear hSw; go_simp; (try with_reducible rfl))
      try simp only [Act.put, List.setIfInBounds_toArray, List.set_cons_zero, List.set_cons_succ]
      refine wpAnyH_ready (rs := [2]) (by kernel_rfl) (by simp) ?_
      refine AllReadyH.cons (o := ({ dst := some 14, op := Op.call { callee := Callee.value (Operand.func 22), args := #[Operand.tmp 12, Operand.tmp 13], argTypes := #[25, 25] }, type := 4, pos := "law.go:57", after := #[{ on := 0, ground := Ground.data }, { on := 1, ground := Ground.data }], guard := none } : Oper)) rfl (fun KK hKK => ?_) AllReadyH.nil
      (go_simp; (with_reducible refine (same22 uA n uC kA nK kC d x3 x4 x5 x6 x7 x8 vA m vC lA mK lC e y3 y4 y5 y6 y7 y8 U V K M bu bk _ (HU2.out.below hH0.2.2) (HV2.out.below hH0.2.2) (HK2.out.below hH0.2.2) (HM2.out.below hH0.2.2) Hbu.out Hbk.out).mono ?_); rintro e0 w3 ⟨rfl, hb3⟩)
      refine hKK.out _ _ (by first | exact ⟨HT1.out.drew, HT2.out.drew, (Below.refl _ _).drew⟩ | exact ⟨hH0.1.below hb3, hH0.2.1.below hb3, hH0.2.2.trans (hb3.mono hH0.2.2.size)⟩ | exact hH0) (fun hH1 => ?_)
      clear hKK KK hH0
      try simp only [Act.put, List.setIfInBounds_toArray, List.set_cons_zero, List.set_cons_succ]
      refine wpAnyH_ready (rs := [5]) (by kernel_rfl) (by simp) ?_
      refine AllReadyH.cons (o := ({ dst := some 17, op := Op.call { callee := Callee.value (Operand.func 15), args := #[Operand.tmp 15, Operand.tmp 16], argTypes := #[25, 25] }, type := 4, pos := "law.go:57", after := #[{ on := 3, ground := Ground.data }, { on := 4, ground := Ground.data }, { on := 2, ground := Ground.chain }], guard := none } : Oper)) rfl (fun KK hKK => ?_) AllReadyH.nil
      (go_simp; (with_reducible refine (same15 uA n uC kA nK kC d x3 x4 x5 x6 x7 x8 vA m vC lA mK lC e y3 y4 y5 y6 y7 y8 U V K M bu bk _ (HU2.out.below hH1.2.2) (HV2.out.below hH1.2.2) (HK2.out.below hH1.2.2) (HM2.out.below hH1.2.2) Hbu.out Hbk.out).mono ?_); rintro e0 w3 ⟨rfl, hb3⟩)
      refine hKK.out _ _ (by first | exact ⟨HT1.out.drew, HT2.out.drew, (Below.refl _ _).drew⟩ | exact ⟨hH1.1.below hb3, hH1.2.1.below hb3, hH1.2.2.trans (hb3.mono hH1.2.2.size)⟩ | exact hH1) (fun hH2 => ?_)
      clear hKK KK hH1
      try simp only [Act.put, List.setIfInBounds_toArray, List.set_cons_zero, List.set_cons_succ]
      refine wpAnyH_take (i := 6) (oi := ({ dst := some 18, op := Op.binOp BinOp.eql 4 (Operand.tmp 14) (Operand.tmp 17) 4, type := 4, pos := "law.go:57", after := #[{ on := 2, ground := Ground.data }, { on := 5, ground := Ground.data }], guard := none } : Oper)) (v := ?hv34) rfl (by kernel_rfl) (by kernel_rfl) (by kernel_rfl) (fun _ _ _ h => h) (Or.inl ⟨by rfl, ?hy34⟩) (by assumption) ?hr34
      case hy34 => (intro w hSw; (try dsimp only at hSw); go_simp; (try with_reducible rfl))
      try simp only [Act.put, List.setIfInBounds_toArray, List.set_cons_zero, List.set_cons_succ]
      refine wpAnyH_take (i := 7) (oi := ({ dst := some 19, op := Op.move (Operand.tmp 18), type := 4, pos := "law.go:57", after := #[{ on := 6, ground := Ground.data }, { on := 5, ground := Ground.chain }], guard := none } : Oper)) (v := ?hv35) rfl (by kernel_rfl) (by kernel_rfl) (by kernel_rfl) (fun _ _ _ h => h) (Or.inl ⟨by rfl, ?hy35⟩) (by assumption) ?hr35
      case hy35 => (intro w hSw; (try dsimp only at hSw); go_simp; (try with_reducible rfl))
      try simp only [Act.put, List.setIfInBounds_toArray, List.set_cons_zero, List.set_cons_succ]
      refine wpAnyH_take (i := 8) (oi := ({ dst := some 20, op := Op.load 25 (Operand.tmp 2), type := 25, pos := "law.go:57", after := #[{ on := 7, ground := Ground.guard }], guard := some (7, true) } : Oper)) (v := ?hv36) rfl (by kernel_rfl) (by kernel_rfl) (by kernel_rfl) (fun _ _ _ h => h) (Or.inl ⟨by rfl, ?hy36⟩) (by assumption) ?hr36
      case hy36 => (intro w hSw; (try dsimp only at hSw); have k0 := hSw.1.cell (i := 0) rfl; have k1 := hSw.1.cell (i := 1) rfl; have k2 := hSw.1.cell (i := 2) rfl; have k3 := hSw.1.cell (i := 3) rfl; have k4 := hSw.1.cell (i := 4) rfl; have k5 := hSw.1.cell (i := 5) rfl; have k6 := hSw.1.cell (i := 6) rfl; have k7 := hSw.1.cell (i := 7) rfl; have k8 := hSw.1.cell (i := 8) rfl; clear hSw; go_simp; (try with_reducible rfl))
      try simp only [Act.put, List.setIfInBounds_toArray, List.set_cons_zero, List.set_cons_succ]
      refine wpAnyH_take (i := 9) (oi := ({ dst := some 21, op := Op.load 25 (Operand.tmp 2), type := 25, pos := "law.go:57", after := #[{ on := 7, ground := Ground.guard }], guard := some (7, true) } : Oper)) (v := ?hv37) rfl (by kernel_rfl) (by kernel_rfl) (by kernel_rfl) (fun _ _ _ h => h) (Or.inl ⟨by rfl, ?hy37⟩) (by assumption) ?hr37
      case hy37 => (intro w hSw; (try dsimp only at hSw); have k0 := hSw.1.cell (i := 0) rfl; have k1 := hSw.1.cell (i := 1) rfl; have k2 := hSw.1.cell (i := 2) rfl; have k3 := hSw.1.cell (i := 3) rfl; have k4 := hSw.1.cell (i := 4) rfl; have k5 := hSw.1.cell (i := 5) rfl; have k6 := hSw.1.cell (i := 6) rfl; have k7 := hSw.1.cell (i := 7) rfl; have k8 := hSw.1.cell (i := 8) rfl; clear hSw; go_simp; (try with_reducible rfl))
      try simp only [Act.put, List.setIfInBounds_toArray, List.set_cons_zero, List.set_cons_succ]
      refine wpAnyH_ready (rs := [10]) (by kernel_rfl) (by simp) ?_
      refine AllReadyH.cons (o := ({ dst := some 22, op := Op.call { callee := Callee.value (Operand.func 22), args := #[Operand.tmp 20, Operand.tmp 21], argTypes := #[25, 25] }, type := 4, pos := "law.go:57", after := #[{ on := 8, ground := Ground.data }, { on := 9, ground := Ground.data }, { on := 7, ground := Ground.chain }, { on := 7, ground := Ground.guard }], guard := some (7, true) } : Oper)) rfl (fun KK hKK => ?_) AllReadyH.nil
      (go_simp; (with_reducible refine (same22_refl uA n uC kA nK kC d x3 x4 x5 x6 x7 x8 U K _ (HU2.out.below hH2.2.2) (HK2.out.below hH2.2.2)).mono ?_); rintro e0 w3 ⟨rfl, hb3⟩)
      refine hKK.out _ _ (by first | exact ⟨HT1.out.drew, HT2.out.drew, (Below.refl _ _).drew⟩ | exact ⟨hH2.1.below hb3, hH2.2.1.below hb3, hH2.2.2.trans (hb3.mono hH2.2.2.size)⟩ | exact hH2) (fun hH3 => ?_)
      clear hKK KK hH2
      try simp only [Act.put, List.setIfInBounds_toArray, List.set_cons_zero, List.set_cons_succ]
      refine wpAnyH_take (i := 11) (oi := ({ dst := some 23, op := Op.pick (Operand.tmp 19) (Operand.tmp 22) (Operand.const (Value.bool false)), type := 4, pos := "law.go:57", after := #[{ on := 7, ground := Ground.data }, { on := 10, ground := Ground.data }], guard := none } : Oper)) (v := ?hv38) rfl (by kernel_rfl) (by kernel_rfl) (by kernel_rfl) (fun _ _ _ h => h) (Or.inl ⟨by rfl, ?hy38⟩) (by assumption) ?hr38
      case hy38 => (intro w hSw; (try dsimp only at hSw); go_simp; (try with_reducible rfl))
      try simp only [Act.put, List.setIfInBounds_toArray, List.set_cons_zero, List.set_cons_succ]
      refine wpAnyH_take (i := 12) (oi := ({ dst := some 24, op := Op.move (Operand.tmp 23), type := 4, pos := "law.go:57", after := #[{ on := 11, ground := Ground.data }, { on := 10, ground := Ground.chain }], guard := none } : Oper)) (v := ?hv39) rfl (by kernel_rfl) (by kernel_rfl) (by kernel_rfl) (fun _ _ _ h => h) (Or.inl ⟨by rfl, ?hy39⟩) (by assumption) ?hr39
      case hy39 => (intro w hSw; (try dsimp only at hSw); go_simp; (try with_reducible rfl))
      try simp only [Act.put, List.setIfInBounds_toArray, List.set_cons_zero, List.set_cons_succ]
      refine wpAnyH_ready (rs := [13]) (by kernel_rfl) (by simp) ?_
      refine AllReadyH.cons (o := ({ dst := some 25, op := Op.call { callee := Callee.value (Operand.func 10), args := #[], argTypes := #[] }, type := 4, pos := "law.go:57", after := #[{ on := 12, ground := Ground.chain }, { on := 12, ground := Ground.guard }], guard := some (12, true) } : Oper)) rfl (fun KK hKK => ?_) AllReadyH.nil
      (go_simp; (with_reducible refine (awake10 _).mono ?_); rintro e0 w3 ⟨rfl, hb3⟩)
      refine hKK.out _ _ (by first | exact ⟨HT1.out.drew, HT2.out.drew, (Below.refl _ _).drew⟩ | exact ⟨hH3.1.below hb3, hH3.2.1.below hb3, hH3.2.2.trans (hb3.mono hH3.2.2.size)⟩ | exact hH3) (fun hH4 => ?_)
      clear hKK KK hH3
      try simp only [Act.put, List.setIfInBounds_toArray, List.set_cons_zero, List.set_cons_succ]
      refine wpAnyH_take (i := 14) (oi := ({ dst := some 26, op := Op.pick (Operand.tmp 24) (Operand.tmp 25) (Operand.const (Value.bool false)), type := 4, pos := "law.go:57", after := #[{ on := 12, ground := Ground.data }, { on := 13, ground := Ground.data }], guard := none } : Oper)) (v := ?hv40) rfl (by kernel_rfl) (by kernel_rfl) (by kernel_rfl) (fun _ _ _ h => h) (Or.inl ⟨by rfl, ?hy40⟩) (by assumption) ?hr40
      case hy40 => (intro w hSw; (try dsimp only at hSw); go_simp; (try with_reducible rfl))
      try simp only [Act.put, List.setIfInBounds_toArray, List.set_cons_zero, List.set_cons_succ]
      refine wpAnyH_take (i := 15) (oi := ({ dst := some 4, op := Op.assign (Operand.tmp 26), type := 4, pos := "law.go:57", after := #[{ on := 14, ground := Ground.data }, { on := 13, ground := Ground.chain }, { on := 0, ground := Ground.phase }, { on := 1, ground := Ground.phase }, { on := 2, ground := Ground.phase }, { on := 3, ground := Ground.phase }, { on := 4, ground := Ground.phase }, { on := 5, ground := Ground.phase }, { on := 6, ground := Ground.phase }, { on := 7, ground := Ground.phase }, { on := 8, ground := Ground.phase }, { on := 9, ground := Ground.phase }, { on := 10, ground := Ground.phase }, { on := 11, ground := Ground.phase }, { on := 12, ground := Ground.phase }, { on := 13, ground := Ground.phase }, { on := 14, ground := Ground.phase }], guard := none } : Oper)) (v := ?hv41) rfl (by kernel_rfl) (by kernel_rfl) (by kernel_rfl) (fun _ _ _ h => h) (Or.inl ⟨by rfl, ?hy41⟩) (by assumption) ?hr41
      case hy41 => (intro w hSw; (try dsimp only at hSw); go_simp; (try with_reducible rfl))
      try simp only [Act.put, List.setIfInBounds_toArray, List.set_cons_zero, List.set_cons_succ]
      refine wpAnyH_done (by kernel_rfl) ?_ _
      have hBl := hH4.2.2
      clear hH4
      go_wp2
      go_ret
      exact ⟨rfl, HW2.out.trans (hBl.mono HSz.out)⟩
    | true =>
      rw [g1] at HG1
      rw [g2] at HG2
      go_enter Try.func6, Try.ntmps6
      go_wp2_with (first
      | (go_at_call 9; with_reducible refine (HG1.out _).mono ?_; rintro e0 w2 ⟨rfl, hb0⟩; have HB0 := Lib.hid hb0; clear hb0; have T2 := HX.out.2.1.below HB0.out; have q0 := T2.cell (i := 0) rfl; have q1 := T2.cell (i := 1) rfl; have q2 := T2.cell (i := 2) rfl; have q3 := T2.cell (i := 3) rfl; have q4 := T2.cell (i := 4) rfl; have q5 := T2.cell (i := 5) rfl; have q6 := T2.cell (i := 6) rfl; have q7 := T2.cell (i := 7) rfl; have q8 := T2.cell (i := 8) rfl; clear T2)
      | (go_at_call 9; with_reducible refine (HG2.out _).mono ?_; rintro e0 w2 ⟨rfl, hb0⟩; have HB1 := Lib.hid (HB0.out.trans (hb0.mono HB0.out.size)); clear hb0 HB0; have HB0 := HB1; clear HB1 q0 q1 q2 q3 q4 q5 q6 q7 q8)
      | (go_at_call 10; refine (awake10 _).mono ?_; rintro e0 w3 ⟨rfl, hb0⟩; have HB2 := Lib.hid (HB0.out.trans (hb0.mono HB0.out.size)); clear hb0))
      go_ret
      exact ⟨rfl, HX.out.2.2.trans (HB2.out.mono HX.out.2.2.size)⟩
  | true =>
    rw [g1] at HG1
    go_enter Try.func6, Try.ntmps6
    go_wp2_with (first
      | (go_at_call 9; with_reducible refine (HG1.out _).mono ?_; rintro e0 w2 ⟨rfl, hb0⟩; have HB0 := Lib.hid hb0; clear hb0; have T2 := HX.out.2.1.below HB0.out; have q0 := T2.cell (i := 0) rfl; have q1 := T2.cell (i := 1) rfl; have q2 := T2.cell (i := 2) rfl; have q3 := T2.cell (i := 3) rfl; have q4 := T2.cell (i := 4) rfl; have q5 := T2.cell (i := 5) rfl; have q6 := T2.cell (i := 6) rfl; have q7 := T2.cell (i := 7) rfl; have q8 := T2.cell (i := 8) rfl; clear T2)
      | (go_at_call 9; with_reducible refine (HG2.out _).mono ?_; rintro e0 w2 ⟨rfl, hb0⟩; have HB1 := Lib.hid (HB0.out.trans (hb0.mono HB0.out.size)); clear hb0 HB0; have HB0 := HB1; clear HB1 q0 q1 q2 q3 q4 q5 q6 q7 q8)
      | (go_at_call 10; refine (awake10 _).mono ?_; rintro e0 w3 ⟨rfl, hb0⟩; have HB2 := Lib.hid (HB0.out.trans (hb0.mono HB0.out.size)); clear hb0))
    go_ret
    exact ⟨rfl, HX.out.2.2.trans (HB2.out.mono HX.out.2.2.size)⟩
end Go.Proofs.Ythhmbcelicfopaa
