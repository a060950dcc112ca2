/- AccessLists: its walk. -/
import Derived.Test.YtokofmolbdpklaaK2
import Derived.Test.YtokofmolbdpklaaG9
import Derived.Test.YtokofmolbdpklaaO2
namespace Go.Proofs.Ytokofmolbdpklaa
open Go.RowKit
set_option linter.unusedVariables false

set_option maxHeartbeats 4000000 in
theorem lists_walk (C0 : Ct) (d0 : Ads) (C1 : Ct) (d1 : Ads) (sv : ByteArray) (hsv : sv.size ≤ 9223372036854775807) (w : World) (h0 : IsCt w C0 d0) (h1 : IsCt w C1 d1) :
    Calls Try.prog 3 #[.agg (cells C0 d0).toArray, .agg (cells C1 d1).toArray, .string sv] w fun e w' => e = .returned (.bool true) ∧ Below w.heap.size w w' := by
  have X1 := Lib.hid ((blk_new w (cells C0 d0) 28).alloc (.cells (cells C1 d1).toArray 28))
  have X2 := Lib.hid (blk_second w (.cells (cells C0 d0).toArray 28) (cells C1 d1) 28)
  have B2 := Lib.hid (below_two w (.cells (cells C0 d0).toArray 28) (.cells (cells C1 d1).toArray 28))
  have HSz := Lib.hid B2.out.size
  have G1 := Lib.hid (fun u (hb : Below w.heap.size w u) => great7b C0 d0 sv hsv u (h0.below hb))
  have G2 := Lib.hid (fun u (hb : Below w.heap.size w u) => great7b C1 d1 sv hsv u (h1.below hb))
  have AW := Lib.hid (fun u => awake8 u)
  have HG := Lib.hid (fun h => great_bound (nA := C0.nA) (nD := C0.nD) (al := C0.al) (dn := C0.dn) (sv := sv) h)
  have H0 := Lib.hid h0
  have H1 := Lib.hid h1
  clear h0 h1
  generalize great C0.nA C0.nD C0.al C0.dn sv = p at G1 HG
  generalize great C1.nA C1.nD C1.al C1.dn sv = q at G2
  go_enter Try.func3, Try.ntmps3
  go_upto_region 1 with (fail)
  generalize hb2 : w.heap.size + 1 = b2 at X2 ⊢
  generalize hb0 : w.heap.size = b1 at X1 ⊢
  generalize hw2 : ((w.alloc _).alloc _) = u2 at X1 X2 B2 HSz ⊢
  clear hb2 hb0 hw2
  have L1 := Lib.hid (fun u (hb : Below u2.heap.size u2 u) => (X1.out.below hb).range)
  cases p
  · obtain ⟨_, _, g3⟩ := HG.out rfl
    have hs : sv.size ≤ 4611686018427387903 := by omega
    have P9 := Lib.hid (fun u (hb : Below w.heap.size w u) => allowed9 C0 d0 sv hs u (H0.out.below hb))
    have P10 := Lib.hid (fun u (hb : Below w.heap.size w u) => allowed10 C0 d0 sv hs u (H0.out.below hb))
    have Q9 := Lib.hid (fun u (hb : Below w.heap.size w u) => allowed9 C1 d1 sv hs u (H1.out.below hb))
    have Q10 := Lib.hid (fun u (hb : Below w.heap.size w u) => allowed10 C1 d1 sv hs u (H1.out.below hb))
    have K11 := Lib.hid (fun u (hb : Below w.heap.size w u) => keeps11 C0 d0 C1 d1 sv hs u (H0.out.below hb) (H1.out.below hb))
    have K12 := Lib.hid (fun u (hb : Below w.heap.size w u) => keeps12 C0 d0 C1 d1 sv hs u (H0.out.below hb) (H1.out.below hb))
    generalize allow C0 sv = a at P9 P10 K11 K12
    generalize allow C1 sv = b at Q9 Q10 K11 K12
    clear g3 hs HG H0 H1
    cases q
    · go_upto_region 3 with (first
        | (refine load_mid_g (by rfl) 28 _ rfl b1 0 rfl (cells C0 d0) _ X1.out.range Try.underlying28 rfl size28c ?_)
        | (refine load_mid_g (by rfl) 28 _ rfl b2 0 rfl (cells C1 d1) _ X2'.out.range Try.underlying28 rfl size28c ?_)
        | (go_at_call 7; (with_reducible refine (G1.out _ B2.out).mono ?_); rintro e v3 ⟨rfl, hb3⟩; have X1' := Lib.hid (X1.out.below hb3); have X2' := Lib.hid (X2.out.below hb3); have B2' := Lib.hid (B2.out.trans (hb3.mono B2.out.size)); clear hb3 X1 X2 L1)
        | (go_at_call 7; (with_reducible refine (G2.out _ B2'.out).mono ?_); rintro e u3 ⟨rfl, hb4⟩; have X3 := Lib.hid (X1'.out.below hb4); have X4 := Lib.hid (X2'.out.below hb4); have B3 := Lib.hid (B2'.out.trans (hb4.mono B2'.out.size)); clear hb4 X1' X2' B2'))

      have HSz3 := Lib.hid B3.out.size
      clear G1 G2 B2 HSz
      refine wp_region_held_drew (S := (fun w' => Blk w' b1 (cells C0 d0) 28 ∧ Blk w' b2 (cells C1 d1) 28 ∧ Below u3.heap.size u3 w')) (by kernel_rfl) (by first | exact ⟨X3.out.drew, X4.out.drew, (Below.refl _ _).drew⟩ | exact ⟨hH0.1.below hb3, hH0.2.1.below hb3, hH0.2.2.trans (hb3.mono hH0.2.2.size)⟩ | exact hH0) (fun hH0 => ?_)
      refine wpAnyH_take (i := 0) (oi := ({ dst := some 16, op := Op.load 28 (Operand.tmp 3), type := 28, pos := "law.go:25", after := #[], guard := none } : Oper)) (v := .agg (cells C0 d0).toArray) rfl (by kernel_rfl) (by kernel_rfl) (by kernel_rfl) (fun _ _ _ h => h) (yieldsIf_load_mid (by rfl) 28 _ rfl b1 0 rfl (cells C0 d0) _ (fun w hw => hw.1.range) Try.underlying28 rfl size28c) (by assumption) ?hr1
      try simp only [Act.put, List.setIfInBounds_toArray, List.set_cons_zero, List.set_cons_succ]
      refine wpAnyH_take (i := 1) (oi := ({ dst := some 17, op := Op.move (Operand.tmp 2), type := 9, pos := "law.go:25", after := #[], guard := none } : Oper)) (v := ?hv2) rfl (by kernel_rfl) (by kernel_rfl) (by kernel_rfl) (fun _ _ _ h => h) (Or.inl ⟨by rfl, ?hy2⟩) (by assumption) ?hr2
      case hy2 => (intro w hSw; (try dsimp only at hSw); go_simp; (try with_reducible rfl))
      try simp only [Act.put, List.setIfInBounds_toArray, List.set_cons_zero, List.set_cons_succ]
      refine wpAnyH_take (i := 3) (oi := ({ dst := some 19, op := Op.load 28 (Operand.tmp 3), type := 28, pos := "law.go:25", after := #[], guard := none } : Oper)) (v := .agg (cells C0 d0).toArray) rfl (by kernel_rfl) (by kernel_rfl) (by kernel_rfl) (fun _ _ _ h => h) (yieldsIf_load_mid (by rfl) 28 _ rfl b1 0 rfl (cells C0 d0) _ (fun w hw => hw.1.range) Try.underlying28 rfl size28c) (by assumption) ?hr3
      try simp only [Act.put, List.setIfInBounds_toArray, List.set_cons_zero, List.set_cons_succ]
      refine wpAnyH_take (i := 4) (oi := ({ dst := some 20, op := Op.move (Operand.tmp 2), type := 9, pos := "law.go:25", after := #[], guard := none } : Oper)) (v := ?hv4) rfl (by kernel_rfl) (by kernel_rfl) (by kernel_rfl) (fun _ _ _ h => h) (Or.inl ⟨by rfl, ?hy4⟩) (by assumption) ?hr4
      case hy4 => (intro w hSw; (try dsimp only at hSw); go_simp; (try with_reducible rfl))
      try simp only [Act.put, List.setIfInBounds_toArray, List.set_cons_zero, List.set_cons_succ]
      refine wpAnyH_ready (rs := [2]) (by kernel_rfl) (by simp) ?_
      refine AllReadyH.cons (o := ({ dst := some 18, op := Op.call { callee := Callee.value (Operand.func 9), args := #[Operand.tmp 16, Operand.tmp 17], argTypes := #[28, 9] }, type := 4, pos := "law.go:25", after := #[{ on := 0, ground := Ground.data }, { on := 1, ground := Ground.data }], guard := none } : Oper)) rfl (fun KK hKK => ?_) AllReadyH.nil
      (go_simp; (with_reducible refine (P9.out _ (B3.out.trans (hH0.2.2.mono HSz3.out))).mono ?_); rintro e0 w3 ⟨rfl, hb3⟩)
      refine hKK.out _ _ (by first | exact ⟨X3.out.drew, X4.out.drew, (Below.refl _ _).drew⟩ | exact ⟨hH0.1.below hb3, hH0.2.1.below hb3, hH0.2.2.trans (hb3.mono hH0.2.2.size)⟩ | exact hH0) (fun hH1 => ?_)
      clear hKK KK hH0
      try simp only [Act.put, List.setIfInBounds_toArray, List.set_cons_zero, List.set_cons_succ]
      refine wpAnyH_ready (rs := [5]) (by kernel_rfl) (by simp) ?_
      refine AllReadyH.cons (o := ({ dst := some 21, op := Op.call { callee := Callee.value (Operand.func 10), args := #[Operand.tmp 19, Operand.tmp 20], argTypes := #[28, 9] }, type := 4, pos := "law.go:25", after := #[{ on := 3, ground := Ground.data }, { on := 4, ground := Ground.data }, { on := 2, ground := Ground.chain }], guard := none } : Oper)) rfl (fun KK hKK => ?_) AllReadyH.nil
      (go_simp; (with_reducible refine (P10.out _ (B3.out.trans (hH1.2.2.mono HSz3.out))).mono ?_); rintro e0 w3 ⟨rfl, hb3⟩)
      refine hKK.out _ _ (by first | exact ⟨X3.out.drew, X4.out.drew, (Below.refl _ _).drew⟩ | exact ⟨hH1.1.below hb3, hH1.2.1.below hb3, hH1.2.2.trans (hb3.mono hH1.2.2.size)⟩ | exact hH1) (fun hH2 => ?_)
      clear hKK KK hH1
      try simp only [Act.put, List.setIfInBounds_toArray, List.set_cons_zero, List.set_cons_succ]
      refine wpAnyH_take (i := 6) (oi := ({ dst := some 22, op := Op.binOp BinOp.eql 4 (Operand.tmp 18) (Operand.tmp 21) 4, type := 4, pos := "law.go:25", after := #[{ on := 2, ground := Ground.data }, { on := 5, ground := Ground.data }], guard := none } : Oper)) (v := ?hv5) rfl (by kernel_rfl) (by kernel_rfl) (by kernel_rfl) (fun _ _ _ h => h) (Or.inl ⟨by rfl, ?hy5⟩) (by assumption) ?hr5
      case hy5 => (intro w hSw; (try dsimp only at hSw); go_simp; (try with_reducible rfl))
      try simp only [Act.put, List.setIfInBounds_toArray, List.set_cons_zero, List.set_cons_succ]
      refine wpAnyH_take (i := 7) (oi := ({ dst := some 23, op := Op.move (Operand.tmp 22), type := 4, pos := "law.go:25", after := #[{ on := 6, ground := Ground.data }, { on := 5, ground := Ground.chain }], guard := none } : Oper)) (v := ?hv6) rfl (by kernel_rfl) (by kernel_rfl) (by kernel_rfl) (fun _ _ _ h => h) (Or.inl ⟨by rfl, ?hy6⟩) (by assumption) ?hr6
      case hy6 => (intro w hSw; (try dsimp only at hSw); go_simp; (try with_reducible rfl))
      try simp only [Act.put, List.setIfInBounds_toArray, List.set_cons_zero, List.set_cons_succ]
      refine wpAnyH_take (i := 8) (oi := ({ dst := some 24, op := Op.load 28 (Operand.tmp 4), type := 28, pos := "law.go:25", after := #[{ on := 7, ground := Ground.guard }], guard := some (7, true) } : Oper)) (v := .agg (cells C1 d1).toArray) rfl (by kernel_rfl) (by kernel_rfl) (by kernel_rfl) (fun _ _ _ h => h) (yieldsIf_load_mid (by rfl) 28 _ rfl b2 0 rfl (cells C1 d1) _ (fun w hw => hw.2.1.range) Try.underlying28 rfl size28c) (by assumption) ?hr7
      try simp only [Act.put, List.setIfInBounds_toArray, List.set_cons_zero, List.set_cons_succ]
      refine wpAnyH_take (i := 9) (oi := ({ dst := some 25, op := Op.move (Operand.tmp 2), type := 9, pos := "law.go:25", after := #[{ on := 7, ground := Ground.guard }], guard := some (7, true) } : Oper)) (v := ?hv8) rfl (by kernel_rfl) (by kernel_rfl) (by kernel_rfl) (fun _ _ _ h => h) (Or.inl ⟨by rfl, ?hy8⟩) (by assumption) ?hr8
      case hy8 => (intro w hSw; (try dsimp only at hSw); go_simp; (try with_reducible rfl))
      try simp only [Act.put, List.setIfInBounds_toArray, List.set_cons_zero, List.set_cons_succ]
      refine wpAnyH_take (i := 11) (oi := ({ dst := some 27, op := Op.load 28 (Operand.tmp 4), type := 28, pos := "law.go:25", after := #[{ on := 7, ground := Ground.guard }], guard := some (7, true) } : Oper)) (v := .agg (cells C1 d1).toArray) rfl (by kernel_rfl) (by kernel_rfl) (by kernel_rfl) (fun _ _ _ h => h) (yieldsIf_load_mid (by rfl) 28 _ rfl b2 0 rfl (cells C1 d1) _ (fun w hw => hw.2.1.range) Try.underlying28 rfl size28c) (by assumption) ?hr9
      try simp only [Act.put, List.setIfInBounds_toArray, List.set_cons_zero, List.set_cons_succ]
      refine wpAnyH_take (i := 12) (oi := ({ dst := some 28, op := Op.move (Operand.tmp 2), type := 9, pos := "law.go:25", after := #[{ on := 7, ground := Ground.guard }], guard := some (7, true) } : Oper)) (v := ?hv10) rfl (by kernel_rfl) (by kernel_rfl) (by kernel_rfl) (fun _ _ _ h => h) (Or.inl ⟨by rfl, ?hy10⟩) (by assumption) ?hr10
      case hy10 => (intro w hSw; (try dsimp only at hSw); go_simp; (try with_reducible rfl))
      try simp only [Act.put, List.setIfInBounds_toArray, List.set_cons_zero, List.set_cons_succ]
      refine wpAnyH_ready (rs := [10]) (by kernel_rfl) (by simp) ?_
      refine AllReadyH.cons (o := ({ dst := some 26, op := Op.call { callee := Callee.value (Operand.func 9), args := #[Operand.tmp 24, Operand.tmp 25], argTypes := #[28, 9] }, type := 4, pos := "law.go:25", after := #[{ on := 8, ground := Ground.data }, { on := 9, ground := Ground.data }, { on := 7, ground := Ground.chain }, { on := 7, ground := Ground.guard }], guard := some (7, true) } : Oper)) rfl (fun KK hKK => ?_) AllReadyH.nil
      (go_simp; (with_reducible refine (Q9.out _ (B3.out.trans (hH2.2.2.mono HSz3.out))).mono ?_); rintro e0 w3 ⟨rfl, hb3⟩)
      refine hKK.out _ _ (by first | exact ⟨X3.out.drew, X4.out.drew, (Below.refl _ _).drew⟩ | exact ⟨hH2.1.below hb3, hH2.2.1.below hb3, hH2.2.2.trans (hb3.mono hH2.2.2.size)⟩ | exact hH2) (fun hH3 => ?_)
      clear hKK KK hH2
      try simp only [Act.put, List.setIfInBounds_toArray, List.set_cons_zero, List.set_cons_succ]
      refine wpAnyH_ready (rs := [13]) (by kernel_rfl) (by simp) ?_
      refine AllReadyH.cons (o := ({ dst := some 29, op := Op.call { callee := Callee.value (Operand.func 10), args := #[Operand.tmp 27, Operand.tmp 28], argTypes := #[28, 9] }, type := 4, pos := "law.go:25", after := #[{ on := 11, ground := Ground.data }, { on := 12, ground := Ground.data }, { on := 10, ground := Ground.chain }, { on := 7, ground := Ground.guard }], guard := some (7, true) } : Oper)) rfl (fun KK hKK => ?_) AllReadyH.nil
      (go_simp; (with_reducible refine (Q10.out _ (B3.out.trans (hH3.2.2.mono HSz3.out))).mono ?_); rintro e0 w3 ⟨rfl, hb3⟩)
      refine hKK.out _ _ (by first | exact ⟨X3.out.drew, X4.out.drew, (Below.refl _ _).drew⟩ | exact ⟨hH3.1.below hb3, hH3.2.1.below hb3, hH3.2.2.trans (hb3.mono hH3.2.2.size)⟩ | exact hH3) (fun hH4 => ?_)
      clear hKK KK hH3
      try simp only [Act.put, List.setIfInBounds_toArray, List.set_cons_zero, List.set_cons_succ]
      refine wpAnyH_take (i := 14) (oi := ({ dst := some 30, op := Op.binOp BinOp.eql 4 (Operand.tmp 26) (Operand.tmp 29) 4, type := 4, pos := "law.go:25", after := #[{ on := 10, ground := Ground.data }, { on := 13, ground := Ground.data }, { on := 7, ground := Ground.guard }], guard := some (7, true) } : Oper)) (v := ?hv11) rfl (by kernel_rfl) (by kernel_rfl) (by kernel_rfl) (fun _ _ _ h => h) (Or.inl ⟨by rfl, ?hy11⟩) (by assumption) ?hr11
      case hy11 => (intro w hSw; (try dsimp only at hSw); go_simp; (try with_reducible rfl))
      try simp only [Act.put, List.setIfInBounds_toArray, List.set_cons_zero, List.set_cons_succ]
      refine wpAnyH_take (i := 15) (oi := ({ dst := some 31, op := Op.pick (Operand.tmp 23) (Operand.tmp 30) (Operand.const (Value.bool false)), type := 4, pos := "law.go:25", after := #[{ on := 7, ground := Ground.data }, { on := 14, ground := Ground.data }], guard := none } : Oper)) (v := ?hv12) rfl (by kernel_rfl) (by kernel_rfl) (by kernel_rfl) (fun _ _ _ h => h) (Or.inl ⟨by rfl, ?hy12⟩) (by assumption) ?hr12
      case hy12 => (intro w hSw; (try dsimp only at hSw); go_simp; (try with_reducible rfl))
      try simp only [Act.put, List.setIfInBounds_toArray, List.set_cons_zero, List.set_cons_succ]
      refine wpAnyH_take (i := 16) (oi := ({ dst := some 32, op := Op.move (Operand.tmp 31), type := 4, pos := "law.go:25", after := #[{ on := 15, ground := Ground.data }, { on := 13, ground := Ground.chain }], guard := none } : Oper)) (v := ?hv13) rfl (by kernel_rfl) (by kernel_rfl) (by kernel_rfl) (fun _ _ _ h => h) (Or.inl ⟨by rfl, ?hy13⟩) (by assumption) ?hr13
      case hy13 => (intro w hSw; (try dsimp only at hSw); go_simp; (try with_reducible rfl))
      try simp only [Act.put, List.setIfInBounds_toArray, List.set_cons_zero, List.set_cons_succ]
      refine wpAnyH_take (i := 17) (oi := ({ dst := some 33, op := Op.load 28 (Operand.tmp 3), type := 28, pos := "law.go:25", after := #[{ on := 16, ground := Ground.guard }], guard := some (16, true) } : Oper)) (v := .agg (cells C0 d0).toArray) rfl (by kernel_rfl) (by kernel_rfl) (by kernel_rfl) (fun _ _ _ h => h) (yieldsIf_load_mid (by rfl) 28 _ rfl b1 0 rfl (cells C0 d0) _ (fun w hw => hw.1.range) Try.underlying28 rfl size28c) (by assumption) ?hr14
      try simp only [Act.put, List.setIfInBounds_toArray, List.set_cons_zero, List.set_cons_succ]
      refine wpAnyH_take (i := 18) (oi := ({ dst := some 34, op := Op.load 28 (Operand.tmp 4), type := 28, pos := "law.go:25", after := #[{ on := 16, ground := Ground.guard }], guard := some (16, true) } : Oper)) (v := .agg (cells C1 d1).toArray) rfl (by kernel_rfl) (by kernel_rfl) (by kernel_rfl) (fun _ _ _ h => h) (yieldsIf_load_mid (by rfl) 28 _ rfl b2 0 rfl (cells C1 d1) _ (fun w hw => hw.2.1.range) Try.underlying28 rfl size28c) (by assumption) ?hr15
      try simp only [Act.put, List.setIfInBounds_toArray, List.set_cons_zero, List.set_cons_succ]
      refine wpAnyH_take (i := 19) (oi := ({ dst := some 35, op := Op.move (Operand.tmp 2), type := 9, pos := "law.go:25", after := #[{ on := 16, ground := Ground.guard }], guard := some (16, true) } : Oper)) (v := ?hv16) rfl (by kernel_rfl) (by kernel_rfl) (by kernel_rfl) (fun _ _ _ h => h) (Or.inl ⟨by rfl, ?hy16⟩) (by assumption) ?hr16
      case hy16 => (intro w hSw; (try dsimp only at hSw); go_simp; (try with_reducible rfl))
      try simp only [Act.put, List.setIfInBounds_toArray, List.set_cons_zero, List.set_cons_succ]
      refine wpAnyH_take (i := 21) (oi := ({ dst := some 37, op := Op.load 28 (Operand.tmp 3), type := 28, pos := "law.go:25", after := #[{ on := 16, ground := Ground.guard }], guard := some (16, true) } : Oper)) (v := .agg (cells C0 d0).toArray) rfl (by kernel_rfl) (by kernel_rfl) (by kernel_rfl) (fun _ _ _ h => h) (yieldsIf_load_mid (by rfl) 28 _ rfl b1 0 rfl (cells C0 d0) _ (fun w hw => hw.1.range) Try.underlying28 rfl size28c) (by assumption) ?hr17
      try simp only [Act.put, List.setIfInBounds_toArray, List.set_cons_zero, List.set_cons_succ]
      refine wpAnyH_take (i := 22) (oi := ({ dst := some 38, op := Op.load 28 (Operand.tmp 4), type := 28, pos := "law.go:25", after := #[{ on := 16, ground := Ground.guard }], guard := some (16, true) } : Oper)) (v := .agg (cells C1 d1).toArray) rfl (by kernel_rfl) (by kernel_rfl) (by kernel_rfl) (fun _ _ _ h => h) (yieldsIf_load_mid (by rfl) 28 _ rfl b2 0 rfl (cells C1 d1) _ (fun w hw => hw.2.1.range) Try.underlying28 rfl size28c) (by assumption) ?hr18
      try simp only [Act.put, List.setIfInBounds_toArray, List.set_cons_zero, List.set_cons_succ]
      refine wpAnyH_take (i := 23) (oi := ({ dst := some 39, op := Op.move (Operand.tmp 2), type := 9, pos := "law.go:25", after := #[{ on := 16, ground := Ground.guard }], guard := some (16, true) } : Oper)) (v := ?hv19) rfl (by kernel_rfl) (by kernel_rfl) (by kernel_rfl) (fun _ _ _ h => h) (Or.inl ⟨by rfl, ?hy19⟩) (by assumption) ?hr19
      case hy19 => (intro w hSw; (try dsimp only at hSw); go_simp; (try with_reducible rfl))
      try simp only [Act.put, List.setIfInBounds_toArray, List.set_cons_zero, List.set_cons_succ]
      refine wpAnyH_ready (rs := [20]) (by kernel_rfl) (by simp) ?_
      refine AllReadyH.cons (o := ({ dst := some 36, op := Op.call { callee := Callee.value (Operand.func 11), args := #[Operand.tmp 33, Operand.tmp 34, Operand.tmp 35], argTypes := #[28, 28, 9] }, type := 4, pos := "law.go:25", after := #[{ on := 17, ground := Ground.data }, { on := 18, ground := Ground.data }, { on := 19, ground := Ground.data }, { on := 16, ground := Ground.chain }, { on := 16, ground := Ground.guard }], guard := some (16, true) } : Oper)) rfl (fun KK hKK => ?_) AllReadyH.nil
      (go_simp; (with_reducible refine (K11.out _ (B3.out.trans (hH4.2.2.mono HSz3.out))).mono ?_); rintro e0 w3 ⟨rfl, hb3⟩)
      refine hKK.out _ _ (by first | exact ⟨X3.out.drew, X4.out.drew, (Below.refl _ _).drew⟩ | exact ⟨hH4.1.below hb3, hH4.2.1.below hb3, hH4.2.2.trans (hb3.mono hH4.2.2.size)⟩ | exact hH4) (fun hH5 => ?_)
      clear hKK KK hH4
      try simp only [Act.put, List.setIfInBounds_toArray, List.set_cons_zero, List.set_cons_succ]
      refine wpAnyH_ready (rs := [24]) (by kernel_rfl) (by simp) ?_
      refine AllReadyH.cons (o := ({ dst := some 40, op := Op.call { callee := Callee.value (Operand.func 12), args := #[Operand.tmp 37, Operand.tmp 38, Operand.tmp 39], argTypes := #[28, 28, 9] }, type := 4, pos := "law.go:25", after := #[{ on := 21, ground := Ground.data }, { on := 22, ground := Ground.data }, { on := 23, ground := Ground.data }, { on := 20, ground := Ground.chain }, { on := 16, ground := Ground.guard }], guard := some (16, true) } : Oper)) rfl (fun KK hKK => ?_) AllReadyH.nil
      (go_simp; (with_reducible refine (K12.out _ (B3.out.trans (hH5.2.2.mono HSz3.out))).mono ?_); rintro e0 w3 ⟨rfl, hb3⟩)
      refine hKK.out _ _ (by first | exact ⟨X3.out.drew, X4.out.drew, (Below.refl _ _).drew⟩ | exact ⟨hH5.1.below hb3, hH5.2.1.below hb3, hH5.2.2.trans (hb3.mono hH5.2.2.size)⟩ | exact hH5) (fun hH6 => ?_)
      clear hKK KK hH5
      try simp only [Act.put, List.setIfInBounds_toArray, List.set_cons_zero, List.set_cons_succ]
      refine wpAnyH_take (i := 25) (oi := ({ dst := some 41, op := Op.binOp BinOp.eql 4 (Operand.tmp 36) (Operand.tmp 40) 4, type := 4, pos := "law.go:25", after := #[{ on := 20, ground := Ground.data }, { on := 24, ground := Ground.data }, { on := 16, ground := Ground.guard }], guard := some (16, true) } : Oper)) (v := ?hv20) rfl (by kernel_rfl) (by kernel_rfl) (by kernel_rfl) (fun _ _ _ h => h) (Or.inl ⟨by rfl, ?hy20⟩) (by assumption) ?hr20
      case hy20 => (intro w hSw; (try dsimp only at hSw); go_simp; (try with_reducible rfl))
      try simp only [Act.put, List.setIfInBounds_toArray, List.set_cons_zero, List.set_cons_succ]
      refine wpAnyH_take (i := 26) (oi := ({ dst := some 42, op := Op.pick (Operand.tmp 32) (Operand.tmp 41) (Operand.const (Value.bool false)), type := 4, pos := "law.go:25", after := #[{ on := 16, ground := Ground.data }, { on := 25, ground := Ground.data }], guard := none } : Oper)) (v := ?hv21) rfl (by kernel_rfl) (by kernel_rfl) (by kernel_rfl) (fun _ _ _ h => h) (Or.inl ⟨by rfl, ?hy21⟩) (by assumption) ?hr21
      case hy21 => (intro w hSw; (try dsimp only at hSw); go_simp; (try with_reducible rfl))
      try simp only [Act.put, List.setIfInBounds_toArray, List.set_cons_zero, List.set_cons_succ]
      refine wpAnyH_take (i := 27) (oi := ({ dst := some 43, op := Op.move (Operand.tmp 42), type := 4, pos := "law.go:25", after := #[{ on := 26, ground := Ground.data }, { on := 24, ground := Ground.chain }], guard := none } : Oper)) (v := ?hv22) rfl (by kernel_rfl) (by kernel_rfl) (by kernel_rfl) (fun _ _ _ h => h) (Or.inl ⟨by rfl, ?hy22⟩) (by assumption) ?hr22
      case hy22 => (intro w hSw; (try dsimp only at hSw); go_simp; (try with_reducible rfl))
      try simp only [Act.put, List.setIfInBounds_toArray, List.set_cons_zero, List.set_cons_succ]
      refine wpAnyH_ready (rs := [28]) (by kernel_rfl) (by simp) ?_
      refine AllReadyH.cons (o := ({ dst := some 44, op := Op.call { callee := Callee.value (Operand.func 8), args := #[], argTypes := #[] }, type := 4, pos := "law.go:25", after := #[{ on := 27, ground := Ground.chain }, { on := 27, ground := Ground.guard }], guard := some (27, true) } : Oper)) rfl (fun KK hKK => ?_) AllReadyH.nil
      (go_simp; (with_reducible refine (AW.out _).mono ?_); rintro e0 w3 ⟨rfl, hb3⟩)
      refine hKK.out _ _ (by first | exact ⟨X3.out.drew, X4.out.drew, (Below.refl _ _).drew⟩ | exact ⟨hH6.1.below hb3, hH6.2.1.below hb3, hH6.2.2.trans (hb3.mono hH6.2.2.size)⟩ | exact hH6) (fun hH7 => ?_)
      clear hKK KK hH6
      try simp only [Act.put, List.setIfInBounds_toArray, List.set_cons_zero, List.set_cons_succ]
      refine wpAnyH_take (i := 29) (oi := ({ dst := some 45, op := Op.pick (Operand.tmp 43) (Operand.tmp 44) (Operand.const (Value.bool false)), type := 4, pos := "law.go:25", after := #[{ on := 27, ground := Ground.data }, { on := 28, ground := Ground.data }], guard := none } : Oper)) (v := ?hv23) rfl (by kernel_rfl) (by kernel_rfl) (by kernel_rfl) (fun _ _ _ h => h) (Or.inl ⟨by rfl, ?hy23⟩) (by assumption) ?hr23
      case hy23 => (intro w hSw; (try dsimp only at hSw); go_simp; (try with_reducible rfl))
      try simp only [Act.put, List.setIfInBounds_toArray, List.set_cons_zero, List.set_cons_succ]
      refine wpAnyH_take (i := 30) (oi := ({ dst := some 6, op := Op.assign (Operand.tmp 45), type := 4, pos := "law.go:25", after := #[{ on := 29, ground := Ground.data }, { on := 28, ground := Ground.chain }, { on := 0, ground := Ground.phase }, { on := 1, ground := Ground.phase }, { on := 2, ground := Ground.phase }, { on := 3, ground := Ground.phase }, { on := 4, ground := Ground.phase }, { on := 5, ground := Ground.phase }, { on := 6, ground := Ground.phase }, { on := 7, ground := Ground.phase }, { on := 8, ground := Ground.phase }, { on := 9, ground := Ground.phase }, { on := 10, ground := Ground.phase }, { on := 11, ground := Ground.phase }, { on := 12, ground := Ground.phase }, { on := 13, ground := Ground.phase }, { on := 14, ground := Ground.phase }, { on := 15, ground := Ground.phase }, { on := 16, ground := Ground.phase }, { on := 17, ground := Ground.phase }, { on := 18, ground := Ground.phase }, { on := 19, ground := Ground.phase }, { on := 20, ground := Ground.phase }, { on := 21, ground := Ground.phase }, { on := 22, ground := Ground.phase }, { on := 23, ground := Ground.phase }, { on := 24, ground := Ground.phase }, { on := 25, ground := Ground.phase }, { on := 26, ground := Ground.phase }, { on := 27, ground := Ground.phase }, { on := 28, ground := Ground.phase }, { on := 29, ground := Ground.phase }], guard := none } : Oper)) (v := ?hv24) rfl (by kernel_rfl) (by kernel_rfl) (by kernel_rfl) (fun _ _ _ h => h) (Or.inl ⟨by rfl, ?hy24⟩) (by assumption) ?hr24
      case hy24 => (intro w hSw; (try dsimp only at hSw); go_simp; (try with_reducible rfl))
      try simp only [Act.put, List.setIfInBounds_toArray, List.set_cons_zero, List.set_cons_succ]
      refine wpAnyH_done (by kernel_rfl) ?_ _
      have hBl := hH7.2.2
      clear hH7
      go_wp2
      go_ret
      exact ⟨rfl, B3.out.trans (hBl.mono HSz3.out)⟩
    · go_wp2_with (first
        | (refine load_mid_g (by rfl) 28 _ rfl b1 0 rfl (cells C0 d0) _ X1.out.range Try.underlying28 rfl size28c ?_)
        | (refine load_mid_g (by rfl) 28 _ rfl b2 0 rfl (cells C1 d1) _ X2'.out.range Try.underlying28 rfl size28c ?_)
        | (go_at_call 7; (with_reducible refine (G1.out _ B2.out).mono ?_); rintro e v3 ⟨rfl, hb3⟩; have X2' := Lib.hid (X2.out.below hb3); have B2' := Lib.hid (B2.out.trans (hb3.mono B2.out.size)); clear hb3 X1 X2 L1)
        | (go_at_call 7; (with_reducible refine (G2.out _ B2'.out).mono ?_); rintro e u3 ⟨rfl, hb4⟩; have B3 := Lib.hid (B2'.out.trans (hb4.mono B2'.out.size)); clear hb4 X2' B2')
        | (go_at_call 8; (with_reducible refine (AW.out _).mono ?_); rintro e u4 ⟨rfl, hb5⟩))
      go_ret
      exact ⟨rfl, B3.out.trans (hb5.mono B3.out.size)⟩
  · go_wp2_with (first
      | (refine load_mid_g (by rfl) 28 _ rfl b1 0 rfl (cells C0 d0) _ X1.out.range Try.underlying28 rfl size28c ?_)
      | (go_at_call 7; (with_reducible refine (G1.out _ B2.out).mono ?_); rintro e u3 ⟨rfl, hb3⟩; have B3 := Lib.hid (B2.out.trans (hb3.mono B2.out.size)); clear hb3)
      | (go_at_call 8; (with_reducible refine (AW.out _).mono ?_); rintro e u4 ⟨rfl, hb5⟩))
    go_ret
    exact ⟨rfl, B3.out.trans (hb5.mono B3.out.size)⟩
end Go.Proofs.Ytokofmolbdpklaa
