/- SessionsWants: its walk. -/
import Derived.Test.YtbkchcpfnoclhaaV18
namespace Go.Proofs.Ytbkchcpfnoclhaa
open Go Go.RowKit
set_option linter.unusedVariables false
set_option linter.unusedSimpArgs false
set_option maxRecDepth 100000

set_option maxHeartbeats 16000000 in
theorem wants_walk (S : Ses) (A : Option Addr) (c : Nat) (A1 : Option Addr) (n1 c1 : Nat) (ms : List ByteArray) (A2 : Option Addr) (n2 c2 : Nat) (K : Nat → Kd) (w : World) (h : Rcs w A S.l.length c S.l) (hrm : S.rm.size ≤ 9223372036854775807) (hm : Strs w A1 n1 ms) (hc1 : n1 ≤ c1) (hK : Kys w A2 n2 K) : Calls Try.prog 4 #[.agg #[.int .i64 S.id, .string S.rm, .int .i64 S.nx, .slice A S.l.length c], .slice A1 n1 c1, .slice A2 n2 c2] w fun r w' => r = .returned (.bool true) ∧ Below w.heap.size w w' := by
  have XS := Lib.hid (blk_new w (sC S.id S.rm S.nx A S.l.length c) 24)
  have BA := Lib.hid ((Below.refl w.heap.size w).alloc (Nat.le_refl _) (.cells #[.int .i64 S.id, .string S.rm, .int .i64 S.nx, .slice A S.l.length c] 24))
  have HG := Lib.hid (great9 S.id S.rm S.nx A c S.l 40 _ (h.below BA.out) hrm)
  have HM := Lib.hid (fun y (hb : Below w.heap.size w y) => many16 A1 n1 c1 ms A2 n2 c2 K y (hm.below hb) hm.2.1 (hK.below hb))
  have HW0 := Lib.hid (fun (h0 : S.l.length ≤ 900000) (h1 : n1 ≤ 1000) (h2 : n2 ≤ 900000) (hd : ∀ j, j < n2 → (K j).ds.length ≤ 900) y (hb : Below w.heap.size w y) => wants18 S.id S.rm S.nx A S.l.length c S.l A1 n1 c1 ms A2 n2 c2 K y (h.below hb) h0 (hm.below hb) hc1 h1 (hK.below hb) hd)
  have HV0 := Lib.hid (fun (h0 : S.l.length ≤ 900000) (h1 : n1 ≤ 1000) (h2 : n2 ≤ 900000) (hd : ∀ j, j < n2 → (K j).ds.length ≤ 900) y (hb : Below w.heap.size w y) => wants19 S.id S.rm S.nx A S.l.length c S.l A1 n1 c1 ms A2 n2 c2 K y (h.below hb) h0 (hm.below hb) h1 (hK.below hb) h2 hd)
  have HS0 := Lib.hid (fun (h0 : S.l.length ≤ 900000) (h1 : n1 ≤ 1000) (h2 : n2 ≤ 900000) (hd : ∀ j, j < n2 → (K j).ds.length ≤ 900) y (hb : Below w.heap.size w y) => stale20 S.id S.rm S.nx A S.l.length c S.l A1 n1 c1 ms A2 n2 c2 K y (h.below hb) (hm.below hb) hc1 h1 (hK.below hb) hd)
  have HT0 := Lib.hid (fun (h0 : S.l.length ≤ 900000) (h1 : n1 ≤ 1000) (h2 : n2 ≤ 900000) (hd : ∀ j, j < n2 → (K j).ds.length ≤ 900) y (hb : Below w.heap.size w y) => stale21 S.id S.rm S.nx A S.l.length c S.l A1 n1 c1 ms A2 n2 c2 K y (h.below hb) h0 (hm.below hb) h1 (hK.below hb) h2 hd)
  have hml := Lib.hid hm.1
  unfold GreatP at HG
  unfold ManyP at HM
  unfold WantP at HW0 HV0
  generalize wantL S.l S.nx (holdL ms (dvI K n2)) = lw at HW0 HV0
  generalize stlB S.l (holdL ms (dvI K n2)) = sb at HS0 HT0
  clear h hm hK hc1
  go_enter Try.func4, Try.ntmps4
  go_upto_region 3 with (first
    | (refine wpList_load_mid rfl 24 _ rfl w.heap.size 0 rfl (sC S.id S.rm S.nx A S.l.length c) _ XS.out.range Try.underlying24 rfl size24 ?_)
    | (go_at_call 9; (with_reducible refine HG.out.mono ?_); rintro e w1 ⟨b, rfl, hgr, hb⟩; have G1 := Lib.hid hgr; have B1 := Lib.hid (BA.out.trans (hb.mono BA.out.size)); have S1 := Lib.hid (XS.out.below hb); clear hgr hb; cases b)
    | (go_at_call 16; (with_reducible refine (HM.out _ B1.out).mono ?_); rintro e w2 ⟨b2, rfl, hmn, hb⟩; have M1 := Lib.hid hmn; have B2 := Lib.hid (B1.out.trans (hb.mono B1.out.size)); have S2 := Lib.hid (S1.out.below hb); clear hmn hb; cases b2)
    | fail)
  · have MB := M1.out (by first | rfl | trivial)
    have GB := G1.out (by first | rfl | trivial)
    have hmlo := hml.out
    have HW := Lib.hid (fun y (hb : Below w2.heap.size w2 y) => HW0.out (by omega) (by omega) (by omega) (fun j hj => by have := MB.2.2 j hj; omega) y (B2.out.trans (hb.mono B2.out.size)))
    have HV := Lib.hid (fun y (hb : Below w2.heap.size w2 y) => HV0.out (by omega) (by omega) (by omega) (fun j hj => by have := MB.2.2 j hj; omega) y (B2.out.trans (hb.mono B2.out.size)))
    have HS := Lib.hid (fun y (hb : Below w2.heap.size w2 y) => HS0.out (by omega) (by omega) (by omega) (fun j hj => by have := MB.2.2 j hj; omega) y (B2.out.trans (hb.mono B2.out.size)))
    have HT := Lib.hid (fun y (hb : Below w2.heap.size w2 y) => HT0.out (by omega) (by omega) (by omega) (fun j hj => by have := MB.2.2 j hj; omega) y (B2.out.trans (hb.mono B2.out.size)))
    clear HW0 HV0 HS0 HT0 MB GB hmlo HG HM
    refine wp_region_held_drew (S := (fun y => Below w2.heap.size w2 y)) (by kernel_rfl) ((Below.refl w2.heap.size w2).drew) (fun hH0 => ?_)
    generalize hy0 : World.drew _ = y0 at hH0 ⊢
    have RB0 : Hid (Below w2.heap.size w2 y0) := Lib.hid hH0
    clear hy0
    refine wpAnyH_take (i := 0) (oi := ({ dst := some 14, op := Op.load 24 (Operand.tmp 3), type := 24, pos := "law.go:57", after := #[], guard := none } : Oper)) (v := .agg #[.int .i64 S.id, .string S.rm, .int .i64 S.nx, .slice A S.l.length c]) rfl (by kernel_rfl) (by kernel_rfl) (by kernel_rfl) (fun _ _ _ h => h) (yieldsIf_load_mid (by rfl) 24 _ rfl w.heap.size 0 rfl [.int .i64 S.id, .string S.rm, .int .i64 S.nx, .slice A S.l.length c] _ (fun w0 hw0 => (S2.out.below hw0).range) Try.underlying24 rfl size24) (by assumption) ?_
    try simp only [Act.put, List.setIfInBounds_toArray, List.set_cons_zero, List.set_cons_succ]
    refine wpAnyH_take (i := 1) (oi := ({ dst := some 15, op := Op.move (Operand.tmp 1), type := 35, pos := "law.go:57", after := #[], guard := none } : Oper)) (v := ?hv1) rfl (by kernel_rfl) (by kernel_rfl) (by kernel_rfl) (fun _ _ _ h => h) (Or.inl ⟨by rfl, ?hy1⟩) (by assumption) ?hr1
    case hy1 => (intro w hSw; (try dsimp only at hSw); go_simp; (try with_reducible rfl))
    try simp only [Act.put, List.setIfInBounds_toArray, List.set_cons_zero, List.set_cons_succ]
    refine wpAnyH_take (i := 2) (oi := ({ dst := some 16, op := Op.move (Operand.tmp 2), type := 36, pos := "law.go:57", after := #[], guard := none } : Oper)) (v := ?hv2) rfl (by kernel_rfl) (by kernel_rfl) (by kernel_rfl) (fun _ _ _ h => h) (Or.inl ⟨by rfl, ?hy2⟩) (by assumption) ?hr2
    case hy2 => (intro w hSw; (try dsimp only at hSw); go_simp; (try with_reducible rfl))
    try simp only [Act.put, List.setIfInBounds_toArray, List.set_cons_zero, List.set_cons_succ]
    refine wpAnyH_take (i := 4) (oi := ({ dst := some 18, op := Op.load 24 (Operand.tmp 3), type := 24, pos := "law.go:57", after := #[], guard := none } : Oper)) (v := .agg #[.int .i64 S.id, .string S.rm, .int .i64 S.nx, .slice A S.l.length c]) rfl (by kernel_rfl) (by kernel_rfl) (by kernel_rfl) (fun _ _ _ h => h) (yieldsIf_load_mid (by rfl) 24 _ rfl w.heap.size 0 rfl [.int .i64 S.id, .string S.rm, .int .i64 S.nx, .slice A S.l.length c] _ (fun w0 hw0 => (S2.out.below hw0).range) Try.underlying24 rfl size24) (by assumption) ?_
    try simp only [Act.put, List.setIfInBounds_toArray, List.set_cons_zero, List.set_cons_succ]
    refine wpAnyH_take (i := 5) (oi := ({ dst := some 19, op := Op.move (Operand.tmp 1), type := 35, pos := "law.go:57", after := #[], guard := none } : Oper)) (v := ?hv3) rfl (by kernel_rfl) (by kernel_rfl) (by kernel_rfl) (fun _ _ _ h => h) (Or.inl ⟨by rfl, ?hy3⟩) (by assumption) ?hr3
    case hy3 => (intro w hSw; (try dsimp only at hSw); go_simp; (try with_reducible rfl))
    try simp only [Act.put, List.setIfInBounds_toArray, List.set_cons_zero, List.set_cons_succ]
    refine wpAnyH_take (i := 6) (oi := ({ dst := some 20, op := Op.move (Operand.tmp 2), type := 36, pos := "law.go:57", after := #[], guard := none } : Oper)) (v := ?hv4) rfl (by kernel_rfl) (by kernel_rfl) (by kernel_rfl) (fun _ _ _ h => h) (Or.inl ⟨by rfl, ?hy4⟩) (by assumption) ?hr4
    case hy4 => (intro w hSw; (try dsimp only at hSw); go_simp; (try with_reducible rfl))
    try simp only [Act.put, List.setIfInBounds_toArray, List.set_cons_zero, List.set_cons_succ]
    refine wpAnyH_ready (rs := [3]) (by kernel_rfl) (by simp) ?_
    refine AllReadyH.cons (o := ({ dst := some 17, op := Op.call { callee := Callee.value (Operand.func 18), args := #[Operand.tmp 14, Operand.tmp 15, Operand.tmp 16], argTypes := #[24, 35, 36] }, type := 22, pos := "law.go:57", after := #[{ on := 0, ground := Ground.data }, { on := 1, ground := Ground.data }, { on := 2, ground := Ground.data }], guard := none } : Oper)) rfl (fun KK hKK => ?_) AllReadyH.nil
    go_simp
    (with_reducible refine (HW.out _ RB0.out).mono ?_)
    rintro e1 y1 ⟨AW, cW, rfl, hr, hnw, hb⟩
    have RB1 := Lib.hid (RB0.out.trans (hb.mono RB0.out.size))
    have RW := Lib.hid hr; clear hr hnw hb
    refine hKK.out _ _ (RB1.out) (fun hH1 => ?_)
    clear hKK KK
    try simp only [Act.put, List.setIfInBounds_toArray, List.set_cons_zero, List.set_cons_succ]
    refine wpAnyH_ready (rs := [7]) (by kernel_rfl) (by simp) ?_
    refine AllReadyH.cons (o := ({ dst := some 21, op := Op.call { callee := Callee.value (Operand.func 19), args := #[Operand.tmp 18, Operand.tmp 19, Operand.tmp 20], argTypes := #[24, 35, 36] }, type := 22, pos := "law.go:57", after := #[{ on := 4, ground := Ground.data }, { on := 5, ground := Ground.data }, { on := 6, ground := Ground.data }, { on := 3, ground := Ground.chain }], guard := none } : Oper)) rfl (fun KK hKK => ?_) AllReadyH.nil
    go_simp
    (with_reducible refine (HV.out _ RB1.out).mono ?_)
    rintro e2 y2 ⟨AV, cV, rfl, hr, hnw, hb⟩
    have RB2 := Lib.hid (RB1.out.trans (hb.mono RB1.out.size))
    have RV := Lib.hid hr; have RW2 := Lib.hid (RW.out.below hb); clear hr hnw hb
    refine hKK.out _ _ (RB2.out) (fun hH2 => ?_)
    clear hKK KK
    try simp only [Act.put, List.setIfInBounds_toArray, List.set_cons_zero, List.set_cons_succ]
    refine wpAnyH_ready (rs := [8]) (by kernel_rfl) (by simp) ?_
    refine AllReadyH.cons (o := ({ dst := some 22, op := Op.call { callee := Callee.value (Operand.func 17), args := #[Operand.tmp 17, Operand.tmp 21], argTypes := #[22, 22] }, type := 4, pos := "law.go:57", after := #[{ on := 3, ground := Ground.data }, { on := 7, ground := Ground.data }, { on := 7, ground := Ground.chain }], guard := none } : Oper)) rfl (fun KK hKK => ?_) AllReadyH.nil
    go_simp
    (with_reducible refine (same17 AW lw.length cW AV lw.length cV lw _ RW2.out RV.out).mono ?_)
    rintro e3 y3 ⟨rfl, hb⟩
    have RB3 := Lib.hid (RB2.out.trans (hb.mono RB2.out.size))
    clear hb
    refine hKK.out _ _ (RB3.out) (fun hH3 => ?_)
    clear hKK KK
    try simp only [Act.put, List.setIfInBounds_toArray, List.set_cons_zero, List.set_cons_succ]
    refine wpAnyH_take (i := 9) (oi := ({ dst := some 23, op := Op.move (Operand.tmp 22), type := 4, pos := "law.go:57", after := #[{ on := 8, ground := Ground.data }, { on := 8, ground := Ground.chain }], guard := none } : Oper)) (v := ?hv5) rfl (by kernel_rfl) (by kernel_rfl) (by kernel_rfl) (fun _ _ _ h => h) (Or.inl ⟨by rfl, ?hy5⟩) (by assumption) ?hr5
    case hy5 => (intro w hSw; (try dsimp only at hSw); go_simp; (try with_reducible rfl))
    try simp only [Act.put, List.setIfInBounds_toArray, List.set_cons_zero, List.set_cons_succ]
    refine wpAnyH_take (i := 10) (oi := ({ dst := some 24, op := Op.load 24 (Operand.tmp 3), type := 24, pos := "law.go:57", after := #[{ on := 9, ground := Ground.guard }], guard := some (9, true) } : Oper)) (v := .agg #[.int .i64 S.id, .string S.rm, .int .i64 S.nx, .slice A S.l.length c]) rfl (by kernel_rfl) (by kernel_rfl) (by kernel_rfl) (fun _ _ _ h => h) (yieldsIf_load_mid (by rfl) 24 _ rfl w.heap.size 0 rfl [.int .i64 S.id, .string S.rm, .int .i64 S.nx, .slice A S.l.length c] _ (fun w0 hw0 => (S2.out.below hw0).range) Try.underlying24 rfl size24) (by assumption) ?_
    try simp only [Act.put, List.setIfInBounds_toArray, List.set_cons_zero, List.set_cons_succ]
    refine wpAnyH_take (i := 11) (oi := ({ dst := some 25, op := Op.move (Operand.tmp 1), type := 35, pos := "law.go:57", after := #[{ on := 9, ground := Ground.guard }], guard := some (9, true) } : Oper)) (v := ?hv6) rfl (by kernel_rfl) (by kernel_rfl) (by kernel_rfl) (fun _ _ _ h => h) (Or.inl ⟨by rfl, ?hy6⟩) (by assumption) ?hr6
    case hy6 => (intro w hSw; (try dsimp only at hSw); go_simp; (try with_reducible rfl))
    try simp only [Act.put, List.setIfInBounds_toArray, List.set_cons_zero, List.set_cons_succ]
    refine wpAnyH_take (i := 12) (oi := ({ dst := some 26, op := Op.move (Operand.tmp 2), type := 36, pos := "law.go:57", after := #[{ on := 9, ground := Ground.guard }], guard := some (9, true) } : Oper)) (v := ?hv7) rfl (by kernel_rfl) (by kernel_rfl) (by kernel_rfl) (fun _ _ _ h => h) (Or.inl ⟨by rfl, ?hy7⟩) (by assumption) ?hr7
    case hy7 => (intro w hSw; (try dsimp only at hSw); go_simp; (try with_reducible rfl))
    try simp only [Act.put, List.setIfInBounds_toArray, List.set_cons_zero, List.set_cons_succ]
    refine wpAnyH_take (i := 14) (oi := ({ dst := some 28, op := Op.load 24 (Operand.tmp 3), type := 24, pos := "law.go:57", after := #[{ on := 9, ground := Ground.guard }], guard := some (9, true) } : Oper)) (v := .agg #[.int .i64 S.id, .string S.rm, .int .i64 S.nx, .slice A S.l.length c]) rfl (by kernel_rfl) (by kernel_rfl) (by kernel_rfl) (fun _ _ _ h => h) (yieldsIf_load_mid (by rfl) 24 _ rfl w.heap.size 0 rfl [.int .i64 S.id, .string S.rm, .int .i64 S.nx, .slice A S.l.length c] _ (fun w0 hw0 => (S2.out.below hw0).range) Try.underlying24 rfl size24) (by assumption) ?_
    try simp only [Act.put, List.setIfInBounds_toArray, List.set_cons_zero, List.set_cons_succ]
    refine wpAnyH_take (i := 15) (oi := ({ dst := some 29, op := Op.move (Operand.tmp 1), type := 35, pos := "law.go:57", after := #[{ on := 9, ground := Ground.guard }], guard := some (9, true) } : Oper)) (v := ?hv8) rfl (by kernel_rfl) (by kernel_rfl) (by kernel_rfl) (fun _ _ _ h => h) (Or.inl ⟨by rfl, ?hy8⟩) (by assumption) ?hr8
    case hy8 => (intro w hSw; (try dsimp only at hSw); go_simp; (try with_reducible rfl))
    try simp only [Act.put, List.setIfInBounds_toArray, List.set_cons_zero, List.set_cons_succ]
    refine wpAnyH_take (i := 16) (oi := ({ dst := some 30, op := Op.move (Operand.tmp 2), type := 36, pos := "law.go:57", after := #[{ on := 9, ground := Ground.guard }], guard := some (9, true) } : Oper)) (v := ?hv9) rfl (by kernel_rfl) (by kernel_rfl) (by kernel_rfl) (fun _ _ _ h => h) (Or.inl ⟨by rfl, ?hy9⟩) (by assumption) ?hr9
    case hy9 => (intro w hSw; (try dsimp only at hSw); go_simp; (try with_reducible rfl))
    try simp only [Act.put, List.setIfInBounds_toArray, List.set_cons_zero, List.set_cons_succ]
    refine wpAnyH_ready (rs := [13]) (by kernel_rfl) (by simp) ?_
    refine AllReadyH.cons (o := ({ dst := some 27, op := Op.call { callee := Callee.value (Operand.func 20), args := #[Operand.tmp 24, Operand.tmp 25, Operand.tmp 26], argTypes := #[24, 35, 36] }, type := 4, pos := "law.go:57", after := #[{ on := 10, ground := Ground.data }, { on := 11, ground := Ground.data }, { on := 12, ground := Ground.data }, { on := 9, ground := Ground.chain }, { on := 9, ground := Ground.guard }], guard := some (9, true) } : Oper)) rfl (fun KK hKK => ?_) AllReadyH.nil
    go_simp
    (with_reducible refine (HS.out _ RB3.out).mono ?_)
    rintro e4 y4 ⟨rfl, hb⟩
    have RB4 := Lib.hid (RB3.out.trans (hb.mono RB3.out.size))
    clear hb
    refine hKK.out _ _ (RB4.out) (fun hH4 => ?_)
    clear hKK KK
    try simp only [Act.put, List.setIfInBounds_toArray, List.set_cons_zero, List.set_cons_succ]
    refine wpAnyH_ready (rs := [17]) (by kernel_rfl) (by simp) ?_
    refine AllReadyH.cons (o := ({ dst := some 31, op := Op.call { callee := Callee.value (Operand.func 21), args := #[Operand.tmp 28, Operand.tmp 29, Operand.tmp 30], argTypes := #[24, 35, 36] }, type := 4, pos := "law.go:57", after := #[{ on := 14, ground := Ground.data }, { on := 15, ground := Ground.data }, { on := 16, ground := Ground.data }, { on := 13, ground := Ground.chain }, { on := 9, ground := Ground.guard }], guard := some (9, true) } : Oper)) rfl (fun KK hKK => ?_) AllReadyH.nil
    go_simp
    (with_reducible refine (HT.out _ RB4.out).mono ?_)
    rintro e5 y5 ⟨rfl, hb⟩
    have RB5 := Lib.hid (RB4.out.trans (hb.mono RB4.out.size))
    clear hb
    refine hKK.out _ _ (RB5.out) (fun hH5 => ?_)
    clear hKK KK
    try simp only [Act.put, List.setIfInBounds_toArray, List.set_cons_zero, List.set_cons_succ]
    refine wpAnyH_take (i := 18) (oi := ({ dst := some 32, op := Op.binOp BinOp.eql 4 (Operand.tmp 27) (Operand.tmp 31) 4, type := 4, pos := "law.go:57", after := #[{ on := 13, ground := Ground.data }, { on := 17, ground := Ground.data }, { on := 9, ground := Ground.guard }], guard := some (9, true) } : Oper)) (v := ?hv10) rfl (by kernel_rfl) (by kernel_rfl) (by kernel_rfl) (fun _ _ _ h => h) (Or.inl ⟨by rfl, ?hy10⟩) (by assumption) ?hr10
    case hy10 => (intro w hSw; (try dsimp only at hSw); go_simp; (try with_reducible rfl))
    try simp only [Act.put, List.setIfInBounds_toArray, List.set_cons_zero, List.set_cons_succ]
    refine wpAnyH_take (i := 19) (oi := ({ dst := some 33, op := Op.pick (Operand.tmp 23) (Operand.tmp 32) (Operand.const (Value.bool false)), type := 4, pos := "law.go:57", after := #[{ on := 9, ground := Ground.data }, { on := 18, ground := Ground.data }], guard := none } : Oper)) (v := ?hv11) rfl (by kernel_rfl) (by kernel_rfl) (by kernel_rfl) (fun _ _ _ h => h) (Or.inl ⟨by rfl, ?hy11⟩) (by assumption) ?hr11
    case hy11 => (intro w hSw; (try dsimp only at hSw); go_simp; (try with_reducible rfl))
    try simp only [Act.put, List.setIfInBounds_toArray, List.set_cons_zero, List.set_cons_succ]
    refine wpAnyH_take (i := 20) (oi := ({ dst := some 34, op := Op.move (Operand.tmp 33), type := 4, pos := "law.go:57", after := #[{ on := 19, ground := Ground.data }, { on := 17, ground := Ground.chain }], guard := none } : Oper)) (v := ?hv12) rfl (by kernel_rfl) (by kernel_rfl) (by kernel_rfl) (fun _ _ _ h => h) (Or.inl ⟨by rfl, ?hy12⟩) (by assumption) ?hr12
    case hy12 => (intro w hSw; (try dsimp only at hSw); go_simp; (try with_reducible rfl))
    try simp only [Act.put, List.setIfInBounds_toArray, List.set_cons_zero, List.set_cons_succ]
    refine wpAnyH_ready (rs := [21]) (by kernel_rfl) (by simp) ?_
    refine AllReadyH.cons (o := ({ dst := some 35, op := Op.call { callee := Callee.value (Operand.func 15), args := #[], argTypes := #[] }, type := 4, pos := "law.go:57", after := #[{ on := 20, ground := Ground.chain }, { on := 20, ground := Ground.guard }], guard := some (20, true) } : Oper)) rfl (fun KK hKK => ?_) AllReadyH.nil
    go_simp
    (with_reducible refine (live15 _).mono ?_)
    rintro e6 y6 ⟨rfl, hb⟩
    have RB6 := Lib.hid (RB5.out.trans (hb.mono RB5.out.size))
    clear hb
    refine hKK.out _ _ (RB6.out) (fun hH6 => ?_)
    clear hKK KK
    try simp only [Act.put, List.setIfInBounds_toArray, List.set_cons_zero, List.set_cons_succ]
    refine wpAnyH_take (i := 22) (oi := ({ dst := some 36, op := Op.pick (Operand.tmp 34) (Operand.tmp 35) (Operand.const (Value.bool false)), type := 4, pos := "law.go:57", after := #[{ on := 20, ground := Ground.data }, { on := 21, ground := Ground.data }], guard := none } : Oper)) (v := ?hv13) rfl (by kernel_rfl) (by kernel_rfl) (by kernel_rfl) (fun _ _ _ h => h) (Or.inl ⟨by rfl, ?hy13⟩) (by assumption) ?hr13
    case hy13 => (intro w hSw; (try dsimp only at hSw); go_simp; (try with_reducible rfl))
    try simp only [Act.put, List.setIfInBounds_toArray, List.set_cons_zero, List.set_cons_succ]
    refine wpAnyH_take (i := 23) (oi := ({ dst := some 6, op := Op.assign (Operand.tmp 36), type := 4, pos := "law.go:57", after := #[{ on := 22, ground := Ground.data }, { on := 21, ground := Ground.chain }, { on := 0, ground := Ground.phase }, { on := 1, ground := Ground.phase }, { on := 2, ground := Ground.phase }, { on := 3, ground := Ground.phase }, { on := 4, ground := Ground.phase }, { on := 5, ground := Ground.phase }, { on := 6, ground := Ground.phase }, { on := 7, ground := Ground.phase }, { on := 8, ground := Ground.phase }, { on := 9, ground := Ground.phase }, { on := 10, ground := Ground.phase }, { on := 11, ground := Ground.phase }, { on := 12, ground := Ground.phase }, { on := 13, ground := Ground.phase }, { on := 14, ground := Ground.phase }, { on := 15, ground := Ground.phase }, { on := 16, ground := Ground.phase }, { on := 17, ground := Ground.phase }, { on := 18, ground := Ground.phase }, { on := 19, ground := Ground.phase }, { on := 20, ground := Ground.phase }, { on := 21, ground := Ground.phase }, { on := 22, ground := Ground.phase }], guard := none } : Oper)) (v := ?hv14) rfl (by kernel_rfl) (by kernel_rfl) (by kernel_rfl) (fun _ _ _ h => h) (Or.inl ⟨by rfl, ?hy14⟩) (by assumption) ?hr14
    case hy14 => (intro w hSw; (try dsimp only at hSw); go_simp; (try with_reducible rfl))
    try simp only [Act.put, List.setIfInBounds_toArray, List.set_cons_zero, List.set_cons_succ]
    refine wpAnyH_done (by kernel_rfl) ?_ _
    go_wp2
    go_ret
    exact ⟨rfl, B2.out.trans (RB6.out.mono B2.out.size)⟩
  · go_ret
    first | exact ⟨rfl, B2.out⟩ | exact ⟨rfl, B1.out⟩
  · go_ret
    first | exact ⟨rfl, B2.out⟩ | exact ⟨rfl, B1.out⟩
end Go.Proofs.Ytbkchcpfnoclhaa
