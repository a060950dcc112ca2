/- SessionsUses: its walk. -/
import Derived.Test.YtbkchcpfnoclhaaV18
namespace Go.Proofs.Ytbkchcpfnoclhaa
open Go Go.RowKit
set_option linter.unusedVariables false
set_option linter.unusedSimpArgs false
set_option maxRecDepth 100000

theorem uses_use (S : Ses) (A : Option Addr) (c : Nat) (m : Int) (X : Ses × Int × Int) (hX : useS S m = X) (w : World) (h : Rcs w A S.l.length c S.l) (hn : S.l.length ≤ 900000) (hnx : i64B S.nx) : Calls Try.prog 10 #[.agg #[.int .i64 S.id, .string S.rm, .int .i64 S.nx, .slice A S.l.length c], .int .i64 m] w fun r w' => ∃ A' c', r = .returned (.tuple #[.agg #[.int .i64 X.1.id, .string X.1.rm, .int .i64 X.1.nx, .slice A' X.1.l.length c'], .int .i64 X.2.1, .int .i64 X.2.2]) ∧ Rcs w' A' X.1.l.length c' X.1.l ∧ Below w.heap.size w w' := by
  have := use10 S A c m w h hn hnx
  rw [hX] at this
  exact this.mono (fun e w' ⟨v, hr, ⟨A', c', hv, hrc⟩, hb⟩ => ⟨A', c', by rw [hr, hv], hrc, hb⟩)
theorem uses_ruse (S : Ses) (A : Option Addr) (c : Nat) (m : Int) (X : Ses × Int × Int) (hX : useS S m = X) (w : World) (h : Rcs w A S.l.length c S.l) (hn : S.l.length ≤ 900000) (hnx : i64B S.nx) : Calls Try.prog 11 #[.agg #[.int .i64 S.id, .string S.rm, .int .i64 S.nx, .slice A S.l.length c], .int .i64 m] w fun r w' => ∃ A' c', r = .returned (.tuple #[.agg #[.int .i64 X.1.id, .string X.1.rm, .int .i64 X.1.nx, .slice A' X.1.l.length c'], .int .i64 X.2.1, .int .i64 X.2.2]) ∧ Rcs w' A' X.1.l.length c' X.1.l ∧ Below w.heap.size w w' := by
  have := use11 S A c m w h hn hnx
  rw [hX] at this
  exact this.mono (fun e w' ⟨v, hr, ⟨A', c', hv, hrc⟩, hb⟩ => ⟨A', c', by rw [hr, hv], hrc, hb⟩)
set_option maxHeartbeats 16000000 in
theorem uses_walk (S : Ses) (A : Option Addr) (c : Nat) (yu zd : ByteArray) (m : Int) (w : World) (h : Rcs w A S.l.length c S.l) (hnx : i64B S.nx) (hrm : S.rm.size ≤ 9223372036854775807) (hyu : yu.size ≤ 9223372036854775807) (hzd : zd.size ≤ 9223372036854775807) : Calls Try.prog 3 #[.agg #[.int .i64 S.id, .string S.rm, .int .i64 S.nx, .slice A S.l.length c], .agg #[.string yu, .string zd], .int .i64 m] w fun r w' => r = .returned (.bool true) ∧ Below w.heap.size w w' := by
  have XS := Lib.hid ((blk_new w (sC S.id S.rm S.nx A S.l.length c) 24).alloc (.cells #[.string yu, .string zd] 26))
  have XT := Lib.hid (blk_new2 w (.cells #[.int .i64 S.id, .string S.rm, .int .i64 S.nx, .slice A S.l.length c] 24) [.string yu, .string zd] 26)
  have BA := Lib.hid (((Below.refl w.heap.size w).alloc (Nat.le_refl _) (.cells #[.int .i64 S.id, .string S.rm, .int .i64 S.nx, .slice A S.l.length c] 24)).alloc (by simp) (.cells #[.string yu, .string zd] 26))
  have HG := Lib.hid (great9 S.id S.rm S.nx A c S.l 40 _ (h.below BA.out) hrm)
  obtain ⟨X0, hX⟩ : ∃ X, useS S m = X := ⟨_, rfl⟩
  have HU := Lib.hid (fun (h0 : S.l.length ≤ 900000) y (hb : Below w.heap.size w y) => uses_use S A c m X0 hX y (h.below hb) h0 hnx)
  have HV := Lib.hid (fun (h0 : S.l.length ≤ 900000) y (hb : Below w.heap.size w y) => uses_ruse S A c m X0 hX y (h.below hb) h0 hnx)
  have HR10 := Lib.hid (fun y (hb : Below w.heap.size w y) => reads13 S.id S.rm S.nx A c S.l yu zd m y (h.below hb))
  have HR20 := Lib.hid (fun y (hb : Below w.heap.size w y) => reads14 S.id S.rm S.nx A c S.l yu zd m y (h.below hb))
  obtain ⟨X, i1, er⟩ := X0
  dsimp only at HU HV
  generalize rdB S.l S.nx yu zd m = rb at HR10 HR20
  unfold GreatP at HG
  clear h hX
  have t0 := XT.out.cell (i := 0) rfl
  have t1 := XT.out.cell (i := 1) rfl
  by_cases e1 : (200 : Int) < (yu.size : Int)
  · go_enter Try.func3, Try.ntmps3
    go_wp2_with (first
      | (refine wpList_load_mid rfl 24 _ rfl w.heap.size 0 rfl (sC S.id S.rm S.nx A S.l.length c) _ XS.out.range Try.underlying24 rfl size24 ?_)
      | (go_at_call 9; (with_reducible refine HG.out.mono ?_); rintro e w1 ⟨b, rfl, hgr, hb⟩; have B1 := Lib.hid (BA.out.trans (hb.mono BA.out.size)); have T1 := Lib.hid (XT.out.below hb); have t0 := T1.out.cell (i := 0) rfl; have t1 := T1.out.cell (i := 1) rfl; clear hgr hb; cases b)
      | go_in)
    all_goals go_ret
    all_goals exact ⟨rfl, B1.out⟩
  · by_cases e2 : (200 : Int) < (zd.size : Int)
    · go_enter Try.func3, Try.ntmps3
      go_wp2_with (first
        | (refine wpList_load_mid rfl 24 _ rfl w.heap.size 0 rfl (sC S.id S.rm S.nx A S.l.length c) _ XS.out.range Try.underlying24 rfl size24 ?_)
        | (go_at_call 9; (with_reducible refine HG.out.mono ?_); rintro e w1 ⟨b, rfl, hgr, hb⟩; have B1 := Lib.hid (BA.out.trans (hb.mono BA.out.size)); have T1 := Lib.hid (XT.out.below hb); have t0 := T1.out.cell (i := 0) rfl; have t1 := T1.out.cell (i := 1) rfl; clear hgr hb; cases b)
        | go_in)
      all_goals go_ret
      all_goals exact ⟨rfl, B1.out⟩
    · go_enter Try.func3, Try.ntmps3
      go_upto_region 5 with (first
        | (refine wpList_load_mid rfl 24 _ rfl w.heap.size 0 rfl (sC S.id S.rm S.nx A S.l.length c) _ XS.out.range Try.underlying24 rfl size24 ?_)
        | (refine wpList_load_mid rfl 24 _ rfl w.heap.size 0 rfl (sC S.id S.rm S.nx A S.l.length c) _ S1.out.range Try.underlying24 rfl size24 ?_)
        | (refine wpList_load_mid rfl 24 _ rfl w.heap.size 0 rfl (sC S.id S.rm S.nx A S.l.length c) _ S3.out.range Try.underlying24 rfl size24 ?_)
        | (go_at_call 9; (with_reducible refine HG.out.mono ?_); rintro e w1 ⟨b, rfl, hgr, hb⟩; have G1 := Lib.hid hgr; have B1 := Lib.hid (BA.out.trans (hb.mono BA.out.size)); have S1 := Lib.hid (XS.out.below hb); have T1 := Lib.hid (XT.out.below hb); have t0 := T1.out.cell (i := 0) rfl; have t1 := T1.out.cell (i := 1) rfl; clear hgr hb; cases b)
        | (go_at_call 10; (with_reducible refine (HU.out (by have := (G1.out (by first | rfl | trivial)).1; omega) _ B1.out).mono ?_); rintro e w2 ⟨AX, cX, rfl, hr, hb⟩; have RX := Lib.hid hr; have B2 := Lib.hid (B1.out.trans (hb.mono B1.out.size)); have S2 := Lib.hid (S1.out.below hb); have T2 := Lib.hid (T1.out.below hb); clear hr hb t0 t1)
        | (refine store_as61 rfl 24 _ _ rfl [.int .i64 0, .string ⟨#[]⟩, .int .i64 0, .slice none 0 0] [.int .i64 X.id, .string X.rm, .int .i64 X.nx, .slice AX X.l.length cX] rfl rfl rfl size24 (by simp [Value.oneCell']) ?_; intro w3 hx hb; have X3 := Lib.hid hx; have RX3 := Lib.hid (RX.out.below hb); have B3 := Lib.hid (B2.out.trans (hb.mono B2.out.size)); have S3 := Lib.hid (S2.out.below hb); have T3 := Lib.hid (T2.out.below hb); clear hx hb)
        | (go_at_call 11; (with_reducible refine (HV.out (by have := (G1.out (by first | rfl | trivial)).1; omega) _ B3.out).mono ?_); rintro e w4 ⟨AY, cY, rfl, hr, hb⟩; have RY := Lib.hid hr; have B4 := Lib.hid (B3.out.trans (hb.mono B3.out.size)); have S4 := Lib.hid (S3.out.below hb); have T4 := Lib.hid (T3.out.below hb); have X4 := Lib.hid (X3.out.below hb); have RX4 := Lib.hid (RX3.out.below hb); clear hr hb)
        | (refine store_as61 rfl 24 _ _ rfl [.int .i64 0, .string ⟨#[]⟩, .int .i64 0, .slice none 0 0] [.int .i64 X.id, .string X.rm, .int .i64 X.nx, .slice AY X.l.length cY] rfl rfl rfl size24 (by simp [Value.oneCell']) ?_; intro w5 hx hb; have Y5 := Lib.hid hx; have X5 := Lib.hid (X4.out.below hb); have RX5 := Lib.hid (RX4.out.below hb); have RY5 := Lib.hid (RY.out.below hb); have B5 := Lib.hid (B4.out.trans (hb.mono B4.out.size)); have S5 := Lib.hid (S4.out.below hb); have T5 := Lib.hid (T4.out.below hb); clear hx hb)
        | fail)
      · have HSm := Lib.hid (fun y (hb : Below w5.heap.size w5 y) => same12 X (.agg #[.int .i64 X.id, .string X.rm, .int .i64 X.nx, .slice AX X.l.length cX]) (.agg #[.int .i64 X.id, .string X.rm, .int .i64 X.nx, .slice AY X.l.length cY]) y ⟨AX, cX, rfl, RX5.out.below hb⟩ ⟨AY, cY, rfl, RY5.out.below hb⟩)
        have HR1 := Lib.hid (fun y (hb : Below w5.heap.size w5 y) => HR10.out y (B5.out.trans (hb.mono B5.out.size)))
        have HR2 := Lib.hid (fun y (hb : Below w5.heap.size w5 y) => HR20.out y (B5.out.trans (hb.mono B5.out.size)))
        clear HR10 HR20 HU HV HG X3 X4 RX3 RX4 S1 S2 S3 S4 T1 T2 T3 T4
        refine wp_region_held_drew (S := (fun y => Below w5.heap.size w5 y)) (by kernel_rfl) ((Below.refl w5.heap.size w5).drew) (fun hH0 => ?_)
        generalize hy0 : World.drew _ = y0 at hH0 ⊢
        have RB0 : Hid (Below w5.heap.size w5 y0) := Lib.hid hH0
        clear hy0
        refine wpAnyH_take (i := 0) (oi := ({ dst := some 41, op := Op.move (Operand.tmp 9), type := 28, pos := "law.go:49", after := #[], guard := none } : Oper)) (v := ?hv1) rfl (by kernel_rfl) (by kernel_rfl) (by kernel_rfl) (fun _ _ _ h => h) (Or.inl ⟨by rfl, ?hy1⟩) (by assumption) ?hr1
        case hy1 => (intro w hSw; (try dsimp only at hSw); go_simp; (try with_reducible rfl))
        try simp only [Act.put, List.setIfInBounds_toArray, List.set_cons_zero, List.set_cons_succ]
        refine wpAnyH_take (i := 1) (oi := ({ dst := some 42, op := Op.move (Operand.tmp 12), type := 28, pos := "law.go:49", after := #[], guard := none } : Oper)) (v := ?hv2) rfl (by kernel_rfl) (by kernel_rfl) (by kernel_rfl) (fun _ _ _ h => h) (Or.inl ⟨by rfl, ?hy2⟩) (by assumption) ?hr2
        case hy2 => (intro w hSw; (try dsimp only at hSw); go_simp; (try with_reducible rfl))
        try simp only [Act.put, List.setIfInBounds_toArray, List.set_cons_zero, List.set_cons_succ]
        refine wpAnyH_take (i := 2) (oi := ({ dst := some 43, op := Op.binOp BinOp.eql 28 (Operand.tmp 41) (Operand.tmp 42) 28, type := 4, pos := "law.go:49", after := #[{ on := 0, ground := Ground.data }, { on := 1, ground := Ground.data }], guard := none } : Oper)) (v := ?hv3) rfl (by kernel_rfl) (by kernel_rfl) (by kernel_rfl) (fun _ _ _ h => h) (Or.inl ⟨by rfl, ?hy3⟩) (by assumption) ?hr3
        case hy3 => (intro w hSw; (try dsimp only at hSw); go_simp; (try with_reducible rfl))
        try simp only [Act.put, List.setIfInBounds_toArray, List.set_cons_zero, List.set_cons_succ]
        refine wpAnyH_take (i := 3) (oi := ({ dst := some 44, op := Op.move (Operand.tmp 43), type := 4, pos := "law.go:49", after := #[{ on := 2, ground := Ground.data }], guard := none } : Oper)) (v := ?hv4) rfl (by kernel_rfl) (by kernel_rfl) (by kernel_rfl) (fun _ _ _ h => h) (Or.inl ⟨by rfl, ?hy4⟩) (by assumption) ?hr4
        case hy4 => (intro w hSw; (try dsimp only at hSw); go_simp; (try with_reducible rfl))
        try simp only [Act.put, List.setIfInBounds_toArray, List.set_cons_zero, List.set_cons_succ]
        refine wpAnyH_take (i := 4) (oi := ({ dst := some 45, op := Op.move (Operand.tmp 8), type := 3, pos := "law.go:49", after := #[{ on := 3, ground := Ground.guard }], guard := some (3, true) } : Oper)) (v := ?hv5) rfl (by kernel_rfl) (by kernel_rfl) (by kernel_rfl) (fun _ _ _ h => h) (Or.inl ⟨by rfl, ?hy5⟩) (by assumption) ?hr5
        case hy5 => (intro w hSw; (try dsimp only at hSw); go_simp; (try with_reducible rfl))
        try simp only [Act.put, List.setIfInBounds_toArray, List.set_cons_zero, List.set_cons_succ]
        refine wpAnyH_take (i := 5) (oi := ({ dst := some 46, op := Op.move (Operand.tmp 11), type := 3, pos := "law.go:49", after := #[{ on := 3, ground := Ground.guard }], guard := some (3, true) } : Oper)) (v := ?hv6) rfl (by kernel_rfl) (by kernel_rfl) (by kernel_rfl) (fun _ _ _ h => h) (Or.inl ⟨by rfl, ?hy6⟩) (by assumption) ?hr6
        case hy6 => (intro w hSw; (try dsimp only at hSw); go_simp; (try with_reducible rfl))
        try simp only [Act.put, List.setIfInBounds_toArray, List.set_cons_zero, List.set_cons_succ]
        refine wpAnyH_take (i := 6) (oi := ({ dst := some 47, op := Op.binOp BinOp.eql 3 (Operand.tmp 45) (Operand.tmp 46) 3, type := 4, pos := "law.go:49", after := #[{ on := 4, ground := Ground.data }, { on := 5, ground := Ground.data }, { on := 3, ground := Ground.guard }], guard := some (3, true) } : Oper)) (v := ?hv7) rfl (by kernel_rfl) (by kernel_rfl) (by kernel_rfl) (fun _ _ _ h => h) (Or.inl ⟨by rfl, ?hy7⟩) (by assumption) ?hr7
        case hy7 => (intro w hSw; (try dsimp only at hSw); go_simp; (try with_reducible rfl))
        try simp only [Act.put, List.setIfInBounds_toArray, List.set_cons_zero, List.set_cons_succ]
        refine wpAnyH_take (i := 7) (oi := ({ dst := some 48, op := Op.pick (Operand.tmp 44) (Operand.tmp 47) (Operand.const (Value.bool false)), type := 4, pos := "law.go:49", after := #[{ on := 3, ground := Ground.data }, { on := 6, ground := Ground.data }], guard := none } : Oper)) (v := ?hv8) rfl (by kernel_rfl) (by kernel_rfl) (by kernel_rfl) (fun _ _ _ h => h) (Or.inl ⟨by rfl, ?hy8⟩) (by assumption) ?hr8
        case hy8 => (intro w hSw; (try dsimp only at hSw); go_simp; (try with_reducible rfl))
        try simp only [Act.put, List.setIfInBounds_toArray, List.set_cons_zero, List.set_cons_succ]
        refine wpAnyH_take (i := 8) (oi := ({ dst := some 49, op := Op.move (Operand.tmp 48), type := 4, pos := "law.go:49", after := #[{ on := 7, ground := Ground.data }, { on := 3, ground := Ground.chain }], guard := none } : Oper)) (v := ?hv9) rfl (by kernel_rfl) (by kernel_rfl) (by kernel_rfl) (fun _ _ _ h => h) (Or.inl ⟨by rfl, ?hy9⟩) (by assumption) ?hr9
        case hy9 => (intro w hSw; (try dsimp only at hSw); go_simp; (try with_reducible rfl))
        try simp only [Act.put, List.setIfInBounds_toArray, List.set_cons_zero, List.set_cons_succ]
        refine wpAnyH_take (i := 9) (oi := ({ dst := some 50, op := Op.load 24 (Operand.tmp 7), type := 24, pos := "law.go:49", after := #[{ on := 8, ground := Ground.guard }], guard := some (8, true) } : Oper)) (v := .agg #[.int .i64 X.id, .string X.rm, .int .i64 X.nx, .slice AX X.l.length cX]) rfl (by kernel_rfl) (by kernel_rfl) (by kernel_rfl) (fun _ _ _ h => h) (yieldsIf_load_mid (by rfl) 24 _ rfl w2.heap.size 0 rfl [.int .i64 X.id, .string X.rm, .int .i64 X.nx, .slice AX X.l.length cX] _ (fun w0 hw0 => (X5.out.below hw0).range) Try.underlying24 rfl size24) (by assumption) ?_
        try simp only [Act.put, List.setIfInBounds_toArray, List.set_cons_zero, List.set_cons_succ]
        refine wpAnyH_take (i := 10) (oi := ({ dst := some 51, op := Op.load 24 (Operand.tmp 10), type := 24, pos := "law.go:49", after := #[{ on := 8, ground := Ground.guard }], guard := some (8, true) } : Oper)) (v := .agg #[.int .i64 X.id, .string X.rm, .int .i64 X.nx, .slice AY X.l.length cY]) rfl (by kernel_rfl) (by kernel_rfl) (by kernel_rfl) (fun _ _ _ h => h) (yieldsIf_load_mid (by rfl) 24 _ rfl w4.heap.size 0 rfl [.int .i64 X.id, .string X.rm, .int .i64 X.nx, .slice AY X.l.length cY] _ (fun w0 hw0 => (Y5.out.below hw0).range) Try.underlying24 rfl size24) (by assumption) ?_
        try simp only [Act.put, List.setIfInBounds_toArray, List.set_cons_zero, List.set_cons_succ]
        refine wpAnyH_ready (rs := [11]) (by kernel_rfl) (by simp) ?_
        refine AllReadyH.cons (o := ({ dst := some 52, op := Op.call { callee := Callee.value (Operand.func 12), args := #[Operand.tmp 50, Operand.tmp 51], argTypes := #[24, 24] }, type := 4, pos := "law.go:49", after := #[{ on := 9, ground := Ground.data }, { on := 10, ground := Ground.data }, { on := 8, ground := Ground.chain }, { on := 8, ground := Ground.guard }], guard := some (8, true) } : Oper)) rfl (fun KK hKK => ?_) AllReadyH.nil
        go_simp
        (with_reducible refine (HSm.out _ RB0.out).mono ?_)
        rintro e1 y1 ⟨rfl, hb⟩
        have RB1 := Lib.hid (RB0.out.trans (hb.mono RB0.out.size))
        clear hb
        refine hKK.out _ _ (RB1.out) (fun hH1 => ?_)
        clear hKK KK
        try simp only [Act.put, List.setIfInBounds_toArray, List.set_cons_zero, List.set_cons_succ]
        refine wpAnyH_take (i := 12) (oi := ({ dst := some 53, op := Op.pick (Operand.tmp 49) (Operand.tmp 52) (Operand.const (Value.bool false)), type := 4, pos := "law.go:49", after := #[{ on := 8, ground := Ground.data }, { on := 11, ground := Ground.data }], guard := none } : Oper)) (v := ?hv10) rfl (by kernel_rfl) (by kernel_rfl) (by kernel_rfl) (fun _ _ _ h => h) (Or.inl ⟨by rfl, ?hy10⟩) (by assumption) ?hr10
        case hy10 => (intro w hSw; (try dsimp only at hSw); go_simp; (try with_reducible rfl))
        try simp only [Act.put, List.setIfInBounds_toArray, List.set_cons_zero, List.set_cons_succ]
        refine wpAnyH_take (i := 13) (oi := ({ dst := some 54, op := Op.move (Operand.tmp 53), type := 4, pos := "law.go:49", after := #[{ on := 12, ground := Ground.data }, { on := 11, ground := Ground.chain }], guard := none } : Oper)) (v := ?hv11) rfl (by kernel_rfl) (by kernel_rfl) (by kernel_rfl) (fun _ _ _ h => h) (Or.inl ⟨by rfl, ?hy11⟩) (by assumption) ?hr11
        case hy11 => (intro w hSw; (try dsimp only at hSw); go_simp; (try with_reducible rfl))
        try simp only [Act.put, List.setIfInBounds_toArray, List.set_cons_zero, List.set_cons_succ]
        refine wpAnyH_take (i := 14) (oi := ({ dst := some 55, op := Op.load 24 (Operand.tmp 3), type := 24, pos := "law.go:49", after := #[{ on := 13, ground := Ground.guard }], guard := some (13, true) } : Oper)) (v := .agg #[.int .i64 S.id, .string S.rm, .int .i64 S.nx, .slice A S.l.length c]) rfl (by kernel_rfl) (by kernel_rfl) (by kernel_rfl) (fun _ _ _ h => h) (yieldsIf_load_mid (by rfl) 24 _ rfl w.heap.size 0 rfl [.int .i64 S.id, .string S.rm, .int .i64 S.nx, .slice A S.l.length c] _ (fun w0 hw0 => (S5.out.below hw0).range) Try.underlying24 rfl size24) (by assumption) ?_
        try simp only [Act.put, List.setIfInBounds_toArray, List.set_cons_zero, List.set_cons_succ]
        refine wpAnyH_take (i := 15) (oi := ({ dst := some 56, op := Op.fieldAddr 26 (Operand.tmp 4) 0, type := 0, pos := "law.go:49", after := #[{ on := 13, ground := Ground.guard }], guard := some (13, true) } : Oper)) (v := ?hv12) rfl (by kernel_rfl) (by kernel_rfl) (by kernel_rfl) (fun _ _ _ h => h) (Or.inl ⟨by rfl, ?hy12⟩) (by assumption) ?hr12
        case hy12 => (intro w hSw; (try dsimp only at hSw); go_simp; (try with_reducible rfl))
        try simp only [Act.put, List.setIfInBounds_toArray, List.set_cons_zero, List.set_cons_succ]
        refine wpAnyH_take (i := 16) (oi := ({ dst := some 57, op := Op.load 9 (Operand.tmp 56), type := 9, pos := "law.go:49", after := #[{ on := 15, ground := Ground.data }, { on := 13, ground := Ground.guard }], guard := some (13, true) } : Oper)) (v := .string yu) rfl (by kernel_rfl) (by kernel_rfl) (by kernel_rfl) (fun _ _ _ h => h) (Or.inl ⟨by rfl, fun w0 hw0 => by have q0 := (T5.out.below hw0).cell (i := 0) rfl; go_simp⟩) (by assumption) ?_
        try simp only [Act.put, List.setIfInBounds_toArray, List.set_cons_zero, List.set_cons_succ]
        refine wpAnyH_take (i := 17) (oi := ({ dst := some 58, op := Op.fieldAddr 26 (Operand.tmp 4) 1, type := 0, pos := "law.go:49", after := #[{ on := 13, ground := Ground.guard }], guard := some (13, true) } : Oper)) (v := ?hv13) rfl (by kernel_rfl) (by kernel_rfl) (by kernel_rfl) (fun _ _ _ h => h) (Or.inl ⟨by rfl, ?hy13⟩) (by assumption) ?hr13
        case hy13 => (intro w hSw; (try dsimp only at hSw); go_simp; (try with_reducible rfl))
        try simp only [Act.put, List.setIfInBounds_toArray, List.set_cons_zero, List.set_cons_succ]
        refine wpAnyH_take (i := 18) (oi := ({ dst := some 59, op := Op.load 9 (Operand.tmp 58), type := 9, pos := "law.go:49", after := #[{ on := 17, ground := Ground.data }, { on := 13, ground := Ground.guard }], guard := some (13, true) } : Oper)) (v := .string zd) rfl (by kernel_rfl) (by kernel_rfl) (by kernel_rfl) (fun _ _ _ h => h) (Or.inl ⟨by rfl, fun w0 hw0 => by have q0 := (T5.out.below hw0).cell (i := 1) rfl; go_simp⟩) (by assumption) ?_
        try simp only [Act.put, List.setIfInBounds_toArray, List.set_cons_zero, List.set_cons_succ]
        refine wpAnyH_take (i := 19) (oi := ({ dst := some 60, op := Op.move (Operand.tmp 2), type := 3, pos := "law.go:49", after := #[{ on := 13, ground := Ground.guard }], guard := some (13, true) } : Oper)) (v := ?hv14) rfl (by kernel_rfl) (by kernel_rfl) (by kernel_rfl) (fun _ _ _ h => h) (Or.inl ⟨by rfl, ?hy14⟩) (by assumption) ?hr14
        case hy14 => (intro w hSw; (try dsimp only at hSw); go_simp; (try with_reducible rfl))
        try simp only [Act.put, List.setIfInBounds_toArray, List.set_cons_zero, List.set_cons_succ]
        refine wpAnyH_take (i := 21) (oi := ({ dst := some 62, op := Op.load 24 (Operand.tmp 3), type := 24, pos := "law.go:49", after := #[{ on := 13, ground := Ground.guard }], guard := some (13, true) } : Oper)) (v := .agg #[.int .i64 S.id, .string S.rm, .int .i64 S.nx, .slice A S.l.length c]) rfl (by kernel_rfl) (by kernel_rfl) (by kernel_rfl) (fun _ _ _ h => h) (yieldsIf_load_mid (by rfl) 24 _ rfl w.heap.size 0 rfl [.int .i64 S.id, .string S.rm, .int .i64 S.nx, .slice A S.l.length c] _ (fun w0 hw0 => (S5.out.below hw0).range) Try.underlying24 rfl size24) (by assumption) ?_
        try simp only [Act.put, List.setIfInBounds_toArray, List.set_cons_zero, List.set_cons_succ]
        refine wpAnyH_take (i := 22) (oi := ({ dst := some 63, op := Op.fieldAddr 26 (Operand.tmp 4) 0, type := 0, pos := "law.go:49", after := #[{ on := 13, ground := Ground.guard }], guard := some (13, true) } : Oper)) (v := ?hv15) rfl (by kernel_rfl) (by kernel_rfl) (by kernel_rfl) (fun _ _ _ h => h) (Or.inl ⟨by rfl, ?hy15⟩) (by assumption) ?hr15
        case hy15 => (intro w hSw; (try dsimp only at hSw); go_simp; (try with_reducible rfl))
        try simp only [Act.put, List.setIfInBounds_toArray, List.set_cons_zero, List.set_cons_succ]
        refine wpAnyH_take (i := 23) (oi := ({ dst := some 64, op := Op.load 9 (Operand.tmp 63), type := 9, pos := "law.go:49", after := #[{ on := 22, ground := Ground.data }, { on := 13, ground := Ground.guard }], guard := some (13, true) } : Oper)) (v := .string yu) rfl (by kernel_rfl) (by kernel_rfl) (by kernel_rfl) (fun _ _ _ h => h) (Or.inl ⟨by rfl, fun w0 hw0 => by have q0 := (T5.out.below hw0).cell (i := 0) rfl; go_simp⟩) (by assumption) ?_
        try simp only [Act.put, List.setIfInBounds_toArray, List.set_cons_zero, List.set_cons_succ]
        refine wpAnyH_take (i := 24) (oi := ({ dst := some 65, op := Op.fieldAddr 26 (Operand.tmp 4) 1, type := 0, pos := "law.go:49", after := #[{ on := 13, ground := Ground.guard }], guard := some (13, true) } : Oper)) (v := ?hv16) rfl (by kernel_rfl) (by kernel_rfl) (by kernel_rfl) (fun _ _ _ h => h) (Or.inl ⟨by rfl, ?hy16⟩) (by assumption) ?hr16
        case hy16 => (intro w hSw; (try dsimp only at hSw); go_simp; (try with_reducible rfl))
        try simp only [Act.put, List.setIfInBounds_toArray, List.set_cons_zero, List.set_cons_succ]
        refine wpAnyH_take (i := 25) (oi := ({ dst := some 66, op := Op.load 9 (Operand.tmp 65), type := 9, pos := "law.go:49", after := #[{ on := 24, ground := Ground.data }, { on := 13, ground := Ground.guard }], guard := some (13, true) } : Oper)) (v := .string zd) rfl (by kernel_rfl) (by kernel_rfl) (by kernel_rfl) (fun _ _ _ h => h) (Or.inl ⟨by rfl, fun w0 hw0 => by have q0 := (T5.out.below hw0).cell (i := 1) rfl; go_simp⟩) (by assumption) ?_
        try simp only [Act.put, List.setIfInBounds_toArray, List.set_cons_zero, List.set_cons_succ]
        refine wpAnyH_take (i := 26) (oi := ({ dst := some 67, op := Op.move (Operand.tmp 2), type := 3, pos := "law.go:49", after := #[{ on := 13, ground := Ground.guard }], guard := some (13, true) } : Oper)) (v := ?hv17) rfl (by kernel_rfl) (by kernel_rfl) (by kernel_rfl) (fun _ _ _ h => h) (Or.inl ⟨by rfl, ?hy17⟩) (by assumption) ?hr17
        case hy17 => (intro w hSw; (try dsimp only at hSw); go_simp; (try with_reducible rfl))
        try simp only [Act.put, List.setIfInBounds_toArray, List.set_cons_zero, List.set_cons_succ]
        refine wpAnyH_ready (rs := [20]) (by kernel_rfl) (by simp) ?_
        refine AllReadyH.cons (o := ({ dst := some 61, op := Op.call { callee := Callee.value (Operand.func 13), args := #[Operand.tmp 55, Operand.tmp 57, Operand.tmp 59, Operand.tmp 60], argTypes := #[24, 9, 9, 3] }, type := 4, pos := "law.go:49", after := #[{ on := 14, ground := Ground.data }, { on := 16, ground := Ground.data }, { on := 18, ground := Ground.data }, { on := 19, ground := Ground.data }, { on := 13, ground := Ground.chain }, { on := 13, ground := Ground.guard }], guard := some (13, true) } : Oper)) rfl (fun KK hKK => ?_) AllReadyH.nil
        go_simp
        (with_reducible refine (HR1.out _ RB1.out).mono ?_)
        rintro e2 y2 ⟨rfl, hb⟩
        have RB2 := Lib.hid (RB1.out.trans (hb.mono RB1.out.size))
        clear hb
        refine hKK.out _ _ (RB2.out) (fun hH2 => ?_)
        clear hKK KK
        try simp only [Act.put, List.setIfInBounds_toArray, List.set_cons_zero, List.set_cons_succ]
        refine wpAnyH_ready (rs := [27]) (by kernel_rfl) (by simp) ?_
        refine AllReadyH.cons (o := ({ dst := some 68, op := Op.call { callee := Callee.value (Operand.func 14), args := #[Operand.tmp 62, Operand.tmp 64, Operand.tmp 66, Operand.tmp 67], argTypes := #[24, 9, 9, 3] }, type := 4, pos := "law.go:49", after := #[{ on := 21, ground := Ground.data }, { on := 23, ground := Ground.data }, { on := 25, ground := Ground.data }, { on := 26, ground := Ground.data }, { on := 20, ground := Ground.chain }, { on := 13, ground := Ground.guard }], guard := some (13, true) } : Oper)) rfl (fun KK hKK => ?_) AllReadyH.nil
        go_simp
        (with_reducible refine (HR2.out _ RB2.out).mono ?_)
        rintro e3 y3 ⟨rfl, hb⟩
        have RB3 := Lib.hid (RB2.out.trans (hb.mono RB2.out.size))
        clear hb
        refine hKK.out _ _ (RB3.out) (fun hH3 => ?_)
        clear hKK KK
        try simp only [Act.put, List.setIfInBounds_toArray, List.set_cons_zero, List.set_cons_succ]
        refine wpAnyH_take (i := 28) (oi := ({ dst := some 69, op := Op.binOp BinOp.eql 4 (Operand.tmp 61) (Operand.tmp 68) 4, type := 4, pos := "law.go:49", after := #[{ on := 20, ground := Ground.data }, { on := 27, ground := Ground.data }, { on := 13, ground := Ground.guard }], guard := some (13, true) } : Oper)) (v := ?hv18) rfl (by kernel_rfl) (by kernel_rfl) (by kernel_rfl) (fun _ _ _ h => h) (Or.inl ⟨by rfl, ?hy18⟩) (by assumption) ?hr18
        case hy18 => (intro w hSw; (try dsimp only at hSw); go_simp; (try with_reducible rfl))
        try simp only [Act.put, List.setIfInBounds_toArray, List.set_cons_zero, List.set_cons_succ]
        refine wpAnyH_take (i := 29) (oi := ({ dst := some 70, op := Op.pick (Operand.tmp 54) (Operand.tmp 69) (Operand.const (Value.bool false)), type := 4, pos := "law.go:49", after := #[{ on := 13, ground := Ground.data }, { on := 28, ground := Ground.data }], guard := none } : Oper)) (v := ?hv19) rfl (by kernel_rfl) (by kernel_rfl) (by kernel_rfl) (fun _ _ _ h => h) (Or.inl ⟨by rfl, ?hy19⟩) (by assumption) ?hr19
        case hy19 => (intro w hSw; (try dsimp only at hSw); go_simp; (try with_reducible rfl))
        try simp only [Act.put, List.setIfInBounds_toArray, List.set_cons_zero, List.set_cons_succ]
        refine wpAnyH_take (i := 30) (oi := ({ dst := some 71, op := Op.move (Operand.tmp 70), type := 4, pos := "law.go:49", after := #[{ on := 29, ground := Ground.data }, { on := 27, ground := Ground.chain }], guard := none } : Oper)) (v := ?hv20) rfl (by kernel_rfl) (by kernel_rfl) (by kernel_rfl) (fun _ _ _ h => h) (Or.inl ⟨by rfl, ?hy20⟩) (by assumption) ?hr20
        case hy20 => (intro w hSw; (try dsimp only at hSw); go_simp; (try with_reducible rfl))
        try simp only [Act.put, List.setIfInBounds_toArray, List.set_cons_zero, List.set_cons_succ]
        refine wpAnyH_ready (rs := [31]) (by kernel_rfl) (by simp) ?_
        refine AllReadyH.cons (o := ({ dst := some 72, op := Op.call { callee := Callee.value (Operand.func 15), args := #[], argTypes := #[] }, type := 4, pos := "law.go:49", after := #[{ on := 30, ground := Ground.chain }, { on := 30, ground := Ground.guard }], guard := some (30, true) } : Oper)) rfl (fun KK hKK => ?_) AllReadyH.nil
        go_simp
        (with_reducible refine (live15 _).mono ?_)
        rintro e4 y4 ⟨rfl, hb⟩
        have RB4 := Lib.hid (RB3.out.trans (hb.mono RB3.out.size))
        clear hb
        refine hKK.out _ _ (RB4.out) (fun hH4 => ?_)
        clear hKK KK
        try simp only [Act.put, List.setIfInBounds_toArray, List.set_cons_zero, List.set_cons_succ]
        refine wpAnyH_take (i := 32) (oi := ({ dst := some 73, op := Op.pick (Operand.tmp 71) (Operand.tmp 72) (Operand.const (Value.bool false)), type := 4, pos := "law.go:49", after := #[{ on := 30, ground := Ground.data }, { on := 31, ground := Ground.data }], guard := none } : Oper)) (v := ?hv21) rfl (by kernel_rfl) (by kernel_rfl) (by kernel_rfl) (fun _ _ _ h => h) (Or.inl ⟨by rfl, ?hy21⟩) (by assumption) ?hr21
        case hy21 => (intro w hSw; (try dsimp only at hSw); go_simp; (try with_reducible rfl))
        try simp only [Act.put, List.setIfInBounds_toArray, List.set_cons_zero, List.set_cons_succ]
        refine wpAnyH_take (i := 33) (oi := ({ dst := some 6, op := Op.assign (Operand.tmp 73), type := 4, pos := "law.go:49", after := #[{ on := 32, ground := Ground.data }, { on := 31, ground := Ground.chain }, { on := 0, ground := Ground.phase }, { on := 1, ground := Ground.phase }, { on := 2, ground := Ground.phase }, { on := 3, ground := Ground.phase }, { on := 4, ground := Ground.phase }, { on := 5, ground := Ground.phase }, { on := 6, ground := Ground.phase }, { on := 7, ground := Ground.phase }, { on := 8, ground := Ground.phase }, { on := 9, ground := Ground.phase }, { on := 10, ground := Ground.phase }, { on := 11, ground := Ground.phase }, { on := 12, ground := Ground.phase }, { on := 13, ground := Ground.phase }, { on := 14, ground := Ground.phase }, { on := 15, ground := Ground.phase }, { on := 16, ground := Ground.phase }, { on := 17, ground := Ground.phase }, { on := 18, ground := Ground.phase }, { on := 19, ground := Ground.phase }, { on := 20, ground := Ground.phase }, { on := 21, ground := Ground.phase }, { on := 22, ground := Ground.phase }, { on := 23, ground := Ground.phase }, { on := 24, ground := Ground.phase }, { on := 25, ground := Ground.phase }, { on := 26, ground := Ground.phase }, { on := 27, ground := Ground.phase }, { on := 28, ground := Ground.phase }, { on := 29, ground := Ground.phase }, { on := 30, ground := Ground.phase }, { on := 31, ground := Ground.phase }, { on := 32, ground := Ground.phase }], guard := none } : Oper)) (v := ?hv22) rfl (by kernel_rfl) (by kernel_rfl) (by kernel_rfl) (fun _ _ _ h => h) (Or.inl ⟨by rfl, ?hy22⟩) (by assumption) ?hr22
        case hy22 => (intro w hSw; (try dsimp only at hSw); go_simp; (try with_reducible rfl))
        try simp only [Act.put, List.setIfInBounds_toArray, List.set_cons_zero, List.set_cons_succ]
        refine wpAnyH_done (by kernel_rfl) ?_ _
        go_wp2
        go_ret
        exact ⟨rfl, B5.out.trans (RB4.out.mono B5.out.size)⟩
      · go_ret
        exact ⟨rfl, B1.out⟩
end Go.Proofs.Ytbkchcpfnoclhaa
