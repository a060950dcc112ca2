/- Who types: the walk of TypingLasts. -/
import Derived.Test.YtjifohepbmaebaaT18
import Derived.Test.YtjifohepbmaebaaT20
import Derived.Deep.RegionHeld3
import Derived.Deep.Cut
namespace Go.Proofs.Ytjifohepbmaebaa
open Go.RowKit Go.Maps Go.Proofs
set_option linter.unusedVariables false
set_option linter.unusedSimpArgs false

set_option maxRecDepth 100000 in
set_option maxHeartbeats 8000000 in
theorem lasts_walk (A : Option Addr) (n c : Nat) (zs : List Tp) (s : ByteArray) (now span tt : Int) (hsz : s.size ≤ 9223372036854775807) (w : World) (h : Tps w A n c zs) : Calls Try.prog 7 #[.slice A n c, .agg #[.string s, .int .i64 now, .int .i64 span], .int .i64 tt] w fun e w' => e = .returned (.bool true) ∧ Below w.heap.size w w' := by
  have B0 := Lib.hid ((Below.refl w.heap.size w).alloc (Nat.le_refl _) (.cells #[.string s, .int .i64 now, .int .i64 span] 28))
  have X0 := Lib.hid (blk_new w [.string s, .int .i64 now, .int .i64 span] 28)
  have G := Lib.hid (great9 A n c zs (w.alloc (.cells #[.string s, .int .i64 now, .int .i64 span] 28)) (h.below B0.out))
  have H := Lib.hid h
  have LV := Lib.hid (fun u => live12 u)
  by_cases hs : 200 < s.size
  · have hs2 : (200 : Int) < (s.size : Int) := by omega
    clear h
    go_enter Try.func7, Try.ntmps7
    go_wp2_with (first
      | (go_at_call 9; (with_reducible refine (G.out).mono ?_); rintro e w1 ⟨⟨b, rfl, hq⟩, hb⟩; have X1 := Lib.hid (X0.out.below hb); have c01 := X1.out.cell (i := 0) rfl; have c11 := X1.out.cell (i := 1) rfl; have c21 := X1.out.cell (i := 2) rfl; have B1 := Lib.hid (B0.out.trans (hb.mono B0.out.size)); have Q := Lib.hid hq; clear hq; clear hb; cases b)
      | (go_at_call 12; (with_reducible refine (LV.out _).mono ?_); rintro e wl ⟨rfl, hb⟩; have BL := Lib.hid hb; clear hb))
    all_goals go_ret
    all_goals exact ⟨rfl, B1.out.trans (BL.out.mono B1.out.size)⟩
  · have hs2 : ¬ (200 : Int) < (s.size : Int) := by omega
    by_cases hr : chk zs n = 0
    · have HR := Lib.hid (right_of_chk (zs := zs) (by rw [h.len]; exact hr))
      have CL := Lib.hid (fun (hn : n ≤ 40) u (hb : Below w.heap.size w u) => check_right A n c zs u (h.below hb) HR.out (by omega))
      have CS := Lib.hid (fun (hn : n ≤ 40) u (hb : Below w.heap.size w u) => start13_any A n c zs s now span u (h.below hb) hsz (by omega))
      by_cases he : ert s now span = 0
      · have hb1 := (ert_zero he).2
        obtain ⟨r0, r1, r2, r3⟩ := hb1
        have ew : IntKind.i64.wrap (now + span) = now + span := IntWalk.i64_in _ (by omega)
        have HJ := Lib.hid (is_new HR.out he tt)
        have HV := Lib.hid (is_old (zs := zs) he tt)
        obtain ⟨zz, hzz⟩ : ∃ zz, zz = outT s now span zs := ⟨_, rfl⟩
        have LZ : Hid (zz.length ≤ n + 1) := Lib.hid (by rw [hzz, ← h.len]; exact outT_len _ _ _ _)
        rw [← hzz, he] at CS
        rw [← hzz] at HJ HV
        have HK := Lib.hid (is_gone (s := s) zz tt)
        obtain ⟨xs, hxs⟩ : ∃ xs, xs = zz.filter fun p => !pu s p := ⟨_, rfl⟩
        have LXs' : Hid (xs.length ≤ n + 1) := Lib.hid (by rw [hxs]; exact Nat.le_trans (List.length_filter_le _ _) LZ.out)
        have CP := Lib.hid (fun (hn : n ≤ 40) A' c' u (hT : Tps u A' zz.length c' zz) => stop16 A' _ c' zz s u hT (Nat.le_trans LZ.out (by omega)))
        rw [← hxs] at HK CP
        obtain ⟨js, hjs⟩ : ∃ js, js = asT (typ tt zz) := ⟨_, rfl⟩
        obtain ⟨vs, hvs⟩ : ∃ vs, vs = asT (typ tt zs) := ⟨_, rfl⟩
        obtain ⟨ks, hks⟩ : ∃ ks, ks = asT (typ tt xs) := ⟨_, rfl⟩
        have LJ : Hid (js.length ≤ n + 1) := Lib.hid (by rw [hjs]; exact Nat.le_trans (typ_len _ _) LZ.out)
        have LVs : Hid (vs.length ≤ n) := Lib.hid (by rw [hvs, ← h.len]; exact typ_len _ _)
        rw [← hjs] at HJ HV
        rw [← hvs] at HV
        rw [← hks] at HK
        obtain ⟨fs, hfs⟩ : ∃ fs, fs = js.filter fun p => !pu s p := ⟨_, rfl⟩
        have CW := Lib.hid (fun (hn : n ≤ 40) u (hb : Below w.heap.size w u) => hvs ▸ now21_t A n c zs tt u (h.below hb) (by omega))
        have CI := Lib.hid (fun (hn : n ≤ 40) A' c' u (hT : Tps u A' zz.length c' zz) => hjs ▸ now21_t A' _ c' zz tt u hT (Nat.le_trans LZ.out (by omega)))
        have HF : Hid (fs = vs.filter fun p => !pu s p) := Lib.hid (by rw [hfs]; exact HV.out)
        clear h hr hzz hxs hjs hvs hs HV he
        go_enter Try.func7, Try.ntmps7
        go_upto_region 7 with (first
          | (go_at_call 9; (with_reducible refine (G.out).mono ?_); rintro e w1 ⟨⟨b, rfl, hq⟩, hb⟩; have X1 := Lib.hid (X0.out.below hb); have c01 := X1.out.cell (i := 0) rfl; have c11 := X1.out.cell (i := 1) rfl; have c21 := X1.out.cell (i := 2) rfl; have B1 := Lib.hid (B0.out.trans (hb.mono B0.out.size)); have Q := Lib.hid hq; clear hq; clear hb; cases b)
          | (go_at_call 10; (with_reducible refine (CL.out (Q.out trivial) _ B1.out).mono ?_); rintro e w2 ⟨rfl, hb⟩; have X2 := Lib.hid (X1.out.below hb); have c02 := X2.out.cell (i := 0) rfl; have c12 := X2.out.cell (i := 1) rfl; have c22 := X2.out.cell (i := 2) rfl; have B2 := Lib.hid (B1.out.trans (hb.mono B1.out.size)); clear hb)
          | (go_at_call 13; (with_reducible refine (CS.out (Q.out trivial) _ B2.out).mono ?_); rintro e w3 ⟨A3, c3, rfl, hT, hb⟩; have X3 := Lib.hid (X2.out.below hb); have c03 := X3.out.cell (i := 0) rfl; have c13 := X3.out.cell (i := 1) rfl; have c23 := X3.out.cell (i := 2) rfl; have B3 := Lib.hid (B2.out.trans (hb.mono B2.out.size)); have T30 := Lib.hid hT; clear hT; clear hb)
          | (go_at_call 21; (with_reducible refine (CW.out (Q.out trivial) _ B3.out).mono ?_); rintro e w4 ⟨A4, c4, rfl, hT, hb⟩; have X4 := Lib.hid (X3.out.below hb); have B4 := Lib.hid (B3.out.trans (hb.mono B3.out.size)); have T40 := Lib.hid hT; have T31 := Lib.hid (T30.out.below hb); clear hT; clear hb)
          | (go_at_call 21; (with_reducible refine (CI.out (Q.out trivial) A3 c3 _ T31.out).mono ?_); rintro e w6 ⟨A5, c5, rfl, hT, hb⟩; have X6 := Lib.hid (X4.out.below hb); have B6 := Lib.hid (B4.out.trans (hb.mono B4.out.size)); have T5 := Lib.hid hT; have T4 := Lib.hid (T40.out.below hb); have T3 := Lib.hid (T31.out.below hb); clear hT hb)
          | (go_at_call 12; (with_reducible refine (LV.out _).mono ?_); rintro e wl ⟨rfl, hb⟩; have BL := Lib.hid hb; clear hb))
        all_goals first
          | (go_ret; exact ⟨rfl, B1.out.trans (BL.out.mono B1.out.size)⟩)
          | skip
        have hn40 : n ≤ 40 := Q.out trivial
        have LXs := Lib.hid (Nat.le_trans LXs'.out (show n + 1 ≤ 1000000 by omega))
        have hfs2 := HF.out
        have hJ2 := HJ.out
        have hK2 := HK.out
        have K3 : Hid (∀ y, Below w6.heap.size w6 y → Calls Try.prog 23 #[.slice A5 js.length c5, .string s] y fun e w' => e = .returned (.bool (decide (tt < now + span))) ∧ Below y.heap.size y w') := Lib.hid (fun y hb => by have := has23 A5 _ c5 js s y (T5.out.below hb); rw [hJ2] at this; exact this)
        have K16 : Hid (∀ y, Below w6.heap.size w6 y → Calls Try.prog 24 #[.slice A5 js.length c5, .string s] y (WoP y fs)) := Lib.hid (fun y hb => by have := without24 A5 _ c5 js s y (T5.out.below hb) (Nat.le_trans LJ.out (by omega)); rw [← hfs] at this; exact this)
        have K20 : Hid (∀ y, Below w6.heap.size w6 y → Calls Try.prog 24 #[.slice A4 vs.length c4, .string s] y (WoP y fs)) := Lib.hid (fun y hb => by have := without24 A4 _ c4 vs s y (T4.out.below hb) (Nat.le_trans LVs.out (by omega)); rw [← hfs2] at this; exact this)
        have K27 := Lib.hid (fun y (hb : Below w6.heap.size w6 y) => CP.out hn40 A3 c3 y (T3.out.below hb))
        have K32 : Hid (∀ A' c' y, Strs y A' ks.length (nms ks) → Calls Try.prog 23 #[.slice A' ks.length c', .string s] y fun e w' => e = .returned (.bool false) ∧ Below y.heap.size y w') := Lib.hid (fun A' c' y hS => by have := has23 A' _ c' ks s y hS; rw [hK2] at this; exact this)
        rw [hks] at K32
        clear hfs hfs2 hJ2 hK2 hks HJ HK HF
        refine wp_region_held_drew (S := (fun w0 => Below w6.heap.size w6 w0)) (by kernel_rfl) ((Below.refl _ _).drew) (fun hH0 => ?_)
        generalize w6.drew = y0 at hH0 ⊢
        have RB0 : Hid (Below w6.heap.size w6 y0) := Lib.hid hH0
        refine wpAnyH_take (i := 0) (oi := ({ dst := some 45, op := Op.move (Operand.tmp 10), type := 36, pos := "law.go:91", after := #[], guard := none } : Oper)) (v := ?hv1) rfl (by kernel_rfl) (by kernel_rfl) (by kernel_rfl) (fun _ _ _ h => h) (Or.inl ⟨by rfl, ?hy1⟩) (by assumption) ?hr1
        case hy1 => (intro w hSw; (try dsimp only at hSw); go_simp; (try with_reducible rfl))
        try simp only [Act.put, List.setIfInBounds_toArray, List.set_cons_zero, List.set_cons_succ]
        refine wpAnyH_take (i := 1) (oi := ({ dst := some 46, op := Op.fieldAddr 28 (Operand.tmp 4) 0, type := 0, pos := "law.go:91", after := #[], guard := none } : Oper)) (v := ?hv2) rfl (by kernel_rfl) (by kernel_rfl) (by kernel_rfl) (fun _ _ _ h => h) (Or.inl ⟨by rfl, ?hy2⟩) (by assumption) ?hr2
        case hy2 => (intro w hSw; (try dsimp only at hSw); go_simp; (try with_reducible rfl))
        try simp only [Act.put, List.setIfInBounds_toArray, List.set_cons_zero, List.set_cons_succ]
        refine wpAnyH_take (i := 2) (oi := ({ dst := some 47, op := Op.load 9 (Operand.tmp 46), type := 9, pos := "law.go:91", after := #[{ on := 1, ground := Ground.data }], guard := none } : Oper)) (v := .string s) rfl (by kernel_rfl) (by kernel_rfl) (by kernel_rfl) (fun _ _ _ h => h) (Or.inl ⟨by rfl, fun w0 hw0 => by have q0 := (X6.out.below hw0).cell (i := 0) rfl; go_simp⟩) (by assumption) ?_
        try simp only [Act.put, List.setIfInBounds_toArray, List.set_cons_zero, List.set_cons_succ]
        refine wpAnyH_take (i := 4) (oi := ({ dst := some 49, op := Op.move (Operand.tmp 2), type := 3, pos := "law.go:91", after := #[], guard := none } : Oper)) (v := ?hv3) rfl (by kernel_rfl) (by kernel_rfl) (by kernel_rfl) (fun _ _ _ h => h) (Or.inl ⟨by rfl, ?hy3⟩) (by assumption) ?hr3
        case hy3 => (intro w hSw; (try dsimp only at hSw); go_simp; (try with_reducible rfl))
        try simp only [Act.put, List.setIfInBounds_toArray, List.set_cons_zero, List.set_cons_succ]
        refine wpAnyH_take (i := 5) (oi := ({ dst := some 50, op := Op.fieldAddr 28 (Operand.tmp 4) 1, type := 0, pos := "law.go:91", after := #[], guard := none } : Oper)) (v := ?hv4) rfl (by kernel_rfl) (by kernel_rfl) (by kernel_rfl) (fun _ _ _ h => h) (Or.inl ⟨by rfl, ?hy4⟩) (by assumption) ?hr4
        case hy4 => (intro w hSw; (try dsimp only at hSw); go_simp; (try with_reducible rfl))
        try simp only [Act.put, List.setIfInBounds_toArray, List.set_cons_zero, List.set_cons_succ]
        refine wpAnyH_take (i := 6) (oi := ({ dst := some 51, op := Op.load 3 (Operand.tmp 50), type := 3, pos := "law.go:91", after := #[{ on := 5, ground := Ground.data }], guard := none } : Oper)) (v := .int .i64 now) rfl (by kernel_rfl) (by kernel_rfl) (by kernel_rfl) (fun _ _ _ h => h) (Or.inl ⟨by rfl, fun w0 hw0 => by have q0 := (X6.out.below hw0).cell (i := 1) rfl; go_simp⟩) (by assumption) ?_
        try simp only [Act.put, List.setIfInBounds_toArray, List.set_cons_zero, List.set_cons_succ]
        refine wpAnyH_take (i := 7) (oi := ({ dst := some 52, op := Op.fieldAddr 28 (Operand.tmp 4) 2, type := 0, pos := "law.go:91", after := #[], guard := none } : Oper)) (v := ?hv5) rfl (by kernel_rfl) (by kernel_rfl) (by kernel_rfl) (fun _ _ _ h => h) (Or.inl ⟨by rfl, ?hy5⟩) (by assumption) ?hr5
        case hy5 => (intro w hSw; (try dsimp only at hSw); go_simp; (try with_reducible rfl))
        try simp only [Act.put, List.setIfInBounds_toArray, List.set_cons_zero, List.set_cons_succ]
        refine wpAnyH_take (i := 8) (oi := ({ dst := some 53, op := Op.load 3 (Operand.tmp 52), type := 3, pos := "law.go:91", after := #[{ on := 7, ground := Ground.data }], guard := none } : Oper)) (v := .int .i64 span) rfl (by kernel_rfl) (by kernel_rfl) (by kernel_rfl) (fun _ _ _ h => h) (Or.inl ⟨by rfl, fun w0 hw0 => by have q0 := (X6.out.below hw0).cell (i := 2) rfl; go_simp⟩) (by assumption) ?_
        try simp only [Act.put, List.setIfInBounds_toArray, List.set_cons_zero, List.set_cons_succ]
        refine wpAnyH_take (i := 9) (oi := ({ dst := some 54, op := Op.binOp BinOp.add 3 (Operand.tmp 51) (Operand.tmp 53) 3, type := 3, pos := "law.go:91", after := #[{ on := 6, ground := Ground.data }, { on := 8, ground := Ground.data }], guard := none } : Oper)) (v := ?hv6) rfl (by kernel_rfl) (by kernel_rfl) (by kernel_rfl) (fun _ _ _ h => h) (Or.inl ⟨by rfl, ?hy6⟩) (by assumption) ?hr6
        case hy6 => (intro w hSw; (try dsimp only at hSw); go_simp; (try with_reducible rfl))
        try simp only [Act.put, List.setIfInBounds_toArray, List.set_cons_zero, List.set_cons_succ]
        refine wpAnyH_take (i := 10) (oi := ({ dst := some 55, op := Op.binOp BinOp.lss 3 (Operand.tmp 49) (Operand.tmp 54) 3, type := 4, pos := "law.go:91", after := #[{ on := 4, ground := Ground.data }, { on := 9, ground := Ground.data }], guard := none } : Oper)) (v := ?hv7) rfl (by kernel_rfl) (by kernel_rfl) (by kernel_rfl) (fun _ _ _ h => h) (Or.inl ⟨by rfl, ?hy7⟩) (by assumption) ?hr7
        case hy7 => (intro w hSw; (try dsimp only at hSw); go_simp; (try with_reducible rfl))
        try simp only [Act.put, List.setIfInBounds_toArray, List.set_cons_zero, List.set_cons_succ]
        refine wpAnyH_ready (rs := [3]) (by kernel_rfl) (by simp) ?_
        refine AllReadyH.cons (o := ({ dst := some 48, op := Op.call { callee := Callee.value (Operand.func 23), args := #[Operand.tmp 45, Operand.tmp 47], argTypes := #[36, 9] }, type := 4, pos := "law.go:91", after := #[{ on := 0, ground := Ground.data }, { on := 2, ground := Ground.data }], guard := none } : Oper)) rfl (fun KK hKK => ?_) AllReadyH.nil
        go_simp
        (with_reducible refine (K3.out _ RB0.out).mono ?_)
        rintro e0 y1 ⟨rfl, hb⟩
        have RB1 := Lib.hid (RB0.out.trans (hb.mono RB0.out.size))
        clear hb
        refine hKK.out _ _ (RB1.out) (fun hH1 => ?_)
        clear hKK KK
        try simp only [Act.put, List.setIfInBounds_toArray, List.set_cons_zero, List.set_cons_succ]
        refine wpAnyH_take (i := 11) (oi := ({ dst := some 56, op := Op.binOp BinOp.eql 4 (Operand.tmp 48) (Operand.tmp 55) 4, type := 4, pos := "law.go:91", after := #[{ on := 3, ground := Ground.data }, { on := 10, ground := Ground.data }], guard := none } : Oper)) (v := ?hv8) rfl (by kernel_rfl) (by kernel_rfl) (by kernel_rfl) (fun _ _ _ h => h) (Or.inl ⟨by rfl, ?hy8⟩) (by assumption) ?hr8
        case hy8 => (intro w hSw; (try dsimp only at hSw); go_simp; (try with_reducible rfl))
        try simp only [Act.put, List.setIfInBounds_toArray, List.set_cons_zero, List.set_cons_succ]
        refine wpAnyH_take (i := 12) (oi := ({ dst := some 57, op := Op.move (Operand.tmp 56), type := 4, pos := "law.go:91", after := #[{ on := 11, ground := Ground.data }, { on := 3, ground := Ground.chain }], guard := none } : Oper)) (v := ?hv9) rfl (by kernel_rfl) (by kernel_rfl) (by kernel_rfl) (fun _ _ _ h => h) (Or.inl ⟨by rfl, ?hy9⟩) (by assumption) ?hr9
        case hy9 => (intro w hSw; (try dsimp only at hSw); go_simp; (try with_reducible rfl))
        try simp only [Act.put, List.setIfInBounds_toArray, List.set_cons_zero, List.set_cons_succ]
        refine wpAnyH_take (i := 13) (oi := ({ dst := some 58, op := Op.move (Operand.tmp 10), type := 36, pos := "law.go:91", after := #[{ on := 12, ground := Ground.guard }], guard := some (12, true) } : Oper)) (v := ?hv10) rfl (by kernel_rfl) (by kernel_rfl) (by kernel_rfl) (fun _ _ _ h => h) (Or.inl ⟨by rfl, ?hy10⟩) (by assumption) ?hr10
        case hy10 => (intro w hSw; (try dsimp only at hSw); go_simp; (try with_reducible rfl))
        try simp only [Act.put, List.setIfInBounds_toArray, List.set_cons_zero, List.set_cons_succ]
        refine wpAnyH_take (i := 14) (oi := ({ dst := some 59, op := Op.fieldAddr 28 (Operand.tmp 4) 0, type := 0, pos := "law.go:91", after := #[{ on := 12, ground := Ground.guard }], guard := some (12, true) } : Oper)) (v := ?hv11) rfl (by kernel_rfl) (by kernel_rfl) (by kernel_rfl) (fun _ _ _ h => h) (Or.inl ⟨by rfl, ?hy11⟩) (by assumption) ?hr11
        case hy11 => (intro w hSw; (try dsimp only at hSw); go_simp; (try with_reducible rfl))
        try simp only [Act.put, List.setIfInBounds_toArray, List.set_cons_zero, List.set_cons_succ]
        refine wpAnyH_take (i := 15) (oi := ({ dst := some 60, op := Op.load 9 (Operand.tmp 59), type := 9, pos := "law.go:91", after := #[{ on := 14, ground := Ground.data }, { on := 12, ground := Ground.guard }], guard := some (12, true) } : Oper)) (v := .string s) rfl (by kernel_rfl) (by kernel_rfl) (by kernel_rfl) (fun _ _ _ h => h) (Or.inl ⟨by rfl, fun w0 hw0 => by have q0 := (X6.out.below hw0).cell (i := 0) rfl; go_simp⟩) (by assumption) ?_
        try simp only [Act.put, List.setIfInBounds_toArray, List.set_cons_zero, List.set_cons_succ]
        refine wpAnyH_take (i := 17) (oi := ({ dst := some 62, op := Op.move (Operand.tmp 9), type := 36, pos := "law.go:91", after := #[{ on := 12, ground := Ground.guard }], guard := some (12, true) } : Oper)) (v := ?hv12) rfl (by kernel_rfl) (by kernel_rfl) (by kernel_rfl) (fun _ _ _ h => h) (Or.inl ⟨by rfl, ?hy12⟩) (by assumption) ?hr12
        case hy12 => (intro w hSw; (try dsimp only at hSw); go_simp; (try with_reducible rfl))
        try simp only [Act.put, List.setIfInBounds_toArray, List.set_cons_zero, List.set_cons_succ]
        refine wpAnyH_take (i := 18) (oi := ({ dst := some 63, op := Op.fieldAddr 28 (Operand.tmp 4) 0, type := 0, pos := "law.go:91", after := #[{ on := 12, ground := Ground.guard }], guard := some (12, true) } : Oper)) (v := ?hv13) rfl (by kernel_rfl) (by kernel_rfl) (by kernel_rfl) (fun _ _ _ h => h) (Or.inl ⟨by rfl, ?hy13⟩) (by assumption) ?hr13
        case hy13 => (intro w hSw; (try dsimp only at hSw); go_simp; (try with_reducible rfl))
        try simp only [Act.put, List.setIfInBounds_toArray, List.set_cons_zero, List.set_cons_succ]
        refine wpAnyH_take (i := 19) (oi := ({ dst := some 64, op := Op.load 9 (Operand.tmp 63), type := 9, pos := "law.go:91", after := #[{ on := 18, ground := Ground.data }, { on := 12, ground := Ground.guard }], guard := some (12, true) } : Oper)) (v := .string s) rfl (by kernel_rfl) (by kernel_rfl) (by kernel_rfl) (fun _ _ _ h => h) (Or.inl ⟨by rfl, fun w0 hw0 => by have q0 := (X6.out.below hw0).cell (i := 0) rfl; go_simp⟩) (by assumption) ?_
        try simp only [Act.put, List.setIfInBounds_toArray, List.set_cons_zero, List.set_cons_succ]
        refine wpAnyH_ready (rs := [16]) (by kernel_rfl) (by simp) ?_
        refine AllReadyH.cons (o := ({ dst := some 61, op := Op.call { callee := Callee.value (Operand.func 24), args := #[Operand.tmp 58, Operand.tmp 60], argTypes := #[36, 9] }, type := 36, pos := "law.go:91", after := #[{ on := 13, ground := Ground.data }, { on := 15, ground := Ground.data }, { on := 12, ground := Ground.chain }, { on := 12, ground := Ground.guard }], guard := some (12, true) } : Oper)) rfl (fun KK hKK => ?_) AllReadyH.nil
        go_simp
        (with_reducible refine (K16.out _ RB1.out).mono ?_)
        rintro e0 y2 ⟨A16, c16, rfl, hS, hb⟩
        have RB2 := Lib.hid (RB1.out.trans (hb.mono RB1.out.size))
        have S16 := Lib.hid hS
        clear hS
        have RQ2 := RB2
        clear hb
        refine hKK.out _ _ (RB2.out) (fun hH2 => ?_)
        clear hKK KK
        try simp only [Act.put, List.setIfInBounds_toArray, List.set_cons_zero, List.set_cons_succ]
        refine wpAnyH_ready (rs := [20]) (by kernel_rfl) (by simp) ?_
        refine AllReadyH.cons (o := ({ dst := some 65, op := Op.call { callee := Callee.value (Operand.func 24), args := #[Operand.tmp 62, Operand.tmp 64], argTypes := #[36, 9] }, type := 36, pos := "law.go:91", after := #[{ on := 17, ground := Ground.data }, { on := 19, ground := Ground.data }, { on := 16, ground := Ground.chain }, { on := 12, ground := Ground.guard }], guard := some (12, true) } : Oper)) rfl (fun KK hKK => ?_) AllReadyH.nil
        go_simp
        (with_reducible refine (K20.out _ RB2.out).mono ?_)
        rintro e0 y3 ⟨A20, c20, rfl, hS, hb⟩
        have RB3 := Lib.hid (RB2.out.trans (hb.mono RB2.out.size))
        have S20 := Lib.hid hS
        clear hS
        have T16 := Lib.hid (S16.out.below hb)
        clear hb
        refine hKK.out _ _ (RB3.out) (fun hH3 => ?_)
        clear hKK KK
        try simp only [Act.put, List.setIfInBounds_toArray, List.set_cons_zero, List.set_cons_succ]
        refine wpAnyH_ready (rs := [21]) (by kernel_rfl) (by simp) ?_
        refine AllReadyH.cons (o := ({ dst := some 66, op := Op.call { callee := Callee.value (Operand.func 20), args := #[Operand.tmp 61, Operand.tmp 65], argTypes := #[36, 36] }, type := 4, pos := "law.go:91", after := #[{ on := 16, ground := Ground.data }, { on := 20, ground := Ground.data }, { on := 20, ground := Ground.chain }, { on := 12, ground := Ground.guard }], guard := some (12, true) } : Oper)) rfl (fun KK hKK => ?_) AllReadyH.nil
        go_simp
        (with_reducible refine (texts_same A16 A20 _ c16 c20 (nms fs) _ T16.out S20.out).mono ?_)
        rintro e0 y4 ⟨rfl, hb⟩
        have RB4 := Lib.hid (RB3.out.trans (hb.mono RB3.out.size))
        clear hb
        refine hKK.out _ _ (RB4.out) (fun hH4 => ?_)
        clear hKK KK
        try simp only [Act.put, List.setIfInBounds_toArray, List.set_cons_zero, List.set_cons_succ]
        refine wpAnyH_take (i := 22) (oi := ({ dst := some 67, op := Op.pick (Operand.tmp 57) (Operand.tmp 66) (Operand.const (Value.bool false)), type := 4, pos := "law.go:91", after := #[{ on := 12, ground := Ground.data }, { on := 21, ground := Ground.data }], guard := none } : Oper)) (v := ?hv14) rfl (by kernel_rfl) (by kernel_rfl) (by kernel_rfl) (fun _ _ _ h => h) (Or.inl ⟨by rfl, ?hy14⟩) (by assumption) ?hr14
        case hy14 => (intro w hSw; (try dsimp only at hSw); go_simp; (try with_reducible rfl))
        try simp only [Act.put, List.setIfInBounds_toArray, List.set_cons_zero, List.set_cons_succ]
        refine wpAnyH_take (i := 23) (oi := ({ dst := some 68, op := Op.move (Operand.tmp 67), type := 4, pos := "law.go:91", after := #[{ on := 22, ground := Ground.data }, { on := 21, ground := Ground.chain }], guard := none } : Oper)) (v := ?hv15) rfl (by kernel_rfl) (by kernel_rfl) (by kernel_rfl) (fun _ _ _ h => h) (Or.inl ⟨by rfl, ?hy15⟩) (by assumption) ?hr15
        case hy15 => (intro w hSw; (try dsimp only at hSw); go_simp; (try with_reducible rfl))
        try simp only [Act.put, List.setIfInBounds_toArray, List.set_cons_zero, List.set_cons_succ]
        refine wpAnyH_take (i := 24) (oi := ({ dst := some 69, op := Op.move (Operand.tmp 7), type := 22, pos := "law.go:91", after := #[{ on := 23, ground := Ground.guard }], guard := some (23, true) } : Oper)) (v := ?hv16) rfl (by kernel_rfl) (by kernel_rfl) (by kernel_rfl) (fun _ _ _ h => h) (Or.inl ⟨by rfl, ?hy16⟩) (by assumption) ?hr16
        case hy16 => (intro w hSw; (try dsimp only at hSw); go_simp; (try with_reducible rfl))
        try simp only [Act.put, List.setIfInBounds_toArray, List.set_cons_zero, List.set_cons_succ]
        refine wpAnyH_take (i := 25) (oi := ({ dst := some 70, op := Op.fieldAddr 28 (Operand.tmp 4) 0, type := 0, pos := "law.go:91", after := #[{ on := 23, ground := Ground.guard }], guard := some (23, true) } : Oper)) (v := ?hv17) rfl (by kernel_rfl) (by kernel_rfl) (by kernel_rfl) (fun _ _ _ h => h) (Or.inl ⟨by rfl, ?hy17⟩) (by assumption) ?hr17
        case hy17 => (intro w hSw; (try dsimp only at hSw); go_simp; (try with_reducible rfl))
        try simp only [Act.put, List.setIfInBounds_toArray, List.set_cons_zero, List.set_cons_succ]
        refine wpAnyH_take (i := 26) (oi := ({ dst := some 71, op := Op.load 9 (Operand.tmp 70), type := 9, pos := "law.go:91", after := #[{ on := 25, ground := Ground.data }, { on := 23, ground := Ground.guard }], guard := some (23, true) } : Oper)) (v := .string s) rfl (by kernel_rfl) (by kernel_rfl) (by kernel_rfl) (fun _ _ _ h => h) (Or.inl ⟨by rfl, fun w0 hw0 => by have q0 := (X6.out.below hw0).cell (i := 0) rfl; go_simp⟩) (by assumption) ?_
        try simp only [Act.put, List.setIfInBounds_toArray, List.set_cons_zero, List.set_cons_succ]
        refine wpAnyH_take (i := 28) (oi := ({ dst := some 73, op := Op.move (Operand.tmp 2), type := 3, pos := "law.go:91", after := #[{ on := 23, ground := Ground.guard }], guard := some (23, true) } : Oper)) (v := ?hv18) rfl (by kernel_rfl) (by kernel_rfl) (by kernel_rfl) (fun _ _ _ h => h) (Or.inl ⟨by rfl, ?hy18⟩) (by assumption) ?hr18
        case hy18 => (intro w hSw; (try dsimp only at hSw); go_simp; (try with_reducible rfl))
        try simp only [Act.put, List.setIfInBounds_toArray, List.set_cons_zero, List.set_cons_succ]
        refine wpAnyH_take (i := 30) (oi := ({ dst := some 75, op := Op.fieldAddr 28 (Operand.tmp 4) 0, type := 0, pos := "law.go:91", after := #[{ on := 23, ground := Ground.guard }], guard := some (23, true) } : Oper)) (v := ?hv19) rfl (by kernel_rfl) (by kernel_rfl) (by kernel_rfl) (fun _ _ _ h => h) (Or.inl ⟨by rfl, ?hy19⟩) (by assumption) ?hr19
        case hy19 => (intro w hSw; (try dsimp only at hSw); go_simp; (try with_reducible rfl))
        try simp only [Act.put, List.setIfInBounds_toArray, List.set_cons_zero, List.set_cons_succ]
        refine wpAnyH_take (i := 31) (oi := ({ dst := some 76, op := Op.load 9 (Operand.tmp 75), type := 9, pos := "law.go:91", after := #[{ on := 30, ground := Ground.data }, { on := 23, ground := Ground.guard }], guard := some (23, true) } : Oper)) (v := .string s) rfl (by kernel_rfl) (by kernel_rfl) (by kernel_rfl) (fun _ _ _ h => h) (Or.inl ⟨by rfl, fun w0 hw0 => by have q0 := (X6.out.below hw0).cell (i := 0) rfl; go_simp⟩) (by assumption) ?_
        try simp only [Act.put, List.setIfInBounds_toArray, List.set_cons_zero, List.set_cons_succ]
        refine wpAnyH_ready (rs := [27]) (by kernel_rfl) (by simp) ?_
        refine AllReadyH.cons (o := ({ dst := some 72, op := Op.call { callee := Callee.value (Operand.func 16), args := #[Operand.tmp 69, Operand.tmp 71], argTypes := #[22, 9] }, type := 22, pos := "law.go:91", after := #[{ on := 24, ground := Ground.data }, { on := 26, ground := Ground.data }, { on := 23, ground := Ground.chain }, { on := 23, ground := Ground.guard }], guard := some (23, true) } : Oper)) rfl (fun KK hKK => ?_) AllReadyH.nil
        go_simp
        (with_reducible refine (K27.out _ RB4.out).mono ?_)
        rintro e0 y5 ⟨A27, c27, rfl, hS, hb, _⟩
        have RB5 := Lib.hid (RB4.out.trans (hb.mono RB4.out.size))
        have S27 := Lib.hid hS
        clear hS
        clear hb
        refine hKK.out _ _ (RB5.out) (fun hH5 => ?_)
        clear hKK KK
        try simp only [Act.put, List.setIfInBounds_toArray, List.set_cons_zero, List.set_cons_succ]
        refine wpAnyH_ready (rs := [29]) (by kernel_rfl) (by simp) ?_
        refine AllReadyH.cons (o := ({ dst := some 74, op := Op.call { callee := Callee.value (Operand.func 21), args := #[Operand.tmp 72, Operand.tmp 73], argTypes := #[22, 3] }, type := 36, pos := "law.go:91", after := #[{ on := 27, ground := Ground.data }, { on := 28, ground := Ground.data }, { on := 27, ground := Ground.chain }, { on := 23, ground := Ground.guard }], guard := some (23, true) } : Oper)) rfl (fun KK hKK => ?_) AllReadyH.nil
        go_simp
        (with_reducible refine (now21_t A27 _ c27 xs tt _ S27.out LXs.out).mono ?_)
        rintro e0 y6 ⟨A29, c29, rfl, hS, hb⟩
        have RB6 := Lib.hid (RB5.out.trans (hb.mono RB5.out.size))
        have S29 := Lib.hid hS
        clear hS
        clear hb
        refine hKK.out _ _ (RB6.out) (fun hH6 => ?_)
        clear hKK KK
        try simp only [Act.put, List.setIfInBounds_toArray, List.set_cons_zero, List.set_cons_succ]
        refine wpAnyH_ready (rs := [32]) (by kernel_rfl) (by simp) ?_
        refine AllReadyH.cons (o := ({ dst := some 77, op := Op.call { callee := Callee.value (Operand.func 23), args := #[Operand.tmp 74, Operand.tmp 76], argTypes := #[36, 9] }, type := 4, pos := "law.go:91", after := #[{ on := 29, ground := Ground.data }, { on := 31, ground := Ground.data }, { on := 29, ground := Ground.chain }, { on := 23, ground := Ground.guard }], guard := some (23, true) } : Oper)) rfl (fun KK hKK => ?_) AllReadyH.nil
        go_simp
        (with_reducible refine (K32.out A29 c29 _ S29.out).mono ?_)
        rintro e0 y7 ⟨rfl, hb⟩
        have RB7 := Lib.hid (RB6.out.trans (hb.mono RB6.out.size))
        clear hb
        refine hKK.out _ _ (RB7.out) (fun hH7 => ?_)
        clear hKK KK
        try simp only [Act.put, List.setIfInBounds_toArray, List.set_cons_zero, List.set_cons_succ]
        refine wpAnyH_take (i := 33) (oi := ({ dst := some 78, op := Op.unOp UnOp.not 4 (Operand.tmp 77), type := 4, pos := "law.go:91", after := #[{ on := 32, ground := Ground.data }, { on := 23, ground := Ground.guard }], guard := some (23, true) } : Oper)) (v := ?hv20) rfl (by kernel_rfl) (by kernel_rfl) (by kernel_rfl) (fun _ _ _ h => h) (Or.inl ⟨by rfl, ?hy20⟩) (by assumption) ?hr20
        case hy20 => (intro w hSw; (try dsimp only at hSw); go_simp; (try with_reducible rfl))
        try simp only [Act.put, List.setIfInBounds_toArray, List.set_cons_zero, List.set_cons_succ]
        refine wpAnyH_take (i := 34) (oi := ({ dst := some 79, op := Op.pick (Operand.tmp 68) (Operand.tmp 78) (Operand.const (Value.bool false)), type := 4, pos := "law.go:91", after := #[{ on := 23, ground := Ground.data }, { on := 33, ground := Ground.data }], guard := none } : Oper)) (v := ?hv21) rfl (by kernel_rfl) (by kernel_rfl) (by kernel_rfl) (fun _ _ _ h => h) (Or.inl ⟨by rfl, ?hy21⟩) (by assumption) ?hr21
        case hy21 => (intro w hSw; (try dsimp only at hSw); go_simp; (try with_reducible rfl))
        try simp only [Act.put, List.setIfInBounds_toArray, List.set_cons_zero, List.set_cons_succ]
        refine wpAnyH_take (i := 35) (oi := ({ dst := some 80, op := Op.move (Operand.tmp 79), type := 4, pos := "law.go:91", after := #[{ on := 34, ground := Ground.data }, { on := 32, ground := Ground.chain }], guard := none } : Oper)) (v := ?hv22) rfl (by kernel_rfl) (by kernel_rfl) (by kernel_rfl) (fun _ _ _ h => h) (Or.inl ⟨by rfl, ?hy22⟩) (by assumption) ?hr22
        case hy22 => (intro w hSw; (try dsimp only at hSw); go_simp; (try with_reducible rfl))
        try simp only [Act.put, List.setIfInBounds_toArray, List.set_cons_zero, List.set_cons_succ]
        refine wpAnyH_ready (rs := [36]) (by kernel_rfl) (by simp) ?_
        refine AllReadyH.cons (o := ({ dst := some 81, op := Op.call { callee := Callee.value (Operand.func 12), args := #[], argTypes := #[] }, type := 4, pos := "law.go:91", after := #[{ on := 35, ground := Ground.chain }, { on := 35, ground := Ground.guard }], guard := some (35, true) } : Oper)) rfl (fun KK hKK => ?_) AllReadyH.nil
        go_simp
        (with_reducible refine (LV.out _).mono ?_)
        rintro e0 y8 ⟨rfl, hb⟩
        have RB8 := Lib.hid (RB7.out.trans (hb.mono RB7.out.size))
        clear hb
        refine hKK.out _ _ (RB8.out) (fun hH8 => ?_)
        clear hKK KK
        try simp only [Act.put, List.setIfInBounds_toArray, List.set_cons_zero, List.set_cons_succ]
        refine wpAnyH_take (i := 37) (oi := ({ dst := some 82, op := Op.pick (Operand.tmp 80) (Operand.tmp 81) (Operand.const (Value.bool false)), type := 4, pos := "law.go:91", after := #[{ on := 35, ground := Ground.data }, { on := 36, ground := Ground.data }], guard := none } : Oper)) (v := ?hv23) rfl (by kernel_rfl) (by kernel_rfl) (by kernel_rfl) (fun _ _ _ h => h) (Or.inl ⟨by rfl, ?hy23⟩) (by assumption) ?hr23
        case hy23 => (intro w hSw; (try dsimp only at hSw); go_simp; (try with_reducible rfl))
        try simp only [Act.put, List.setIfInBounds_toArray, List.set_cons_zero, List.set_cons_succ]
        refine wpAnyH_take (i := 38) (oi := ({ dst := some 6, op := Op.assign (Operand.tmp 82), type := 4, pos := "law.go:91", after := #[{ on := 37, ground := Ground.data }, { on := 36, ground := Ground.chain }, { on := 0, ground := Ground.phase }, { on := 1, ground := Ground.phase }, { on := 2, ground := Ground.phase }, { on := 3, ground := Ground.phase }, { on := 4, ground := Ground.phase }, { on := 5, ground := Ground.phase }, { on := 6, ground := Ground.phase }, { on := 7, ground := Ground.phase }, { on := 8, ground := Ground.phase }, { on := 9, ground := Ground.phase }, { on := 10, ground := Ground.phase }, { on := 11, ground := Ground.phase }, { on := 12, ground := Ground.phase }, { on := 13, ground := Ground.phase }, { on := 14, ground := Ground.phase }, { on := 15, ground := Ground.phase }, { on := 16, ground := Ground.phase }, { on := 17, ground := Ground.phase }, { on := 18, ground := Ground.phase }, { on := 19, ground := Ground.phase }, { on := 20, ground := Ground.phase }, { on := 21, ground := Ground.phase }, { on := 22, ground := Ground.phase }, { on := 23, ground := Ground.phase }, { on := 24, ground := Ground.phase }, { on := 25, ground := Ground.phase }, { on := 26, ground := Ground.phase }, { on := 27, ground := Ground.phase }, { on := 28, ground := Ground.phase }, { on := 29, ground := Ground.phase }, { on := 30, ground := Ground.phase }, { on := 31, ground := Ground.phase }, { on := 32, ground := Ground.phase }, { on := 33, ground := Ground.phase }, { on := 34, ground := Ground.phase }, { on := 35, ground := Ground.phase }, { on := 36, ground := Ground.phase }, { on := 37, ground := Ground.phase }], guard := none } : Oper)) (v := ?hv24) rfl (by kernel_rfl) (by kernel_rfl) (by kernel_rfl) (fun _ _ _ h => h) (Or.inl ⟨by rfl, ?hy24⟩) (by assumption) ?hr24
        case hy24 => (intro w hSw; (try dsimp only at hSw); go_simp; (try with_reducible rfl))
        try simp only [Act.put, List.setIfInBounds_toArray, List.set_cons_zero, List.set_cons_succ]
        refine wpAnyH_done (by kernel_rfl) ?_ _
        go_wp2
        go_ret
        exact ⟨rfl, B6.out.trans (RB8.out.mono B6.out.size)⟩
      · obtain ⟨zz, hzz⟩ : ∃ zz, zz = outT s now span zs := ⟨_, rfl⟩
        obtain ⟨r, hrr⟩ : ∃ r, r = ert s now span := ⟨_, rfl⟩
        rw [← hzz, ← hrr] at CS
        rw [← hrr] at he
        have hrb : (r != 0) = true := by simpa using he
        have hrc : (r == 0) = false := by simpa using he
        clear h hr hzz hrr HR hs he
        go_enter Try.func7, Try.ntmps7
        go_wp2_with (first
          | (go_at_call 9; (with_reducible refine (G.out).mono ?_); rintro e w1 ⟨⟨b, rfl, hq⟩, hb⟩; have X1 := Lib.hid (X0.out.below hb); have c01 := X1.out.cell (i := 0) rfl; have c11 := X1.out.cell (i := 1) rfl; have c21 := X1.out.cell (i := 2) rfl; have B1 := Lib.hid (B0.out.trans (hb.mono B0.out.size)); have Q := Lib.hid hq; clear hq; clear hb; cases b)
          | (go_at_call 10; (with_reducible refine (CL.out (Q.out trivial) _ B1.out).mono ?_); rintro e w2 ⟨rfl, hb⟩; have X2 := Lib.hid (X1.out.below hb); have c02 := X2.out.cell (i := 0) rfl; have c12 := X2.out.cell (i := 1) rfl; have c22 := X2.out.cell (i := 2) rfl; have B2 := Lib.hid (B1.out.trans (hb.mono B1.out.size)); clear hb)
          | (go_at_call 13; (with_reducible refine (CS.out (Q.out trivial) _ B2.out).mono ?_); rintro e w3 ⟨A3, c3, rfl, hT, hb⟩; have X3 := Lib.hid (X2.out.below hb); have c03 := X3.out.cell (i := 0) rfl; have c13 := X3.out.cell (i := 1) rfl; have c23 := X3.out.cell (i := 2) rfl; have B3 := Lib.hid (B2.out.trans (hb.mono B2.out.size)); clear hb)
          | (go_at_call 12; (with_reducible refine (LV.out _).mono ?_); rintro e wl ⟨rfl, hb⟩; have BL := Lib.hid hb; clear hb))
        all_goals go_ret
        all_goals first
          | exact ⟨rfl, B3.out.trans (BL.out.mono B3.out.size)⟩
          | exact ⟨rfl, B1.out.trans (BL.out.mono B1.out.size)⟩
    · obtain ⟨r, hrr⟩ : ∃ r, chk zs n = r := ⟨_, rfl⟩
      have CL := Lib.hid (fun (hn : n ≤ 40) u (hb : Below w.heap.size w u) => check_wrong A n c zs u (h.below hb) r hrr (by omega))
      rw [hrr] at hr
      clear h hrr
      have hrb : (r != 0) = true := by simpa using hr
      have hrc : (r == 0) = false := by simpa using hr
      clear hr
      go_enter Try.func7, Try.ntmps7
      go_wp2_with (first
        | (go_at_call 9; (with_reducible refine (G.out).mono ?_); rintro e w1 ⟨⟨b, rfl, hq⟩, hb⟩; have X1 := Lib.hid (X0.out.below hb); have c01 := X1.out.cell (i := 0) rfl; have c11 := X1.out.cell (i := 1) rfl; have c21 := X1.out.cell (i := 2) rfl; have B1 := Lib.hid (B0.out.trans (hb.mono B0.out.size)); have Q := Lib.hid hq; clear hq; clear hb; cases b)
        | (go_at_call 10; (with_reducible refine (CL.out (Q.out trivial) _ B1.out).mono ?_); rintro e w2 ⟨rfl, hb⟩; have X2 := Lib.hid (X1.out.below hb); have c02 := X2.out.cell (i := 0) rfl; have c12 := X2.out.cell (i := 1) rfl; have c22 := X2.out.cell (i := 2) rfl; have B2 := Lib.hid (B1.out.trans (hb.mono B1.out.size)); clear hb)
        | (go_at_call 12; (with_reducible refine (LV.out _).mono ?_); rintro e wl ⟨rfl, hb⟩; have BL := Lib.hid hb; clear hb))
      all_goals go_ret
      all_goals first
        | exact ⟨rfl, B2.out.trans (BL.out.mono B2.out.size)⟩
        | exact ⟨rfl, B1.out.trans (BL.out.mono B1.out.size)⟩
end Go.Proofs.Ytjifohepbmaebaa
