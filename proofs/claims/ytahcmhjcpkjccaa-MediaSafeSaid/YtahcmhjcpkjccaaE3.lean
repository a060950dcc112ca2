/- Media: the walks of MediaAdds, MediaExpires. -/
import Derived.Test.YtahcmhjcpkjccaaE2
import Derived.Deep.RegionHeld3
namespace Go.Proofs.Ytahcmhjcpkjccaa
open Go.RowKit
set_option linter.unusedVariables false
set_option linter.unusedSimpArgs false

theorem great_nb (A : Option Addr) (n c : Nat) (w : World) (hn : n ≤ 50) : Calls Try.prog 9 #[.slice A n c] w fun e w' => e = .returned (.bool false) ∧ Below w.heap.size w w' :=
  (great_no A n c w hn).mono fun e w' ⟨he, h⟩ => ⟨he, by rw [← h]; exact Below.refl _ _⟩
theorem bounds_i64 {z : Int} (h : (Lit.int .i64 z).wf = true) : -9223372036854775808 ≤ z ∧ z ≤ 9223372036854775807 := by
  have h' := h
  simp [Lit.wf, IntKind.min, IntKind.max, IntKind.signed, IntKind.bits] at h'
  omega
set_option maxRecDepth 100000 in
set_option maxHeartbeats 8000000 in
theorem expires_walk (A : Option Addr) (n c : Nat) (zs : List Rc) (o s t : ByteArray) (size now : Int) (h63 : now ≤ 9223372036854775807) (w : World) (h : Rcs w A n c zs) : Calls Try.prog 6 #[.slice A n c, .agg #[.string o, .string s, .string t, .int .i64 size, .int .i64 now]] w fun e w' => e = .returned (.bool true) ∧ Below w.heap.size w w' := by
  have B0 := Lib.hid ((Below.refl w.heap.size w).alloc (Nat.le_refl _) (.cells #[.string o, .string s, .string t, .int .i64 size, .int .i64 now] 40))
  have X0 := Lib.hid (blk_new w [.string o, .string s, .string t, .int .i64 size, .int .i64 now] 40)
  by_cases hn : n ≤ 50
  · have K7' := Lib.hid (fun u (hb : Below w.heap.size w u) => expire25 A n c zs o now size u (h.below hb) (by omega) h63)
    have K15' := Lib.hid (fun u (hb : Below w.heap.size w u) => rexpire26 A n c zs o now size u (h.below hb) (by omega) h63)
    rw [← pexp_eq] at K15'
    generalize pexpL zs o now size = zz at K7' K15'
    clear h
    go_enter Try.func6, Try.ntmps6
    go_upto_region 3 with (go_at_call 9; (with_reducible refine (great_nb A n c _ hn).mono ?_); rintro e w1 ⟨rfl, hb⟩; have X1 := Lib.hid (X0.out.below hb); have B1 := Lib.hid (B0.out.trans (hb.mono B0.out.size)); clear hb)
    have K7 := Lib.hid (fun y (hb : Below w1.heap.size w1 y) => K7'.out y (B1.out.trans (hb.mono B1.out.size)))
    have K15 := Lib.hid (fun y (hb : Below w1.heap.size w1 y) => K15'.out y (B1.out.trans (hb.mono B1.out.size)))
    clear K7' K15'
    refine wp_region_held_drew (S := (fun w0 => Below w1.heap.size w1 w0)) (by kernel_rfl) ((Below.refl _ _).drew) (fun hH0 => ?_)
    generalize w1.drew = y0 at hH0 ⊢
    have RB0 : Hid (Below w1.heap.size w1 y0) := Lib.hid hH0
    refine wpAnyH_take (i := 0) (oi := ({ dst := some 8, op := Op.move (Operand.tmp 0), type := 22, pos := "law.go:68", after := #[], guard := none } : Oper)) (v := ?hv1) rfl (by kernel_rfl) (by kernel_rfl) (by kernel_rfl) (fun _ _ _ h => h) (Or.inl ⟨by rfl, ?hy1⟩) (by assumption) ?hr1
    case hy1 => (intro w hSw; (try dsimp only at hSw); go_simp; (try with_reducible rfl))
    try simp only [Act.put, List.setIfInBounds_toArray, List.set_cons_zero, List.set_cons_succ]
    refine wpAnyH_take (i := 1) (oi := ({ dst := some 9, op := Op.fieldAddr 40 (Operand.tmp 3) 0, type := 0, pos := "law.go:68", after := #[], guard := none } : Oper)) (v := ?hv2) rfl (by kernel_rfl) (by kernel_rfl) (by kernel_rfl) (fun _ _ _ h => h) (Or.inl ⟨by rfl, ?hy2⟩) (by assumption) ?hr2
    case hy2 => (intro w hSw; (try dsimp only at hSw); go_simp; (try with_reducible rfl))
    try simp only [Act.put, List.setIfInBounds_toArray, List.set_cons_zero, List.set_cons_succ]
    refine wpAnyH_take (i := 2) (oi := ({ dst := some 10, op := Op.load 9 (Operand.tmp 9), type := 9, pos := "law.go:68", after := #[{ on := 1, ground := Ground.data }], guard := none } : Oper)) (v := .string o) rfl (by kernel_rfl) (by kernel_rfl) (by kernel_rfl) (fun _ _ _ h => h) (Or.inl ⟨by rfl, fun w0 hw0 => by have q0 := (X1.out.below hw0).cell (i := 0) rfl; go_simp⟩) (by assumption) ?_
    try simp only [Act.put, List.setIfInBounds_toArray, List.set_cons_zero, List.set_cons_succ]
    refine wpAnyH_take (i := 3) (oi := ({ dst := some 11, op := Op.fieldAddr 40 (Operand.tmp 3) 4, type := 0, pos := "law.go:68", after := #[], guard := none } : Oper)) (v := ?hv3) rfl (by kernel_rfl) (by kernel_rfl) (by kernel_rfl) (fun _ _ _ h => h) (Or.inl ⟨by rfl, ?hy3⟩) (by assumption) ?hr3
    case hy3 => (intro w hSw; (try dsimp only at hSw); go_simp; (try with_reducible rfl))
    try simp only [Act.put, List.setIfInBounds_toArray, List.set_cons_zero, List.set_cons_succ]
    refine wpAnyH_take (i := 4) (oi := ({ dst := some 12, op := Op.load 3 (Operand.tmp 11), type := 3, pos := "law.go:68", after := #[{ on := 3, ground := Ground.data }], guard := none } : Oper)) (v := .int .i64 now) rfl (by kernel_rfl) (by kernel_rfl) (by kernel_rfl) (fun _ _ _ h => h) (Or.inl ⟨by rfl, fun w0 hw0 => by have q0 := (X1.out.below hw0).cell (i := 4) rfl; go_simp⟩) (by assumption) ?_
    try simp only [Act.put, List.setIfInBounds_toArray, List.set_cons_zero, List.set_cons_succ]
    refine wpAnyH_take (i := 5) (oi := ({ dst := some 13, op := Op.fieldAddr 40 (Operand.tmp 3) 3, type := 0, pos := "law.go:68", after := #[], guard := none } : Oper)) (v := ?hv4) rfl (by kernel_rfl) (by kernel_rfl) (by kernel_rfl) (fun _ _ _ h => h) (Or.inl ⟨by rfl, ?hy4⟩) (by assumption) ?hr4
    case hy4 => (intro w hSw; (try dsimp only at hSw); go_simp; (try with_reducible rfl))
    try simp only [Act.put, List.setIfInBounds_toArray, List.set_cons_zero, List.set_cons_succ]
    refine wpAnyH_take (i := 6) (oi := ({ dst := some 14, op := Op.load 3 (Operand.tmp 13), type := 3, pos := "law.go:68", after := #[{ on := 5, ground := Ground.data }], guard := none } : Oper)) (v := .int .i64 size) rfl (by kernel_rfl) (by kernel_rfl) (by kernel_rfl) (fun _ _ _ h => h) (Or.inl ⟨by rfl, fun w0 hw0 => by have q0 := (X1.out.below hw0).cell (i := 3) rfl; go_simp⟩) (by assumption) ?_
    try simp only [Act.put, List.setIfInBounds_toArray, List.set_cons_zero, List.set_cons_succ]
    refine wpAnyH_take (i := 8) (oi := ({ dst := some 16, op := Op.move (Operand.tmp 0), type := 22, pos := "law.go:68", after := #[], guard := none } : Oper)) (v := ?hv5) rfl (by kernel_rfl) (by kernel_rfl) (by kernel_rfl) (fun _ _ _ h => h) (Or.inl ⟨by rfl, ?hy5⟩) (by assumption) ?hr5
    case hy5 => (intro w hSw; (try dsimp only at hSw); go_simp; (try with_reducible rfl))
    try simp only [Act.put, List.setIfInBounds_toArray, List.set_cons_zero, List.set_cons_succ]
    refine wpAnyH_take (i := 9) (oi := ({ dst := some 17, op := Op.fieldAddr 40 (Operand.tmp 3) 0, type := 0, pos := "law.go:68", after := #[], guard := none } : Oper)) (v := ?hv6) rfl (by kernel_rfl) (by kernel_rfl) (by kernel_rfl) (fun _ _ _ h => h) (Or.inl ⟨by rfl, ?hy6⟩) (by assumption) ?hr6
    case hy6 => (intro w hSw; (try dsimp only at hSw); go_simp; (try with_reducible rfl))
    try simp only [Act.put, List.setIfInBounds_toArray, List.set_cons_zero, List.set_cons_succ]
    refine wpAnyH_take (i := 10) (oi := ({ dst := some 18, op := Op.load 9 (Operand.tmp 17), type := 9, pos := "law.go:68", after := #[{ on := 9, ground := Ground.data }], guard := none } : Oper)) (v := .string o) rfl (by kernel_rfl) (by kernel_rfl) (by kernel_rfl) (fun _ _ _ h => h) (Or.inl ⟨by rfl, fun w0 hw0 => by have q0 := (X1.out.below hw0).cell (i := 0) rfl; go_simp⟩) (by assumption) ?_
    try simp only [Act.put, List.setIfInBounds_toArray, List.set_cons_zero, List.set_cons_succ]
    refine wpAnyH_take (i := 11) (oi := ({ dst := some 19, op := Op.fieldAddr 40 (Operand.tmp 3) 4, type := 0, pos := "law.go:68", after := #[], guard := none } : Oper)) (v := ?hv7) rfl (by kernel_rfl) (by kernel_rfl) (by kernel_rfl) (fun _ _ _ h => h) (Or.inl ⟨by rfl, ?hy7⟩) (by assumption) ?hr7
    case hy7 => (intro w hSw; (try dsimp only at hSw); go_simp; (try with_reducible rfl))
    try simp only [Act.put, List.setIfInBounds_toArray, List.set_cons_zero, List.set_cons_succ]
    refine wpAnyH_take (i := 12) (oi := ({ dst := some 20, op := Op.load 3 (Operand.tmp 19), type := 3, pos := "law.go:68", after := #[{ on := 11, ground := Ground.data }], guard := none } : Oper)) (v := .int .i64 now) rfl (by kernel_rfl) (by kernel_rfl) (by kernel_rfl) (fun _ _ _ h => h) (Or.inl ⟨by rfl, fun w0 hw0 => by have q0 := (X1.out.below hw0).cell (i := 4) rfl; go_simp⟩) (by assumption) ?_
    try simp only [Act.put, List.setIfInBounds_toArray, List.set_cons_zero, List.set_cons_succ]
    refine wpAnyH_take (i := 13) (oi := ({ dst := some 21, op := Op.fieldAddr 40 (Operand.tmp 3) 3, type := 0, pos := "law.go:68", after := #[], guard := none } : Oper)) (v := ?hv8) rfl (by kernel_rfl) (by kernel_rfl) (by kernel_rfl) (fun _ _ _ h => h) (Or.inl ⟨by rfl, ?hy8⟩) (by assumption) ?hr8
    case hy8 => (intro w hSw; (try dsimp only at hSw); go_simp; (try with_reducible rfl))
    try simp only [Act.put, List.setIfInBounds_toArray, List.set_cons_zero, List.set_cons_succ]
    refine wpAnyH_take (i := 14) (oi := ({ dst := some 22, op := Op.load 3 (Operand.tmp 21), type := 3, pos := "law.go:68", after := #[{ on := 13, ground := Ground.data }], guard := none } : Oper)) (v := .int .i64 size) rfl (by kernel_rfl) (by kernel_rfl) (by kernel_rfl) (fun _ _ _ h => h) (Or.inl ⟨by rfl, fun w0 hw0 => by have q0 := (X1.out.below hw0).cell (i := 3) rfl; go_simp⟩) (by assumption) ?_
    try simp only [Act.put, List.setIfInBounds_toArray, List.set_cons_zero, List.set_cons_succ]
    refine wpAnyH_ready (rs := [7]) (by kernel_rfl) (by simp) ?_
    refine AllReadyH.cons (o := ({ dst := some 15, op := Op.call { callee := Callee.value (Operand.func 25), args := #[Operand.tmp 8, Operand.tmp 10, Operand.tmp 12, Operand.tmp 14], argTypes := #[22, 9, 3, 3] }, type := 22, pos := "law.go:68", after := #[{ on := 0, ground := Ground.data }, { on := 2, ground := Ground.data }, { on := 4, ground := Ground.data }, { on := 6, ground := Ground.data }], guard := none } : Oper)) rfl (fun KK hKK => ?_) AllReadyH.nil
    go_simp
    (with_reducible refine (K7.out _ RB0.out).mono ?_)
    rintro e0 y1 ⟨A7, c7, rfl, hT, hb⟩
    have RB1 := Lib.hid (RB0.out.trans (hb.mono RB0.out.size))
    have T7 := Lib.hid hT
    clear hT
    clear hb
    refine hKK.out _ _ (RB1.out) (fun hH1 => ?_)
    clear hKK KK
    try simp only [Act.put, List.setIfInBounds_toArray, List.set_cons_zero, List.set_cons_succ]
    refine wpAnyH_ready (rs := [15]) (by kernel_rfl) (by simp) ?_
    refine AllReadyH.cons (o := ({ dst := some 23, op := Op.call { callee := Callee.value (Operand.func 26), args := #[Operand.tmp 16, Operand.tmp 18, Operand.tmp 20, Operand.tmp 22], argTypes := #[22, 9, 3, 3] }, type := 22, pos := "law.go:68", after := #[{ on := 8, ground := Ground.data }, { on := 10, ground := Ground.data }, { on := 12, ground := Ground.data }, { on := 14, ground := Ground.data }, { on := 7, ground := Ground.chain }], guard := none } : Oper)) rfl (fun KK hKK => ?_) AllReadyH.nil
    go_simp
    (with_reducible refine (K15.out _ RB1.out).mono ?_)
    rintro e0 y2 ⟨A8, c8, rfl, hT, hb⟩
    have RB2 := Lib.hid (RB1.out.trans (hb.mono RB1.out.size))
    have T8 := Lib.hid hT
    clear hT
    have T7b := Lib.hid (T7.out.below hb)
    clear hb
    refine hKK.out _ _ (RB2.out) (fun hH2 => ?_)
    clear hKK KK
    try simp only [Act.put, List.setIfInBounds_toArray, List.set_cons_zero, List.set_cons_succ]
    refine wpAnyH_ready (rs := [16]) (by kernel_rfl) (by simp) ?_
    refine AllReadyH.cons (o := ({ dst := some 24, op := Op.call { callee := Callee.value (Operand.func 20), args := #[Operand.tmp 15, Operand.tmp 23], argTypes := #[22, 22] }, type := 4, pos := "law.go:68", after := #[{ on := 7, ground := Ground.data }, { on := 15, ground := Ground.data }, { on := 15, ground := Ground.chain }], guard := none } : Oper)) rfl (fun KK hKK => ?_) AllReadyH.nil
    go_simp
    (with_reducible refine (same20 A7 A8 _ c7 c8 zz _ T7b.out T8.out).mono ?_)
    rintro e0 y3 ⟨rfl, hb⟩
    have RB3 := Lib.hid (RB2.out.trans (hb.mono RB2.out.size))
    clear hb
    refine hKK.out _ _ (RB3.out) (fun hH3 => ?_)
    clear hKK KK
    try simp only [Act.put, List.setIfInBounds_toArray, List.set_cons_zero, List.set_cons_succ]
    refine wpAnyH_take (i := 17) (oi := ({ dst := some 25, op := Op.move (Operand.tmp 24), type := 4, pos := "law.go:68", after := #[{ on := 16, ground := Ground.data }, { on := 16, ground := Ground.chain }], guard := none } : Oper)) (v := ?hv9) rfl (by kernel_rfl) (by kernel_rfl) (by kernel_rfl) (fun _ _ _ h => h) (Or.inl ⟨by rfl, ?hy9⟩) (by assumption) ?hr9
    case hy9 => (intro w hSw; (try dsimp only at hSw); go_simp; (try with_reducible rfl))
    try simp only [Act.put, List.setIfInBounds_toArray, List.set_cons_zero, List.set_cons_succ]
    refine wpAnyH_ready (rs := [18]) (by kernel_rfl) (by simp) ?_
    refine AllReadyH.cons (o := ({ dst := some 26, op := Op.call { callee := Callee.value (Operand.func 10), args := #[], argTypes := #[] }, type := 4, pos := "law.go:68", after := #[{ on := 17, ground := Ground.chain }, { on := 17, ground := Ground.guard }], guard := some (17, true) } : Oper)) rfl (fun KK hKK => ?_) AllReadyH.nil
    go_simp
    (with_reducible refine (awake10 _).mono ?_)
    rintro e0 y4 ⟨rfl, hb⟩
    have RB4 := Lib.hid (RB3.out.trans (hb.mono RB3.out.size))
    clear hb
    refine hKK.out _ _ (RB4.out) (fun hH4 => ?_)
    clear hKK KK
    try simp only [Act.put, List.setIfInBounds_toArray, List.set_cons_zero, List.set_cons_succ]
    refine wpAnyH_take (i := 19) (oi := ({ dst := some 27, op := Op.pick (Operand.tmp 25) (Operand.tmp 26) (Operand.const (Value.bool false)), type := 4, pos := "law.go:68", after := #[{ on := 17, ground := Ground.data }, { on := 18, ground := Ground.data }], guard := none } : Oper)) (v := ?hv10) rfl (by kernel_rfl) (by kernel_rfl) (by kernel_rfl) (fun _ _ _ h => h) (Or.inl ⟨by rfl, ?hy10⟩) (by assumption) ?hr10
    case hy10 => (intro w hSw; (try dsimp only at hSw); go_simp; (try with_reducible rfl))
    try simp only [Act.put, List.setIfInBounds_toArray, List.set_cons_zero, List.set_cons_succ]
    refine wpAnyH_take (i := 20) (oi := ({ dst := some 4, op := Op.assign (Operand.tmp 27), type := 4, pos := "law.go:68", after := #[{ on := 19, ground := Ground.data }, { on := 18, ground := Ground.chain }, { on := 0, ground := Ground.phase }, { on := 1, ground := Ground.phase }, { on := 2, ground := Ground.phase }, { on := 3, ground := Ground.phase }, { on := 4, ground := Ground.phase }, { on := 5, ground := Ground.phase }, { on := 6, ground := Ground.phase }, { on := 7, ground := Ground.phase }, { on := 8, ground := Ground.phase }, { on := 9, ground := Ground.phase }, { on := 10, ground := Ground.phase }, { on := 11, ground := Ground.phase }, { on := 12, ground := Ground.phase }, { on := 13, ground := Ground.phase }, { on := 14, ground := Ground.phase }, { on := 15, ground := Ground.phase }, { on := 16, ground := Ground.phase }, { on := 17, ground := Ground.phase }, { on := 18, ground := Ground.phase }, { on := 19, ground := Ground.phase }], guard := none } : Oper)) (v := ?hv11) rfl (by kernel_rfl) (by kernel_rfl) (by kernel_rfl) (fun _ _ _ h => h) (Or.inl ⟨by rfl, ?hy11⟩) (by assumption) ?hr11
    case hy11 => (intro w hSw; (try dsimp only at hSw); go_simp; (try with_reducible rfl))
    try simp only [Act.put, List.setIfInBounds_toArray, List.set_cons_zero, List.set_cons_succ]
    refine wpAnyH_done (by kernel_rfl) ?_ _
    go_wp2
    go_ret
    exact ⟨rfl, B1.out.trans (RB4.out.mono B1.out.size)⟩
  · clear h
    go_enter Try.func6, Try.ntmps6
    go_wp2_with (first
      | (go_at_call 9; (with_reducible refine (great_yes A n c _ hn).mono ?_); rintro e w1 ⟨rfl, rfl⟩)
      | (go_at_call 10; (with_reducible refine (awake10 _).mono ?_); rintro e w2 ⟨rfl, hb⟩; have B2 := Lib.hid hb; clear hb))
    go_ret
    exact ⟨rfl, B0.out.trans (B2.out.mono B0.out.size)⟩
set_option maxRecDepth 100000 in
set_option maxHeartbeats 8000000 in
theorem adds_walk (A : Option Addr) (n c : Nat) (zs : List Rc) (m : Rc) (hm : fitR m) (w : World) (h : Rcs w A n c zs) : Calls Try.prog 4 #[.slice A n c, .agg #[.string m.sv, .string m.nm, .int .i64 m.sz, .int .i64 m.tt, .int .i64 m.st]] w fun e w' => e = .returned (.bool true) ∧ Below w.heap.size w w' := by
  have B0 := Lib.hid ((Below.refl w.heap.size w).alloc (Nat.le_refl _) (.cells #[.string m.sv, .string m.nm, .int .i64 m.sz, .int .i64 m.tt, .int .i64 m.st] 26))
  have X0 := Lib.hid (blk_new w [.string m.sv, .string m.nm, .int .i64 m.sz, .int .i64 m.tt, .int .i64 m.st] 26)
  by_cases hn : n ≤ 50
  · have hm1 : m.sv.size ≤ 9223372036854775807 ∧ m.nm.size ≤ 9223372036854775807 := hm
    have HA1 := Lib.hid (fun u (hb : Below w.heap.size w u) => add18 A n c zs m u (h.below hb) hm (by omega))
    have HA2 := Lib.hid (fun u (hb : Below w.heap.size w u) => radd19 A n c zs m u (h.below hb) hm (by omega))
    have HQ1 := Lib.hid (fun u (hb : Below w.heap.size w u) => quar21 A n c zs m.sv m.nm u (h.below hb) hm1.1 hm1.2 (by omega))
    have HQ2 := Lib.hid (fun u (hb : Below w.heap.size w u) => rquar22 A n c zs m.sv m.nm u (h.below hb) hm1.1 hm1.2 (by omega))
    rw [← addL_eq] at HA2
    rw [← quarL_eq] at HQ2
    generalize addL zs m = zz at HA1 HA2
    generalize addE zs m = r at HA1 HA2
    generalize quarL zs m.sv m.nm = qq at HQ1 HQ2
    clear h hm1 hm
    go_enter Try.func4, Try.ntmps4
    go_upto_region 5 with (first
      | (go_at_call 9; (with_reducible refine (great_nb A n c _ hn).mono ?_); rintro e w1 ⟨rfl, hb⟩; have X1 := Lib.hid (X0.out.below hb); have B1 := Lib.hid (B0.out.trans (hb.mono B0.out.size));  have c0 := X1.out.cell (i := 0) rfl; have c1 := X1.out.cell (i := 1) rfl; have c2 := X1.out.cell (i := 2) rfl; have c3 := X1.out.cell (i := 3) rfl; have c4 := X1.out.cell (i := 4) rfl; clear hb)
      | (go_at_call 18; (with_reducible refine (HA1.out _ B1.out).mono ?_); rintro e w2 ⟨A2, c2, rfl, hT, hb⟩; have T20 := Lib.hid hT; have X2 := Lib.hid (X1.out.below hb); have B2 := Lib.hid (B1.out.trans (hb.mono B1.out.size));  have d0 := X2.out.cell (i := 0) rfl; have d1 := X2.out.cell (i := 1) rfl; have d2 := X2.out.cell (i := 2) rfl; have d3 := X2.out.cell (i := 3) rfl; have d4 := X2.out.cell (i := 4) rfl; clear hb hT)
      | (go_at_call 19; (with_reducible refine (HA2.out _ B2.out).mono ?_); rintro e w3 ⟨A3, c3, rfl, hT, hb⟩; have T3 := Lib.hid hT; have T2 := Lib.hid (T20.out.below hb); have X3 := Lib.hid (X2.out.below hb); have B3 := Lib.hid (B2.out.trans (hb.mono B2.out.size)); clear hb hT))
    have K14 := Lib.hid (fun y (hb : Below w3.heap.size w3 y) => HQ1.out y (B3.out.trans (hb.mono B3.out.size)))
    have K20 := Lib.hid (fun y (hb : Below w3.heap.size w3 y) => HQ2.out y (B3.out.trans (hb.mono B3.out.size)))
    clear HQ1 HQ2 HA1 HA2
    refine wp_region_held_drew (S := (fun w0 => Below w3.heap.size w3 w0)) (by kernel_rfl) ((Below.refl _ _).drew) (fun hH0 => ?_)
    generalize w3.drew = y0 at hH0 ⊢
    have RB0 : Hid (Below w3.heap.size w3 y0) := Lib.hid hH0
    refine wpAnyH_take (i := 0) (oi := ({ dst := some 24, op := Op.move (Operand.tmp 5), type := 22, pos := "law.go:50", after := #[], guard := none } : Oper)) (v := ?hv12) rfl (by kernel_rfl) (by kernel_rfl) (by kernel_rfl) (fun _ _ _ h => h) (Or.inl ⟨by rfl, ?hy12⟩) (by assumption) ?hr12
    case hy12 => (intro w hSw; (try dsimp only at hSw); go_simp; (try with_reducible rfl))
    try simp only [Act.put, List.setIfInBounds_toArray, List.set_cons_zero, List.set_cons_succ]
    refine wpAnyH_take (i := 1) (oi := ({ dst := some 25, op := Op.move (Operand.tmp 7), type := 22, pos := "law.go:50", after := #[], guard := none } : Oper)) (v := ?hv13) rfl (by kernel_rfl) (by kernel_rfl) (by kernel_rfl) (fun _ _ _ h => h) (Or.inl ⟨by rfl, ?hy13⟩) (by assumption) ?hr13
    case hy13 => (intro w hSw; (try dsimp only at hSw); go_simp; (try with_reducible rfl))
    try simp only [Act.put, List.setIfInBounds_toArray, List.set_cons_zero, List.set_cons_succ]
    refine wpAnyH_ready (rs := [2]) (by kernel_rfl) (by simp) ?_
    refine AllReadyH.cons (o := ({ dst := some 26, op := Op.call { callee := Callee.value (Operand.func 20), args := #[Operand.tmp 24, Operand.tmp 25], argTypes := #[22, 22] }, type := 4, pos := "law.go:50", after := #[{ on := 0, ground := Ground.data }, { on := 1, ground := Ground.data }], guard := none } : Oper)) rfl (fun KK hKK => ?_) AllReadyH.nil
    go_simp
    (with_reducible refine (same20 A2 A3 _ c2 c3 zz _ (T2.out.below RB0.out) (T3.out.below RB0.out)).mono ?_)
    rintro e0 y1 ⟨rfl, hb⟩
    have RB1 := Lib.hid (RB0.out.trans (hb.mono RB0.out.size))
    clear hb
    refine hKK.out _ _ (RB1.out) (fun hH1 => ?_)
    clear hKK KK
    try simp only [Act.put, List.setIfInBounds_toArray, List.set_cons_zero, List.set_cons_succ]
    refine wpAnyH_take (i := 3) (oi := ({ dst := some 27, op := Op.move (Operand.tmp 26), type := 4, pos := "law.go:50", after := #[{ on := 2, ground := Ground.data }, { on := 2, ground := Ground.chain }], guard := none } : Oper)) (v := ?hv14) rfl (by kernel_rfl) (by kernel_rfl) (by kernel_rfl) (fun _ _ _ h => h) (Or.inl ⟨by rfl, ?hy14⟩) (by assumption) ?hr14
    case hy14 => (intro w hSw; (try dsimp only at hSw); go_simp; (try with_reducible rfl))
    try simp only [Act.put, List.setIfInBounds_toArray, List.set_cons_zero, List.set_cons_succ]
    refine wpAnyH_take (i := 4) (oi := ({ dst := some 28, op := Op.move (Operand.tmp 6), type := 29, pos := "law.go:50", after := #[{ on := 3, ground := Ground.guard }], guard := some (3, true) } : Oper)) (v := ?hv15) rfl (by kernel_rfl) (by kernel_rfl) (by kernel_rfl) (fun _ _ _ h => h) (Or.inl ⟨by rfl, ?hy15⟩) (by assumption) ?hr15
    case hy15 => (intro w hSw; (try dsimp only at hSw); go_simp; (try with_reducible rfl))
    try simp only [Act.put, List.setIfInBounds_toArray, List.set_cons_zero, List.set_cons_succ]
    refine wpAnyH_take (i := 5) (oi := ({ dst := some 29, op := Op.move (Operand.tmp 8), type := 29, pos := "law.go:50", after := #[{ on := 3, ground := Ground.guard }], guard := some (3, true) } : Oper)) (v := ?hv16) rfl (by kernel_rfl) (by kernel_rfl) (by kernel_rfl) (fun _ _ _ h => h) (Or.inl ⟨by rfl, ?hy16⟩) (by assumption) ?hr16
    case hy16 => (intro w hSw; (try dsimp only at hSw); go_simp; (try with_reducible rfl))
    try simp only [Act.put, List.setIfInBounds_toArray, List.set_cons_zero, List.set_cons_succ]
    refine wpAnyH_take (i := 6) (oi := ({ dst := some 30, op := Op.binOp BinOp.eql 29 (Operand.tmp 28) (Operand.tmp 29) 29, type := 4, pos := "law.go:50", after := #[{ on := 4, ground := Ground.data }, { on := 5, ground := Ground.data }, { on := 3, ground := Ground.guard }], guard := some (3, true) } : Oper)) (v := ?hv17) rfl (by kernel_rfl) (by kernel_rfl) (by kernel_rfl) (fun _ _ _ h => h) (Or.inl ⟨by rfl, ?hy17⟩) (by assumption) ?hr17
    case hy17 => (intro w hSw; (try dsimp only at hSw); go_simp; (try with_reducible rfl))
    try simp only [Act.put, List.setIfInBounds_toArray, List.set_cons_zero, List.set_cons_succ]
    refine wpAnyH_take (i := 7) (oi := ({ dst := some 31, op := Op.pick (Operand.tmp 27) (Operand.tmp 30) (Operand.const (Value.bool false)), type := 4, pos := "law.go:50", after := #[{ on := 3, ground := Ground.data }, { on := 6, ground := Ground.data }], guard := none } : Oper)) (v := ?hv18) rfl (by kernel_rfl) (by kernel_rfl) (by kernel_rfl) (fun _ _ _ h => h) (Or.inl ⟨by rfl, ?hy18⟩) (by assumption) ?hr18
    case hy18 => (intro w hSw; (try dsimp only at hSw); go_simp; (try with_reducible rfl))
    try simp only [Act.put, List.setIfInBounds_toArray, List.set_cons_zero, List.set_cons_succ]
    refine wpAnyH_take (i := 8) (oi := ({ dst := some 32, op := Op.move (Operand.tmp 31), type := 4, pos := "law.go:50", after := #[{ on := 7, ground := Ground.data }, { on := 3, ground := Ground.chain }], guard := none } : Oper)) (v := ?hv19) rfl (by kernel_rfl) (by kernel_rfl) (by kernel_rfl) (fun _ _ _ h => h) (Or.inl ⟨by rfl, ?hy19⟩) (by assumption) ?hr19
    case hy19 => (intro w hSw; (try dsimp only at hSw); go_simp; (try with_reducible rfl))
    try simp only [Act.put, List.setIfInBounds_toArray, List.set_cons_zero, List.set_cons_succ]
    refine wpAnyH_take (i := 9) (oi := ({ dst := some 33, op := Op.move (Operand.tmp 0), type := 22, pos := "law.go:50", after := #[{ on := 8, ground := Ground.guard }], guard := some (8, true) } : Oper)) (v := ?hv20) rfl (by kernel_rfl) (by kernel_rfl) (by kernel_rfl) (fun _ _ _ h => h) (Or.inl ⟨by rfl, ?hy20⟩) (by assumption) ?hr20
    case hy20 => (intro w hSw; (try dsimp only at hSw); go_simp; (try with_reducible rfl))
    try simp only [Act.put, List.setIfInBounds_toArray, List.set_cons_zero, List.set_cons_succ]
    refine wpAnyH_take (i := 10) (oi := ({ dst := some 34, op := Op.fieldAddr 26 (Operand.tmp 3) 0, type := 0, pos := "law.go:50", after := #[{ on := 8, ground := Ground.guard }], guard := some (8, true) } : Oper)) (v := ?hv21) rfl (by kernel_rfl) (by kernel_rfl) (by kernel_rfl) (fun _ _ _ h => h) (Or.inl ⟨by rfl, ?hy21⟩) (by assumption) ?hr21
    case hy21 => (intro w hSw; (try dsimp only at hSw); go_simp; (try with_reducible rfl))
    try simp only [Act.put, List.setIfInBounds_toArray, List.set_cons_zero, List.set_cons_succ]
    refine wpAnyH_take (i := 11) (oi := ({ dst := some 35, op := Op.load 9 (Operand.tmp 34), type := 9, pos := "law.go:50", after := #[{ on := 10, ground := Ground.data }, { on := 8, ground := Ground.guard }], guard := some (8, true) } : Oper)) (v := .string m.sv) rfl (by kernel_rfl) (by kernel_rfl) (by kernel_rfl) (fun _ _ _ h => h) (Or.inl ⟨by rfl, fun w0 hw0 => by have q0 := (X3.out.below hw0).cell (i := 0) rfl; go_simp⟩) (by assumption) ?_
    try simp only [Act.put, List.setIfInBounds_toArray, List.set_cons_zero, List.set_cons_succ]
    refine wpAnyH_take (i := 12) (oi := ({ dst := some 36, op := Op.fieldAddr 26 (Operand.tmp 3) 1, type := 0, pos := "law.go:50", after := #[{ on := 8, ground := Ground.guard }], guard := some (8, true) } : Oper)) (v := ?hv22) rfl (by kernel_rfl) (by kernel_rfl) (by kernel_rfl) (fun _ _ _ h => h) (Or.inl ⟨by rfl, ?hy22⟩) (by assumption) ?hr22
    case hy22 => (intro w hSw; (try dsimp only at hSw); go_simp; (try with_reducible rfl))
    try simp only [Act.put, List.setIfInBounds_toArray, List.set_cons_zero, List.set_cons_succ]
    refine wpAnyH_take (i := 13) (oi := ({ dst := some 37, op := Op.load 9 (Operand.tmp 36), type := 9, pos := "law.go:50", after := #[{ on := 12, ground := Ground.data }, { on := 8, ground := Ground.guard }], guard := some (8, true) } : Oper)) (v := .string m.nm) rfl (by kernel_rfl) (by kernel_rfl) (by kernel_rfl) (fun _ _ _ h => h) (Or.inl ⟨by rfl, fun w0 hw0 => by have q0 := (X3.out.below hw0).cell (i := 1) rfl; go_simp⟩) (by assumption) ?_
    try simp only [Act.put, List.setIfInBounds_toArray, List.set_cons_zero, List.set_cons_succ]
    refine wpAnyH_take (i := 15) (oi := ({ dst := some 39, op := Op.move (Operand.tmp 0), type := 22, pos := "law.go:50", after := #[{ on := 8, ground := Ground.guard }], guard := some (8, true) } : Oper)) (v := ?hv23) rfl (by kernel_rfl) (by kernel_rfl) (by kernel_rfl) (fun _ _ _ h => h) (Or.inl ⟨by rfl, ?hy23⟩) (by assumption) ?hr23
    case hy23 => (intro w hSw; (try dsimp only at hSw); go_simp; (try with_reducible rfl))
    try simp only [Act.put, List.setIfInBounds_toArray, List.set_cons_zero, List.set_cons_succ]
    refine wpAnyH_take (i := 16) (oi := ({ dst := some 40, op := Op.fieldAddr 26 (Operand.tmp 3) 0, type := 0, pos := "law.go:50", after := #[{ on := 8, ground := Ground.guard }], guard := some (8, true) } : Oper)) (v := ?hv24) rfl (by kernel_rfl) (by kernel_rfl) (by kernel_rfl) (fun _ _ _ h => h) (Or.inl ⟨by rfl, ?hy24⟩) (by assumption) ?hr24
    case hy24 => (intro w hSw; (try dsimp only at hSw); go_simp; (try with_reducible rfl))
    try simp only [Act.put, List.setIfInBounds_toArray, List.set_cons_zero, List.set_cons_succ]
    refine wpAnyH_take (i := 17) (oi := ({ dst := some 41, op := Op.load 9 (Operand.tmp 40), type := 9, pos := "law.go:50", after := #[{ on := 16, ground := Ground.data }, { on := 8, ground := Ground.guard }], guard := some (8, true) } : Oper)) (v := .string m.sv) rfl (by kernel_rfl) (by kernel_rfl) (by kernel_rfl) (fun _ _ _ h => h) (Or.inl ⟨by rfl, fun w0 hw0 => by have q0 := (X3.out.below hw0).cell (i := 0) rfl; go_simp⟩) (by assumption) ?_
    try simp only [Act.put, List.setIfInBounds_toArray, List.set_cons_zero, List.set_cons_succ]
    refine wpAnyH_take (i := 18) (oi := ({ dst := some 42, op := Op.fieldAddr 26 (Operand.tmp 3) 1, type := 0, pos := "law.go:50", after := #[{ on := 8, ground := Ground.guard }], guard := some (8, true) } : Oper)) (v := ?hv25) rfl (by kernel_rfl) (by kernel_rfl) (by kernel_rfl) (fun _ _ _ h => h) (Or.inl ⟨by rfl, ?hy25⟩) (by assumption) ?hr25
    case hy25 => (intro w hSw; (try dsimp only at hSw); go_simp; (try with_reducible rfl))
    try simp only [Act.put, List.setIfInBounds_toArray, List.set_cons_zero, List.set_cons_succ]
    refine wpAnyH_take (i := 19) (oi := ({ dst := some 43, op := Op.load 9 (Operand.tmp 42), type := 9, pos := "law.go:50", after := #[{ on := 18, ground := Ground.data }, { on := 8, ground := Ground.guard }], guard := some (8, true) } : Oper)) (v := .string m.nm) rfl (by kernel_rfl) (by kernel_rfl) (by kernel_rfl) (fun _ _ _ h => h) (Or.inl ⟨by rfl, fun w0 hw0 => by have q0 := (X3.out.below hw0).cell (i := 1) rfl; go_simp⟩) (by assumption) ?_
    try simp only [Act.put, List.setIfInBounds_toArray, List.set_cons_zero, List.set_cons_succ]
    refine wpAnyH_ready (rs := [14]) (by kernel_rfl) (by simp) ?_
    refine AllReadyH.cons (o := ({ dst := some 38, op := Op.call { callee := Callee.value (Operand.func 21), args := #[Operand.tmp 33, Operand.tmp 35, Operand.tmp 37], argTypes := #[22, 9, 9] }, type := 22, pos := "law.go:50", after := #[{ on := 9, ground := Ground.data }, { on := 11, ground := Ground.data }, { on := 13, ground := Ground.data }, { on := 8, ground := Ground.chain }, { on := 8, ground := Ground.guard }], guard := some (8, true) } : Oper)) rfl (fun KK hKK => ?_) AllReadyH.nil
    go_simp
    (with_reducible refine (K14.out _ RB1.out).mono ?_)
    rintro e0 y2 ⟨A7, c7, rfl, hT, hb, _⟩
    have RB2 := Lib.hid (RB1.out.trans (hb.mono RB1.out.size))
    have T7 := Lib.hid hT
    clear hT
    clear hb
    refine hKK.out _ _ (RB2.out) (fun hH2 => ?_)
    clear hKK KK
    try simp only [Act.put, List.setIfInBounds_toArray, List.set_cons_zero, List.set_cons_succ]
    refine wpAnyH_ready (rs := [20]) (by kernel_rfl) (by simp) ?_
    refine AllReadyH.cons (o := ({ dst := some 44, op := Op.call { callee := Callee.value (Operand.func 22), args := #[Operand.tmp 39, Operand.tmp 41, Operand.tmp 43], argTypes := #[22, 9, 9] }, type := 22, pos := "law.go:50", after := #[{ on := 15, ground := Ground.data }, { on := 17, ground := Ground.data }, { on := 19, ground := Ground.data }, { on := 14, ground := Ground.chain }, { on := 8, ground := Ground.guard }], guard := some (8, true) } : Oper)) rfl (fun KK hKK => ?_) AllReadyH.nil
    go_simp
    (with_reducible refine (K20.out _ RB2.out).mono ?_)
    rintro e0 y3 ⟨A8, c8, rfl, hT, hb⟩
    have RB3 := Lib.hid (RB2.out.trans (hb.mono RB2.out.size))
    have T8 := Lib.hid hT
    clear hT
    have T7b := Lib.hid (T7.out.below hb)
    clear hb
    refine hKK.out _ _ (RB3.out) (fun hH3 => ?_)
    clear hKK KK
    try simp only [Act.put, List.setIfInBounds_toArray, List.set_cons_zero, List.set_cons_succ]
    refine wpAnyH_ready (rs := [21]) (by kernel_rfl) (by simp) ?_
    refine AllReadyH.cons (o := ({ dst := some 45, op := Op.call { callee := Callee.value (Operand.func 20), args := #[Operand.tmp 38, Operand.tmp 44], argTypes := #[22, 22] }, type := 4, pos := "law.go:50", after := #[{ on := 14, ground := Ground.data }, { on := 20, ground := Ground.data }, { on := 20, ground := Ground.chain }, { on := 8, ground := Ground.guard }], guard := some (8, true) } : Oper)) rfl (fun KK hKK => ?_) AllReadyH.nil
    go_simp
    (with_reducible refine (same20 A7 A8 _ c7 c8 qq _ T7b.out T8.out).mono ?_)
    rintro e0 y4 ⟨rfl, hb⟩
    have RB4 := Lib.hid (RB3.out.trans (hb.mono RB3.out.size))
    clear hb
    refine hKK.out _ _ (RB4.out) (fun hH4 => ?_)
    clear hKK KK
    try simp only [Act.put, List.setIfInBounds_toArray, List.set_cons_zero, List.set_cons_succ]
    refine wpAnyH_take (i := 22) (oi := ({ dst := some 46, op := Op.pick (Operand.tmp 32) (Operand.tmp 45) (Operand.const (Value.bool false)), type := 4, pos := "law.go:50", after := #[{ on := 8, ground := Ground.data }, { on := 21, ground := Ground.data }], guard := none } : Oper)) (v := ?hv26) rfl (by kernel_rfl) (by kernel_rfl) (by kernel_rfl) (fun _ _ _ h => h) (Or.inl ⟨by rfl, ?hy26⟩) (by assumption) ?hr26
    case hy26 => (intro w hSw; (try dsimp only at hSw); go_simp; (try with_reducible rfl))
    try simp only [Act.put, List.setIfInBounds_toArray, List.set_cons_zero, List.set_cons_succ]
    refine wpAnyH_take (i := 23) (oi := ({ dst := some 47, op := Op.move (Operand.tmp 46), type := 4, pos := "law.go:50", after := #[{ on := 22, ground := Ground.data }, { on := 21, ground := Ground.chain }], guard := none } : Oper)) (v := ?hv27) rfl (by kernel_rfl) (by kernel_rfl) (by kernel_rfl) (fun _ _ _ h => h) (Or.inl ⟨by rfl, ?hy27⟩) (by assumption) ?hr27
    case hy27 => (intro w hSw; (try dsimp only at hSw); go_simp; (try with_reducible rfl))
    try simp only [Act.put, List.setIfInBounds_toArray, List.set_cons_zero, List.set_cons_succ]
    refine wpAnyH_ready (rs := [24]) (by kernel_rfl) (by simp) ?_
    refine AllReadyH.cons (o := ({ dst := some 48, op := Op.call { callee := Callee.value (Operand.func 10), args := #[], argTypes := #[] }, type := 4, pos := "law.go:50", after := #[{ on := 23, ground := Ground.chain }, { on := 23, ground := Ground.guard }], guard := some (23, true) } : Oper)) rfl (fun KK hKK => ?_) AllReadyH.nil
    go_simp
    (with_reducible refine (awake10 _).mono ?_)
    rintro e0 y5 ⟨rfl, hb⟩
    have RB5 := Lib.hid (RB4.out.trans (hb.mono RB4.out.size))
    clear hb
    refine hKK.out _ _ (RB5.out) (fun hH5 => ?_)
    clear hKK KK
    try simp only [Act.put, List.setIfInBounds_toArray, List.set_cons_zero, List.set_cons_succ]
    refine wpAnyH_take (i := 25) (oi := ({ dst := some 49, op := Op.pick (Operand.tmp 47) (Operand.tmp 48) (Operand.const (Value.bool false)), type := 4, pos := "law.go:50", after := #[{ on := 23, ground := Ground.data }, { on := 24, ground := Ground.data }], guard := none } : Oper)) (v := ?hv28) rfl (by kernel_rfl) (by kernel_rfl) (by kernel_rfl) (fun _ _ _ h => h) (Or.inl ⟨by rfl, ?hy28⟩) (by assumption) ?hr28
    case hy28 => (intro w hSw; (try dsimp only at hSw); go_simp; (try with_reducible rfl))
    try simp only [Act.put, List.setIfInBounds_toArray, List.set_cons_zero, List.set_cons_succ]
    refine wpAnyH_take (i := 26) (oi := ({ dst := some 4, op := Op.assign (Operand.tmp 49), type := 4, pos := "law.go:50", after := #[{ on := 25, ground := Ground.data }, { on := 24, ground := Ground.chain }, { on := 0, ground := Ground.phase }, { on := 1, ground := Ground.phase }, { on := 2, ground := Ground.phase }, { on := 3, ground := Ground.phase }, { on := 4, ground := Ground.phase }, { on := 5, ground := Ground.phase }, { on := 6, ground := Ground.phase }, { on := 7, ground := Ground.phase }, { on := 8, ground := Ground.phase }, { on := 9, ground := Ground.phase }, { on := 10, ground := Ground.phase }, { on := 11, ground := Ground.phase }, { on := 12, ground := Ground.phase }, { on := 13, ground := Ground.phase }, { on := 14, ground := Ground.phase }, { on := 15, ground := Ground.phase }, { on := 16, ground := Ground.phase }, { on := 17, ground := Ground.phase }, { on := 18, ground := Ground.phase }, { on := 19, ground := Ground.phase }, { on := 20, ground := Ground.phase }, { on := 21, ground := Ground.phase }, { on := 22, ground := Ground.phase }, { on := 23, ground := Ground.phase }, { on := 24, ground := Ground.phase }, { on := 25, ground := Ground.phase }], guard := none } : Oper)) (v := ?hv29) rfl (by kernel_rfl) (by kernel_rfl) (by kernel_rfl) (fun _ _ _ h => h) (Or.inl ⟨by rfl, ?hy29⟩) (by assumption) ?hr29
    case hy29 => (intro w hSw; (try dsimp only at hSw); go_simp; (try with_reducible rfl))
    try simp only [Act.put, List.setIfInBounds_toArray, List.set_cons_zero, List.set_cons_succ]
    refine wpAnyH_done (by kernel_rfl) ?_ _
    go_wp2
    go_ret
    exact ⟨rfl, B3.out.trans (RB5.out.mono B3.out.size)⟩
  · clear h
    go_enter Try.func4, Try.ntmps4
    go_wp2_with (first
      | (go_at_call 9; (with_reducible refine (great_yes A n c _ hn).mono ?_); rintro e w1 ⟨rfl, rfl⟩)
      | (go_at_call 10; (with_reducible refine (awake10 _).mono ?_); rintro e w2 ⟨rfl, hb⟩; have B2 := Lib.hid hb; clear hb))
    go_ret
    exact ⟨rfl, B0.out.trans (B2.out.mono B0.out.size)⟩
end Go.Proofs.Ytahcmhjcpkjccaa
