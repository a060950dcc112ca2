/- One-time keys: the walks of OnetimeChecks, OnetimeUploads, OnetimeClaims, OnetimeCounts. -/
import Derived.Test.YtkmocchikgmnbaaW22
import Derived.Deep.RegionHeld3
namespace Go.Proofs.Ytkmocchikgmnbaa
open Go.RowKit
set_option linter.unusedVariables false
set_option linter.unusedSimpArgs false

theorem outP_same {w0 w1 w' w'' : World} {E : Int} {zs ys ys' : List Rc} {A A' : Option Addr} {c c' : Nat} (h : OutP w0 E zs A c ys w') (h' : OutP w1 E zs A' c' ys' w'') : ys = ys' := by
  by_cases hE : E = 0
  · exact srt_unique (h.2.2.2.1 hE).2 (h'.2.2.2.1 hE).2 ((h.2.2.2.1 hE).1.trans (h'.2.2.2.1 hE).1.symm)
  · rw [h.2.2.2.2 hE, h'.2.2.2.2 hE]
theorem putL_len (zs : List Rc) (p : Rc) : (putL zs p).length ≤ zs.length + 1 := by
  unfold putL
  have := List.length_filter_le (fun q => !dev p.us p.dv q) zs
  simp
  omega
theorem outP_len {w0 w' : World} {E : Int} {zs ys : List Rc} {A : Option Addr} {c n : Nat} (h : OutP w0 E zs A c ys w') (hl : zs.length ≤ n) : ys.length ≤ n := by
  by_cases hE : E = 0
  · rw [(h.2.2.2.1 hE).1.length_eq]; exact hl
  · rw [h.2.2.2.2 hE]; exact Nat.zero_le _
set_option maxRecDepth 100000 in
set_option maxHeartbeats 4000000 in
theorem checks_walk (A : Option Addr) (n c : Nat) (zs : List Rc) (w : World) (h : Rcs w A n c zs) : Calls Try.prog 3 #[.slice A n c] w fun e w' => e = .returned (.bool true) ∧ Below w.heap.size w w' := by
  have B0 := Lib.hid (Below.refl w.heap.size w)
  by_cases hn : n ≤ 50
  · have C1 := Lib.hid (fun u (hb : Below w.heap.size w u) => check10 A n c zs u (h.below hb) (by omega))
    have C2 := Lib.hid (fun u (hb : Below w.heap.size w u) => check11 A n c zs u (h.below hb) (by omega))
    clear h
    generalize chk zs n = r at C1 C2
    go_enter Try.func3, Try.ntmps3
    go_wp2_with (first
      | (go_at_call 8; (with_reducible refine (great_no A n c _ hn).mono ?_); rintro e w1 ⟨rfl, hb⟩; have B1 := Lib.hid (B0.out.trans (hb.mono B0.out.size)); clear hb)
      | (go_at_call 10; (with_reducible refine (C1.out _ B1.out).mono ?_); rintro e w2 ⟨rfl, hb⟩; have B2 := Lib.hid (B1.out.trans (hb.mono B1.out.size)); clear hb)
      | (go_at_call 11; (with_reducible refine (C2.out _ B2.out).mono ?_); rintro e w3 ⟨rfl, hb⟩; have B3 := Lib.hid (B2.out.trans (hb.mono B2.out.size)); clear hb)
      | (go_at_call 9; (with_reducible refine (awake9 _).mono ?_); rintro e w4 ⟨rfl, hb⟩; have B4 := Lib.hid (B3.out.trans (hb.mono B3.out.size)); clear hb))
    go_ret
    exact ⟨rfl, B4.out⟩
  · clear h
    go_enter Try.func3, Try.ntmps3
    go_wp2_with (first
      | (go_at_call 8; (with_reducible refine (great_yes A n c _ hn).mono ?_); rintro e w1 ⟨rfl, hb⟩; have B1 := Lib.hid (B0.out.trans (hb.mono B0.out.size)); clear hb)
      | (go_at_call 9; (with_reducible refine (awake9 _).mono ?_); rintro e w4 ⟨rfl, hb⟩; have B4 := Lib.hid (B1.out.trans (hb.mono B1.out.size)); clear hb))
    go_ret
    exact ⟨rfl, B4.out⟩
set_option maxRecDepth 100000 in
set_option maxHeartbeats 4000000 in
theorem uploads_walk (A : Option Addr) (n c : Nat) (zs : List Rc) (u d : ByteArray) (k : Int) (hu : u.size ≤ 9223372036854775807) (hd : d.size ≤ 9223372036854775807) (w : World) (h : Rcs w A n c zs) : Calls Try.prog 4 #[.slice A n c, .agg #[.string u, .string d], .int .i64 k] w fun e w' => e = .returned (.bool true) ∧ Below w.heap.size w w' := by
  have B0 := Lib.hid ((Below.refl w.heap.size w).alloc (Nat.le_refl _) (.cells #[.string u, .string d] 28))
  have X0 := Lib.hid (blk_new w [.string u, .string d] 28)
  by_cases hn : n ≤ 50
  · have C1 := Lib.hid (fun v (hb : Below w.heap.size w v) => upload_any A n c zs u d k v (h.below hb) (by omega) hu hd)
    have C2 := Lib.hid (fun v (hb : Below w.heap.size w v) => rupload_any A n c zs u d k v (h.below hb) (by omega) hu hd)
    have HL := Lib.hid (h.len)
    clear h
    unfold RUp at C2
    have HQ := Lib.hid (HL.out ▸ putL_len zs (upP zs u d k))
    generalize putL zs (upP zs u d k) = qq at C1 C2 HQ
    generalize upE zs u d k = r at C1 C2
    go_enter Try.func4, Try.ntmps4
    go_wp2_with (first
      | (go_at_call 8; (with_reducible refine (great_no A n c _ hn).mono ?_); rintro e w1 ⟨rfl, hb⟩; have B1 := Lib.hid (B0.out.trans (hb.mono B0.out.size)); have X1 := Lib.hid (X0.out.below hb); have a0 := X1.out.cell (i := 0) rfl; have a1 := X1.out.cell (i := 1) rfl; clear hb)
      | (go_at_call 12; (with_reducible refine (C1.out _ B1.out).mono ?_); rintro e w2 ⟨A2, c2, ys2, rfl, ho⟩; have hb := ho.2.1; have B2 := Lib.hid (B1.out.trans (hb.mono B1.out.size)); have O2 := Lib.hid ho; have X2 := Lib.hid (X1.out.below hb); have d0 := X2.out.cell (i := 0) rfl; have d1 := X2.out.cell (i := 1) rfl; clear a0 a1 ho; clear hb)
      | (go_at_call 13; (with_reducible refine (C2.out _ B2.out).mono ?_); rintro e w3 ⟨A3, c3, ys3, rfl, ho⟩; have hb := ho.2.1; have B3 := Lib.hid (B2.out.trans (hb.mono B2.out.size)); have T2 := Lib.hid (O2.out.1.below hb); have T3 := Lib.hid ho.1; have LY := Lib.hid (outP_len O2.out HQ.out); obtain rfl := outP_same O2.out ho; clear d0 d1 ho O2; clear hb)
      | (go_at_call 14; (with_reducible refine (same_yes A2 A3 c2 c3 ys2 _ T2.out T3.out (Nat.le_trans LY.out (by omega))).mono ?_); rintro e w4 ⟨rfl, hb⟩; have B4 := Lib.hid (B3.out.trans (hb.mono B3.out.size)); clear hb)
      | (go_at_call 9; (with_reducible refine (awake9 _).mono ?_); rintro e w5 ⟨rfl, hb⟩; have B5 := Lib.hid (B4.out.trans (hb.mono B4.out.size)); clear hb))
    go_ret
    exact ⟨rfl, B5.out⟩
  · clear h
    go_enter Try.func4, Try.ntmps4
    go_wp2_with (first
      | (go_at_call 8; (with_reducible refine (great_yes A n c _ hn).mono ?_); rintro e w1 ⟨rfl, hb⟩; have B1 := Lib.hid (B0.out.trans (hb.mono B0.out.size)); clear hb)
      | (go_at_call 9; (with_reducible refine (awake9 _).mono ?_); rintro e w4 ⟨rfl, hb⟩; have B4 := Lib.hid (B1.out.trans (hb.mono B1.out.size)); clear hb))
    go_ret
    exact ⟨rfl, B4.out⟩
set_option maxRecDepth 100000 in
set_option maxHeartbeats 4000000 in
theorem claims_walk (A : Option Addr) (n c : Nat) (zs : List Rc) (u d : ByteArray) (hu : u.size ≤ 9223372036854775807) (hd : d.size ≤ 9223372036854775807) (w : World) (h : Rcs w A n c zs) : Calls Try.prog 5 #[.slice A n c, .agg #[.string u, .string d]] w fun e w' => e = .returned (.bool true) ∧ Below w.heap.size w w' := by
  have B0 := Lib.hid ((Below.refl w.heap.size w).alloc (Nat.le_refl _) (.cells #[.string u, .string d] 28))
  have X0 := Lib.hid (blk_new w [.string u, .string d] 28)
  by_cases hn : n ≤ 50
  · have C1 := Lib.hid (fun v (hb : Below w.heap.size w v) => claim_any A n c zs u d v (h.below hb) (by omega) hu hd)
    have C2 := Lib.hid (fun v (hb : Below w.heap.size w v) => rclaim_any A n c zs u d v (h.below hb) (by omega) hu hd)
    have HL := Lib.hid (h.len)
    clear h
    have HQ := Lib.hid (HL.out ▸ putL_len zs (clP zs u d))
    generalize putL zs (clP zs u d) = qq at C1 C2 HQ
    generalize clE zs u d = r at C1 C2
    generalize clK zs u d = kk at C1 C2
    go_enter Try.func5, Try.ntmps5
    go_wp2_with (first
      | (go_at_call 8; (with_reducible refine (great_no A n c _ hn).mono ?_); rintro e w1 ⟨rfl, hb⟩; have B1 := Lib.hid (B0.out.trans (hb.mono B0.out.size)); have X1 := Lib.hid (X0.out.below hb); have a0 := X1.out.cell (i := 0) rfl; have a1 := X1.out.cell (i := 1) rfl; clear hb)
      | (go_at_call 15; (with_reducible refine (C1.out _ B1.out).mono ?_); rintro e w2 ⟨A2, c2, ys2, rfl, ho⟩; have hb := ho.2.1; have B2 := Lib.hid (B1.out.trans (hb.mono B1.out.size)); have O2 := Lib.hid ho; have X2 := Lib.hid (X1.out.below hb); have d0 := X2.out.cell (i := 0) rfl; have d1 := X2.out.cell (i := 1) rfl; clear a0 a1 ho; clear hb)
      | (go_at_call 16; (with_reducible refine (C2.out _ B2.out).mono ?_); rintro e w3 ⟨A3, c3, ys3, rfl, ho⟩; have hb := ho.2.1; have B3 := Lib.hid (B2.out.trans (hb.mono B2.out.size)); have T2 := Lib.hid (O2.out.1.below hb); have T3 := Lib.hid ho.1; have LY := Lib.hid (outP_len O2.out HQ.out); obtain rfl := outP_same O2.out ho; clear d0 d1 ho O2; clear hb)
      | (go_at_call 14; (with_reducible refine (same_yes A2 A3 c2 c3 ys2 _ T2.out T3.out (Nat.le_trans LY.out (by omega))).mono ?_); rintro e w4 ⟨rfl, hb⟩; have B4 := Lib.hid (B3.out.trans (hb.mono B3.out.size)); clear hb)
      | (go_at_call 9; (with_reducible refine (awake9 _).mono ?_); rintro e w5 ⟨rfl, hb⟩; have B5 := Lib.hid (B4.out.trans (hb.mono B4.out.size)); clear hb))
    go_ret
    exact ⟨rfl, B5.out⟩
  · clear h
    go_enter Try.func5, Try.ntmps5
    go_wp2_with (first
      | (go_at_call 8; (with_reducible refine (great_yes A n c _ hn).mono ?_); rintro e w1 ⟨rfl, hb⟩; have B1 := Lib.hid (B0.out.trans (hb.mono B0.out.size)); clear hb)
      | (go_at_call 9; (with_reducible refine (awake9 _).mono ?_); rintro e w4 ⟨rfl, hb⟩; have B4 := Lib.hid (B1.out.trans (hb.mono B1.out.size)); clear hb))
    go_ret
    exact ⟨rfl, B4.out⟩
set_option maxRecDepth 100000 in
set_option maxHeartbeats 8000000 in
theorem counts_walk (A : Option Addr) (n c : Nat) (zs : List Rc) (u d : ByteArray) (x : Int) (w : World) (h : Rcs w A n c zs) : Calls Try.prog 6 #[.slice A n c, .agg #[.string u, .string d], .int .i64 x] w fun e w' => e = .returned (.bool true) ∧ Below w.heap.size w w' := by
  have B0 := Lib.hid ((Below.refl w.heap.size w).alloc (Nat.le_refl _) (.cells #[.string u, .string d] 28))
  have X0 := Lib.hid (blk_new w [.string u, .string d] 28)
  by_cases hn : n ≤ 50
  · have K5' := Lib.hid (fun v (hb : Below w.heap.size w v) => left_any A n c zs u d v (h.below hb) (by omega))
    have K11' := Lib.hid (fun v (hb : Below w.heap.size w v) => (rleft_any A n c zs u d v (h.below hb) (by omega)).mono fun e w' (hh : _ ∧ v = w') => (⟨hh.1, hh.2 ▸ Below.refl _ _⟩ : e = .returned (.int .i64 (lk zs u d).lf) ∧ Below v.heap.size v w'))
    have K16' := Lib.hid (fun v (hb : Below w.heap.size w v) => low_any A n c zs x v (h.below hb) (by omega))
    have K19' := Lib.hid (fun v (hb : Below w.heap.size w v) => rlow_any A n c zs x v (h.below hb) (by omega))
    have LZ := Lib.hid (Nat.le_trans (h.len ▸ List.length_filter_le (fun p => !lo x p) zs) (show n ≤ 1000000 by omega))
    generalize (zs.filter fun p => !lo x p) = zz at K16' K19' LZ
    generalize (lk zs u d).lf = r at K5' K11'
    clear h
    go_enter Try.func6, Try.ntmps6
    go_upto_region 3 with (go_at_call 8; (with_reducible refine (great_no A n c _ hn).mono ?_); rintro e w1 ⟨rfl, hb⟩; have X1 := Lib.hid (X0.out.below hb); have B1 := Lib.hid (B0.out.trans (hb.mono B0.out.size)); clear hb)
    have K5 := Lib.hid (fun y (hb : Below w1.heap.size w1 y) => K5'.out y (B1.out.trans (hb.mono B1.out.size)))
    have K11 := Lib.hid (fun y (hb : Below w1.heap.size w1 y) => K11'.out y (B1.out.trans (hb.mono B1.out.size)))
    have K16 := Lib.hid (fun y (hb : Below w1.heap.size w1 y) => K16'.out y (B1.out.trans (hb.mono B1.out.size)))
    have K19 := Lib.hid (fun y (hb : Below w1.heap.size w1 y) => K19'.out y (B1.out.trans (hb.mono B1.out.size)))
    clear K5' K11' K16' K19'
    refine wp_region_held_drew (S := (fun w0 => Below w1.heap.size w1 w0)) (by kernel_rfl) ((Below.refl _ _).drew) (fun hH0 => ?_)
    generalize w1.drew = y0 at hH0 ⊢
    have RB0 : Hid (Below w1.heap.size w1 y0) := Lib.hid hH0
    refine wpAnyH_take (i := 0) (oi := ({ dst := some 10, op := Op.move (Operand.tmp 0), type := 22, pos := "law.go:62", after := #[], guard := none } : Oper)) (v := ?hv1) rfl (by kernel_rfl) (by kernel_rfl) (by kernel_rfl) (fun _ _ _ h => h) (Or.inl ⟨by rfl, ?hy1⟩) (by assumption) ?hr1
    case hy1 => (intro w hSw; (try dsimp only at hSw); go_simp; (try with_reducible rfl))
    try simp only [Act.put, List.setIfInBounds_toArray, List.set_cons_zero, List.set_cons_succ]
    refine wpAnyH_take (i := 1) (oi := ({ dst := some 11, op := Op.fieldAddr 28 (Operand.tmp 4) 0, type := 0, pos := "law.go:62", after := #[], guard := none } : Oper)) (v := ?hv2) rfl (by kernel_rfl) (by kernel_rfl) (by kernel_rfl) (fun _ _ _ h => h) (Or.inl ⟨by rfl, ?hy2⟩) (by assumption) ?hr2
    case hy2 => (intro w hSw; (try dsimp only at hSw); go_simp; (try with_reducible rfl))
    try simp only [Act.put, List.setIfInBounds_toArray, List.set_cons_zero, List.set_cons_succ]
    refine wpAnyH_take (i := 2) (oi := ({ dst := some 12, op := Op.load 9 (Operand.tmp 11), type := 9, pos := "law.go:62", after := #[{ on := 1, ground := Ground.data }], guard := none } : Oper)) (v := .string u) rfl (by kernel_rfl) (by kernel_rfl) (by kernel_rfl) (fun _ _ _ h => h) (Or.inl ⟨by rfl, fun w0 hw0 => by have q0 := (X1.out.below hw0).cell (i := 0) rfl; go_simp⟩) (by assumption) ?_
    try simp only [Act.put, List.setIfInBounds_toArray, List.set_cons_zero, List.set_cons_succ]
    refine wpAnyH_take (i := 3) (oi := ({ dst := some 13, op := Op.fieldAddr 28 (Operand.tmp 4) 1, type := 0, pos := "law.go:62", after := #[], guard := none } : Oper)) (v := ?hv3) rfl (by kernel_rfl) (by kernel_rfl) (by kernel_rfl) (fun _ _ _ h => h) (Or.inl ⟨by rfl, ?hy3⟩) (by assumption) ?hr3
    case hy3 => (intro w hSw; (try dsimp only at hSw); go_simp; (try with_reducible rfl))
    try simp only [Act.put, List.setIfInBounds_toArray, List.set_cons_zero, List.set_cons_succ]
    refine wpAnyH_take (i := 4) (oi := ({ dst := some 14, op := Op.load 9 (Operand.tmp 13), type := 9, pos := "law.go:62", after := #[{ on := 3, ground := Ground.data }], guard := none } : Oper)) (v := .string d) rfl (by kernel_rfl) (by kernel_rfl) (by kernel_rfl) (fun _ _ _ h => h) (Or.inl ⟨by rfl, fun w0 hw0 => by have q0 := (X1.out.below hw0).cell (i := 1) rfl; go_simp⟩) (by assumption) ?_
    try simp only [Act.put, List.setIfInBounds_toArray, List.set_cons_zero, List.set_cons_succ]
    refine wpAnyH_take (i := 6) (oi := ({ dst := some 16, op := Op.move (Operand.tmp 0), type := 22, pos := "law.go:62", after := #[], guard := none } : Oper)) (v := ?hv4) rfl (by kernel_rfl) (by kernel_rfl) (by kernel_rfl) (fun _ _ _ h => h) (Or.inl ⟨by rfl, ?hy4⟩) (by assumption) ?hr4
    case hy4 => (intro w hSw; (try dsimp only at hSw); go_simp; (try with_reducible rfl))
    try simp only [Act.put, List.setIfInBounds_toArray, List.set_cons_zero, List.set_cons_succ]
    refine wpAnyH_take (i := 7) (oi := ({ dst := some 17, op := Op.fieldAddr 28 (Operand.tmp 4) 0, type := 0, pos := "law.go:62", after := #[], guard := none } : Oper)) (v := ?hv5) rfl (by kernel_rfl) (by kernel_rfl) (by kernel_rfl) (fun _ _ _ h => h) (Or.inl ⟨by rfl, ?hy5⟩) (by assumption) ?hr5
    case hy5 => (intro w hSw; (try dsimp only at hSw); go_simp; (try with_reducible rfl))
    try simp only [Act.put, List.setIfInBounds_toArray, List.set_cons_zero, List.set_cons_succ]
    refine wpAnyH_take (i := 8) (oi := ({ dst := some 18, op := Op.load 9 (Operand.tmp 17), type := 9, pos := "law.go:62", after := #[{ on := 7, ground := Ground.data }], guard := none } : Oper)) (v := .string u) rfl (by kernel_rfl) (by kernel_rfl) (by kernel_rfl) (fun _ _ _ h => h) (Or.inl ⟨by rfl, fun w0 hw0 => by have q0 := (X1.out.below hw0).cell (i := 0) rfl; go_simp⟩) (by assumption) ?_
    try simp only [Act.put, List.setIfInBounds_toArray, List.set_cons_zero, List.set_cons_succ]
    refine wpAnyH_take (i := 9) (oi := ({ dst := some 19, op := Op.fieldAddr 28 (Operand.tmp 4) 1, type := 0, pos := "law.go:62", after := #[], guard := none } : Oper)) (v := ?hv6) rfl (by kernel_rfl) (by kernel_rfl) (by kernel_rfl) (fun _ _ _ h => h) (Or.inl ⟨by rfl, ?hy6⟩) (by assumption) ?hr6
    case hy6 => (intro w hSw; (try dsimp only at hSw); go_simp; (try with_reducible rfl))
    try simp only [Act.put, List.setIfInBounds_toArray, List.set_cons_zero, List.set_cons_succ]
    refine wpAnyH_take (i := 10) (oi := ({ dst := some 20, op := Op.load 9 (Operand.tmp 19), type := 9, pos := "law.go:62", after := #[{ on := 9, ground := Ground.data }], guard := none } : Oper)) (v := .string d) rfl (by kernel_rfl) (by kernel_rfl) (by kernel_rfl) (fun _ _ _ h => h) (Or.inl ⟨by rfl, fun w0 hw0 => by have q0 := (X1.out.below hw0).cell (i := 1) rfl; go_simp⟩) (by assumption) ?_
    try simp only [Act.put, List.setIfInBounds_toArray, List.set_cons_zero, List.set_cons_succ]
    refine wpAnyH_ready (rs := [5]) (by kernel_rfl) (by simp) ?_
    refine AllReadyH.cons (o := ({ dst := some 15, op := Op.call { callee := Callee.value (Operand.func 17), args := #[Operand.tmp 10, Operand.tmp 12, Operand.tmp 14], argTypes := #[22, 9, 9] }, type := 3, pos := "law.go:62", after := #[{ on := 0, ground := Ground.data }, { on := 2, ground := Ground.data }, { on := 4, ground := Ground.data }], guard := none } : Oper)) rfl (fun KK hKK => ?_) AllReadyH.nil
    go_simp
    (with_reducible refine (K5.out _ RB0.out).mono ?_)
    rintro e0 y1 ⟨rfl, hb⟩
    have RB1 := Lib.hid (RB0.out.trans (hb.mono RB0.out.size))
    clear hb
    refine hKK.out _ _ (RB1.out) (fun hH1 => ?_)
    clear hKK KK
    try simp only [Act.put, List.setIfInBounds_toArray, List.set_cons_zero, List.set_cons_succ]
    refine wpAnyH_ready (rs := [11]) (by kernel_rfl) (by simp) ?_
    refine AllReadyH.cons (o := ({ dst := some 21, op := Op.call { callee := Callee.value (Operand.func 18), args := #[Operand.tmp 16, Operand.tmp 18, Operand.tmp 20], argTypes := #[22, 9, 9] }, type := 3, pos := "law.go:62", after := #[{ on := 6, ground := Ground.data }, { on := 8, ground := Ground.data }, { on := 10, ground := Ground.data }, { on := 5, ground := Ground.chain }], guard := none } : Oper)) rfl (fun KK hKK => ?_) AllReadyH.nil
    go_simp
    (with_reducible refine (K11.out _ RB1.out).mono ?_)
    rintro e0 y2 ⟨rfl, hb⟩
    have RB2 := Lib.hid (RB1.out.trans (hb.mono RB1.out.size))
    clear hb
    refine hKK.out _ _ (RB2.out) (fun hH2 => ?_)
    clear hKK KK
    try simp only [Act.put, List.setIfInBounds_toArray, List.set_cons_zero, List.set_cons_succ]
    refine wpAnyH_take (i := 12) (oi := ({ dst := some 22, op := Op.binOp BinOp.eql 3 (Operand.tmp 15) (Operand.tmp 21) 3, type := 4, pos := "law.go:62", after := #[{ on := 5, ground := Ground.data }, { on := 11, ground := Ground.data }], guard := none } : Oper)) (v := ?hv7) rfl (by kernel_rfl) (by kernel_rfl) (by kernel_rfl) (fun _ _ _ h => h) (Or.inl ⟨by rfl, ?hy7⟩) (by assumption) ?hr7
    case hy7 => (intro w hSw; (try dsimp only at hSw); go_simp; (try with_reducible rfl))
    try simp only [Act.put, List.setIfInBounds_toArray, List.set_cons_zero, List.set_cons_succ]
    refine wpAnyH_take (i := 13) (oi := ({ dst := some 23, op := Op.move (Operand.tmp 22), type := 4, pos := "law.go:62", after := #[{ on := 12, ground := Ground.data }, { on := 11, ground := Ground.chain }], guard := none } : Oper)) (v := ?hv8) rfl (by kernel_rfl) (by kernel_rfl) (by kernel_rfl) (fun _ _ _ h => h) (Or.inl ⟨by rfl, ?hy8⟩) (by assumption) ?hr8
    case hy8 => (intro w hSw; (try dsimp only at hSw); go_simp; (try with_reducible rfl))
    try simp only [Act.put, List.setIfInBounds_toArray, List.set_cons_zero, List.set_cons_succ]
    refine wpAnyH_take (i := 14) (oi := ({ dst := some 24, op := Op.move (Operand.tmp 0), type := 22, pos := "law.go:62", after := #[{ on := 13, ground := Ground.guard }], guard := some (13, true) } : Oper)) (v := ?hv9) rfl (by kernel_rfl) (by kernel_rfl) (by kernel_rfl) (fun _ _ _ h => h) (Or.inl ⟨by rfl, ?hy9⟩) (by assumption) ?hr9
    case hy9 => (intro w hSw; (try dsimp only at hSw); go_simp; (try with_reducible rfl))
    try simp only [Act.put, List.setIfInBounds_toArray, List.set_cons_zero, List.set_cons_succ]
    refine wpAnyH_take (i := 15) (oi := ({ dst := some 25, op := Op.move (Operand.tmp 2), type := 3, pos := "law.go:62", after := #[{ on := 13, ground := Ground.guard }], guard := some (13, true) } : Oper)) (v := ?hv10) rfl (by kernel_rfl) (by kernel_rfl) (by kernel_rfl) (fun _ _ _ h => h) (Or.inl ⟨by rfl, ?hy10⟩) (by assumption) ?hr10
    case hy10 => (intro w hSw; (try dsimp only at hSw); go_simp; (try with_reducible rfl))
    try simp only [Act.put, List.setIfInBounds_toArray, List.set_cons_zero, List.set_cons_succ]
    refine wpAnyH_take (i := 17) (oi := ({ dst := some 27, op := Op.move (Operand.tmp 0), type := 22, pos := "law.go:62", after := #[{ on := 13, ground := Ground.guard }], guard := some (13, true) } : Oper)) (v := ?hv11) rfl (by kernel_rfl) (by kernel_rfl) (by kernel_rfl) (fun _ _ _ h => h) (Or.inl ⟨by rfl, ?hy11⟩) (by assumption) ?hr11
    case hy11 => (intro w hSw; (try dsimp only at hSw); go_simp; (try with_reducible rfl))
    try simp only [Act.put, List.setIfInBounds_toArray, List.set_cons_zero, List.set_cons_succ]
    refine wpAnyH_take (i := 18) (oi := ({ dst := some 28, op := Op.move (Operand.tmp 2), type := 3, pos := "law.go:62", after := #[{ on := 13, ground := Ground.guard }], guard := some (13, true) } : Oper)) (v := ?hv12) rfl (by kernel_rfl) (by kernel_rfl) (by kernel_rfl) (fun _ _ _ h => h) (Or.inl ⟨by rfl, ?hy12⟩) (by assumption) ?hr12
    case hy12 => (intro w hSw; (try dsimp only at hSw); go_simp; (try with_reducible rfl))
    try simp only [Act.put, List.setIfInBounds_toArray, List.set_cons_zero, List.set_cons_succ]
    refine wpAnyH_ready (rs := [16]) (by kernel_rfl) (by simp) ?_
    refine AllReadyH.cons (o := ({ dst := some 26, op := Op.call { callee := Callee.value (Operand.func 19), args := #[Operand.tmp 24, Operand.tmp 25], argTypes := #[22, 3] }, type := 22, pos := "law.go:62", after := #[{ on := 14, ground := Ground.data }, { on := 15, ground := Ground.data }, { on := 13, ground := Ground.chain }, { on := 13, ground := Ground.guard }], guard := some (13, true) } : Oper)) rfl (fun KK hKK => ?_) AllReadyH.nil
    go_simp
    (with_reducible refine (K16.out _ RB2.out).mono ?_)
    rintro e0 y3 ⟨A7, c7, rfl, hT, hb, _⟩
    have RB3 := Lib.hid (RB2.out.trans (hb.mono RB2.out.size))
    have T7 := Lib.hid hT
    clear hT
    clear hb
    refine hKK.out _ _ (RB3.out) (fun hH3 => ?_)
    clear hKK KK
    try simp only [Act.put, List.setIfInBounds_toArray, List.set_cons_zero, List.set_cons_succ]
    refine wpAnyH_ready (rs := [19]) (by kernel_rfl) (by simp) ?_
    refine AllReadyH.cons (o := ({ dst := some 29, op := Op.call { callee := Callee.value (Operand.func 20), args := #[Operand.tmp 27, Operand.tmp 28], argTypes := #[22, 3] }, type := 22, pos := "law.go:62", after := #[{ on := 17, ground := Ground.data }, { on := 18, ground := Ground.data }, { on := 16, ground := Ground.chain }, { on := 13, ground := Ground.guard }], guard := some (13, true) } : Oper)) rfl (fun KK hKK => ?_) AllReadyH.nil
    go_simp
    (with_reducible refine (K19.out _ RB3.out).mono ?_)
    rintro e0 y4 ⟨A8, c8, rfl, hT, hb, _⟩
    have RB4 := Lib.hid (RB3.out.trans (hb.mono RB3.out.size))
    have T8 := Lib.hid hT
    clear hT
    have T7b := Lib.hid (T7.out.below hb)
    clear hb
    refine hKK.out _ _ (RB4.out) (fun hH4 => ?_)
    clear hKK KK
    try simp only [Act.put, List.setIfInBounds_toArray, List.set_cons_zero, List.set_cons_succ]
    refine wpAnyH_ready (rs := [20]) (by kernel_rfl) (by simp) ?_
    refine AllReadyH.cons (o := ({ dst := some 30, op := Op.call { callee := Callee.value (Operand.func 14), args := #[Operand.tmp 26, Operand.tmp 29], argTypes := #[22, 22] }, type := 4, pos := "law.go:62", after := #[{ on := 16, ground := Ground.data }, { on := 19, ground := Ground.data }, { on := 19, ground := Ground.chain }, { on := 13, ground := Ground.guard }], guard := some (13, true) } : Oper)) rfl (fun KK hKK => ?_) AllReadyH.nil
    go_simp
    (with_reducible refine (same_yes A7 A8 c7 c8 zz _ T7b.out T8.out LZ.out).mono ?_)
    rintro e0 y5 ⟨rfl, hb⟩
    have RB5 := Lib.hid (RB4.out.trans (hb.mono RB4.out.size))
    clear hb
    refine hKK.out _ _ (RB5.out) (fun hH5 => ?_)
    clear hKK KK
    try simp only [Act.put, List.setIfInBounds_toArray, List.set_cons_zero, List.set_cons_succ]
    refine wpAnyH_take (i := 21) (oi := ({ dst := some 31, op := Op.pick (Operand.tmp 23) (Operand.tmp 30) (Operand.const (Value.bool false)), type := 4, pos := "law.go:62", after := #[{ on := 13, ground := Ground.data }, { on := 20, ground := Ground.data }], guard := none } : Oper)) (v := ?hv13) rfl (by kernel_rfl) (by kernel_rfl) (by kernel_rfl) (fun _ _ _ h => h) (Or.inl ⟨by rfl, ?hy13⟩) (by assumption) ?hr13
    case hy13 => (intro w hSw; (try dsimp only at hSw); go_simp; (try with_reducible rfl))
    try simp only [Act.put, List.setIfInBounds_toArray, List.set_cons_zero, List.set_cons_succ]
    refine wpAnyH_take (i := 22) (oi := ({ dst := some 32, op := Op.move (Operand.tmp 31), type := 4, pos := "law.go:62", after := #[{ on := 21, ground := Ground.data }, { on := 20, ground := Ground.chain }], guard := none } : Oper)) (v := ?hv14) rfl (by kernel_rfl) (by kernel_rfl) (by kernel_rfl) (fun _ _ _ h => h) (Or.inl ⟨by rfl, ?hy14⟩) (by assumption) ?hr14
    case hy14 => (intro w hSw; (try dsimp only at hSw); go_simp; (try with_reducible rfl))
    try simp only [Act.put, List.setIfInBounds_toArray, List.set_cons_zero, List.set_cons_succ]
    refine wpAnyH_ready (rs := [23]) (by kernel_rfl) (by simp) ?_
    refine AllReadyH.cons (o := ({ dst := some 33, op := Op.call { callee := Callee.value (Operand.func 9), args := #[], argTypes := #[] }, type := 4, pos := "law.go:62", after := #[{ on := 22, ground := Ground.chain }, { on := 22, ground := Ground.guard }], guard := some (22, true) } : Oper)) rfl (fun KK hKK => ?_) AllReadyH.nil
    go_simp
    (with_reducible refine (awake9 _).mono ?_)
    rintro e0 y6 ⟨rfl, hb⟩
    have RB6 := Lib.hid (RB5.out.trans (hb.mono RB5.out.size))
    clear hb
    refine hKK.out _ _ (RB6.out) (fun hH6 => ?_)
    clear hKK KK
    try simp only [Act.put, List.setIfInBounds_toArray, List.set_cons_zero, List.set_cons_succ]
    refine wpAnyH_take (i := 24) (oi := ({ dst := some 34, op := Op.pick (Operand.tmp 32) (Operand.tmp 33) (Operand.const (Value.bool false)), type := 4, pos := "law.go:62", after := #[{ on := 22, ground := Ground.data }, { on := 23, ground := Ground.data }], guard := none } : Oper)) (v := ?hv15) rfl (by kernel_rfl) (by kernel_rfl) (by kernel_rfl) (fun _ _ _ h => h) (Or.inl ⟨by rfl, ?hy15⟩) (by assumption) ?hr15
    case hy15 => (intro w hSw; (try dsimp only at hSw); go_simp; (try with_reducible rfl))
    try simp only [Act.put, List.setIfInBounds_toArray, List.set_cons_zero, List.set_cons_succ]
    refine wpAnyH_take (i := 25) (oi := ({ dst := some 6, op := Op.assign (Operand.tmp 34), type := 4, pos := "law.go:62", after := #[{ on := 24, ground := Ground.data }, { on := 23, ground := Ground.chain }, { on := 0, ground := Ground.phase }, { on := 1, ground := Ground.phase }, { on := 2, ground := Ground.phase }, { on := 3, ground := Ground.phase }, { on := 4, ground := Ground.phase }, { on := 5, ground := Ground.phase }, { on := 6, ground := Ground.phase }, { on := 7, ground := Ground.phase }, { on := 8, ground := Ground.phase }, { on := 9, ground := Ground.phase }, { on := 10, ground := Ground.phase }, { on := 11, ground := Ground.phase }, { on := 12, ground := Ground.phase }, { on := 13, ground := Ground.phase }, { on := 14, ground := Ground.phase }, { on := 15, ground := Ground.phase }, { on := 16, ground := Ground.phase }, { on := 17, ground := Ground.phase }, { on := 18, ground := Ground.phase }, { on := 19, ground := Ground.phase }, { on := 20, ground := Ground.phase }, { on := 21, ground := Ground.phase }, { on := 22, ground := Ground.phase }, { on := 23, ground := Ground.phase }, { on := 24, ground := Ground.phase }], guard := none } : Oper)) (v := ?hv16) rfl (by kernel_rfl) (by kernel_rfl) (by kernel_rfl) (fun _ _ _ h => h) (Or.inl ⟨by rfl, ?hy16⟩) (by assumption) ?hr16
    case hy16 => (intro w hSw; (try dsimp only at hSw); go_simp; (try with_reducible rfl))
    try simp only [Act.put, List.setIfInBounds_toArray, List.set_cons_zero, List.set_cons_succ]
    refine wpAnyH_done (by kernel_rfl) ?_ _
    go_wp2
    go_ret
    exact ⟨rfl, B1.out.trans (RB6.out.mono B1.out.size)⟩
  · clear h
    go_enter Try.func6, Try.ntmps6
    go_wp2_with (first
      | (go_at_call 8; (with_reducible refine (great_yes A n c _ hn).mono ?_); rintro e w1 ⟨rfl, hb⟩; have B1 := Lib.hid (B0.out.trans (hb.mono B0.out.size)); clear hb)
      | (go_at_call 9; (with_reducible refine (awake9 _).mono ?_); rintro e w4 ⟨rfl, hb⟩; have B4 := Lib.hid (B1.out.trans (hb.mono B1.out.size)); clear hb))
    go_ret
    exact ⟨rfl, B4.out⟩
end Go.Proofs.Ytkmocchikgmnbaa
