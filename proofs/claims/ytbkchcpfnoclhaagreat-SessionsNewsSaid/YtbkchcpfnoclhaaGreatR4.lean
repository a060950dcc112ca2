/- Records: ordered.Insert, ordered.Put for any two tests (written by tools/rec.py). Bound: at most 900000 records. -/
import Derived.Test.YtbkchcpfnoclhaaGreatR3
import Derived.Deep.RegionHeld3
namespace Go.Proofs.YtbkchcpfnoclhaaGreat
set_option maxRecDepth 100000
open Go.RowKit
set_option linter.unusedVariables false
set_option maxRecDepth 100000
set_option linter.unusedSimpArgs false

theorem store_mid_as {P : Program} {ops : Array Oper} {rest : List Oper} {op : Oper} {a : Act} {w : World} {Q : Exit → Act → World → Prop} (hgd : op.guard = none) (ty : TypeId) (x y : Operand) (ho : op.op = .store ty x y)
    (b o : Nat) (cells : Array Value) (hx : a.eval x = .pointer (some ⟨b, o, none⟩)) (hy : a.eval y = .agg cells)
    (ht : w.there b o cells.size) (hi : (P.info? ty).map (·.size) = some cells.size) (h1 : cells.all (·.oneCell') = true)
    (h : ∀ w4, w4 = w.setCells b o cells.toList → wpList P ops Q rest (a.put op.dst undef) w4) : wpList P ops Q (op :: rest) a w :=
  wpList_store_mid hgd ty x y ho b o cells hx hy ht hi h1 (h _ rfl)
theorem to_enc {w : World} {g : Nat} {x : Rc} (h : Blk w g [.string x.us, .string x.dv, .int .i64 x.ix] 36) : Blk w g (enc x) 36 := h
theorem all_one (x : Rc) : (#[.string x.us, .string x.dv, .int .i64 x.ix] : Array Value).all (·.oneCell') = true := by simp [Value.oneCell']
theorem Blk.thereAt' {w : World} {t : Nat} {cs : List Value} {T : TypeId} (h : Blk w t cs T) (o n : Nat) (hn : o + n ≤ cs.length) : w.there t o n := fun j hj =>
  ⟨by rw [h.cell (List.getElem?_eq_getElem (by omega))]; rfl, h.free _⟩
theorem set_fit {zs : List Rc} {k : Nat} {x : Rc} (hf : ∀ p ∈ zs, fitR p) (hx : fitR x) : ∀ p ∈ zs.set k x, fitR p := by
  intro p hp
  rcases List.mem_or_eq_of_mem_set hp with h | h
  · exact hf p h
  · rw [h]; exact hx
set_option maxRecDepth 100000 in
set_option maxHeartbeats 4000000 in
theorem oins_end (fv : Value) (q : Rc → Bool) (A : Option Addr) (n c : Nat) (zs : List Rc) (x : Rc) (w : World) (h : Rcs w A n c zs) (hx : fitR x) (hn : n ≤ 900000) (HJ : ∀ u, Below w.heap.size w u → Calls Tryz.prog 30 #[.slice A n c, fv] u fun e w' => e = .returned (.int .i64 (fidx q zs)) ∧ Below u.heap.size u w') (hf : fidx q zs = -1) (zz : List Rc) (hz : zz = zs ++ [x]) : Calls Tryz.prog 15 #[.slice A n c, .agg #[.string x.us, .string x.dv, .int .i64 x.ix], fv] w (FilP w.heap.size w zz) := by
  have H := Lib.hid h
  have HZ := Lib.hid hz
  have HZl : Hid (zz.length = n + 1) := Lib.hid (by rw [hz]; simp [h.len])
  have hfz := Lib.hid h.fit
  have HBy := Lib.hid (show n * 40 ≤ 140737488355328 by omega)
  have BA := Lib.hid ((Below.refl w.heap.size w).alloc (Nat.le_refl _) (.cells #[.string x.us, .string x.dv, .int .i64 x.ix] 36))
  have X0 := Lib.hid (blk_new w [.string x.us, .string x.dv, .int .i64 x.ix] 36)
  have HI := Lib.hid (HJ _ BA.out)
  rw [hf] at HI
  clear h HJ hf hz
  go_enter Tryz.func15, Tryz.ntmps15
  go_upto_region 4 with (go_at_call 30; (with_reducible refine HI.out.mono ?_); rintro e w1 ⟨rfl, hb1⟩; have X1 := Lib.hid (X0.out.below hb1); have B1 := Lib.hid (BA.out.trans (hb1.mono BA.out.size)); clear hb1)
  obtain ⟨bx, hbx⟩ : ∃ bx, bx = w.heap.size := ⟨_, rfl⟩
  rw [← hbx] at X1
  simp only [← hbx]
  refine wp_region_held_drew (S := (fun w' => Blk w' bx [.string x.us, .string x.dv, .int .i64 x.ix] 36 ∧ Below w.heap.size w w')) (by kernel_rfl) (⟨X1.out.drew, B1.out.drew⟩) (fun hH0 => ?_)
  generalize w1.drew = y0 at hH0 ⊢
  have RX0 : Hid (Blk y0 bx [.string x.us, .string x.dv, .int .i64 x.ix] 36) := Lib.hid hH0.1
  have RB0 : Hid (Below w.heap.size w y0) := Lib.hid hH0.2
  refine wpAnyH_take (i := 0) (oi := ({ dst := some 15, op := Op.move (Operand.tmp 0), type := 22, pos := "ordered.go:12", after := #[], guard := none } : Oper)) (v := ?hv1) rfl (by kernel_rfl) (by kernel_rfl) (by kernel_rfl) (fun _ _ _ h => h) (Or.inl ⟨by rfl, ?hy1⟩) (by assumption) ?hr1
  case hy1 => (intro w hSw; (try dsimp only at hSw); go_simp; (try with_reducible rfl))
  try simp only [Act.put, List.setIfInBounds_toArray, List.set_cons_zero, List.set_cons_succ]
  refine wpAnyH_take (i := 2) (oi := ({ dst := some 17, op := Op.move (Operand.tmp 7), type := 3, pos := "ordered.go:12", after := #[], guard := none } : Oper)) (v := ?hv2) rfl (by kernel_rfl) (by kernel_rfl) (by kernel_rfl) (fun _ _ _ h => h) (Or.inl ⟨by rfl, ?hy2⟩) (by assumption) ?hr2
  case hy2 => (intro w hSw; (try dsimp only at hSw); go_simp; (try with_reducible rfl))
  try simp only [Act.put, List.setIfInBounds_toArray, List.set_cons_zero, List.set_cons_succ]
  refine wpAnyH_take (i := 3) (oi := ({ dst := some 18, op := Op.load 36 (Operand.tmp 4), type := 36, pos := "ordered.go:12", after := #[], guard := none } : Oper)) (v := .agg #[.string x.us, .string x.dv, .int .i64 x.ix]) rfl (by kernel_rfl) (by kernel_rfl) (by kernel_rfl) (fun _ _ _ h => h) (yieldsIf_load_mid (by rfl) 36 _ rfl bx 0 rfl [.string x.us, .string x.dv, .int .i64 x.ix] _ (fun w hw => hw.1.range) Tryz.underlying36 rfl size44) (by assumption) ?_
  try simp only [Act.put, List.setIfInBounds_toArray, List.set_cons_zero, List.set_cons_succ]
  refine wpAnyH_ready (rs := [1, 4]) (by kernel_rfl) (by simp) ?_
  refine AllReadyH.cons (o := ({ dst := some 16, op := Op.call { callee := Callee.value (Operand.func 33), args := #[Operand.tmp 15], argTypes := #[22] }, type := 22, pos := "ordered.go:12", after := #[{ on := 0, ground := Ground.data }], guard := none } : Oper)) rfl (fun KK hKK => ?_) ?_
  · go_simp
    (with_reducible refine (clone27 A n c (rowR zs) _ (H.out.below RB0.out).rws HBy.out).mono ?_)
    rintro e0 y1 ⟨A1, c1, rfl, hC⟩
    have RB1 := Lib.hid (RB0.out.trans (hC.bel.mono RB0.out.size))
    have RX1 := Lib.hid (RX0.out.below hC.bel)
    have RO1 : Hid (y1.ownsRow w.heap.size 36 3 (.slice A1 n c1) n (cl zs)) := Lib.hid (own_mono (by have := hC.own; rw [← H.out.len, flat_cl] at this; rw [← H.out.len]; exact this) RB0.out.size)
    have RL : Hid (∀ b, (Value.slice A1 n c1).ownBlock = some b → b < (World.heap y1).size) := Lib.hid (fun b e => (hC.own.lt b e).2)
    have RN : Hid (∀ b, (Value.slice A1 n c1).ownBlock = some b → b ≠ bx) := Lib.hid (fun b e => by have h1 := (hC.own.lt b e).1; have h2 := RX0.out.lt; omega)
    clear hC
    refine hKK.out _ _ (⟨RX1.out, RB1.out⟩) (fun hH1 => ?_)
    clear hKK KK
    try simp only [Act.put, List.setIfInBounds_toArray, List.set_cons_zero, List.set_cons_succ]
    refine wpAnyH_ready (rs := [4]) (by kernel_rfl) (by simp) ?_
    refine AllReadyH.cons (o := ({ dst := some 19, op := Op.buildSlice 22 1 #[(0, Operand.tmp 18)], type := 22, pos := "ordered.go:12", after := #[{ on := 3, ground := Ground.data }], guard := none } : Oper)) rfl (fun KK hKK => ?_) AllReadyH.nil
    go_simp
    generalize hy2 : World.alloc _ _ = y2
    have RM : Hid (∀ b, (Value.slice A1 n c1).ownBlock = some b → b ≠ (World.heap y1).size) := Lib.hid (fun b e => Nat.ne_of_lt (RL.out b e))
    clear RL
    generalize hg4 : (World.heap y1).size = g4 at RM ⊢
    have RB2 : Hid (Below w.heap.size w y2) := Lib.hid (by rw [← hy2]; exact RB1.out.alloc RB1.out.size _)
    have RX2 : Hid (Blk y2 bx [.string x.us, .string x.dv, .int .i64 x.ix] 36) := Lib.hid (by rw [← hy2]; exact RX1.out.alloc _)
    have RG2 : Hid (Blk y2 g4 [.string x.us, .string x.dv, .int .i64 x.ix] 36) := Lib.hid (by rw [← hy2, ← hg4]; exact blk_new _ [.string x.us, .string x.dv, .int .i64 x.ix] 36)
    have RO2 : Hid (y2.ownsRow w.heap.size 36 3 (.slice A1 n c1) n (cl zs)) := Lib.hid (by rw [← hy2]; exact RO1.out.alloc _)
    clear hy2 hg4
    refine hKK.out _ _ (⟨RX2.out, RB2.out⟩) (fun hH2 => ?_)
    clear hKK KK
    try simp only [Act.put, List.setIfInBounds_toArray, List.set_cons_zero, List.set_cons_succ]
    refine wpAnyH_ready (rs := [5]) (by kernel_rfl) (by simp) ?_
    refine AllReadyH.cons (o := ({ dst := some 20, op := Op.call { callee := Callee.value (Operand.func 32), args := #[Operand.tmp 16, Operand.tmp 17, Operand.tmp 19], argTypes := #[22, 3, 22] }, type := 22, pos := "ordered.go:12", after := #[{ on := 1, ground := Ground.data }, { on := 2, ground := Ground.data }, { on := 4, ground := Ground.data }, { on := 1, ground := Ground.chain }], guard := none } : Oper)) rfl (fun KK hKK => ?_) AllReadyH.nil
    go_simp
    (with_reducible refine (ins60_end A1 n c1 zs x g4 _ _ RO2.out (to_enc RG2.out) hx hfz.out hn H.out.len RB2.out).mono ?_)
    rintro e0 y3 ⟨A2, c2, rfl, hT2, hb2, hap2, hgw⟩
    rw [← HZ.out] at hT2
    have RB3 := Lib.hid hb2
    have RT := Lib.hid hT2
    have RP := Lib.hid hap2
    have RX3 : Hid (Blk y3 bx [.string x.us, .string x.dv, .int .i64 x.ix] 36) := Lib.hid ⟨(hgw.block bx RX2.out.lt (fun e => RN.out bx e.symm rfl)).trans RX2.out.heap⟩
    clear hT2 hb2 hap2 hgw
    refine hKK.out _ _ (⟨RX3.out, RB3.out⟩) (fun hH3 => ?_)
    clear hKK KK
    try simp only [Act.put, List.setIfInBounds_toArray, List.set_cons_zero, List.set_cons_succ]
    refine wpAnyH_take (i := 6) (oi := ({ dst := some 6, op := Op.assign (Operand.tmp 20), type := 22, pos := "ordered.go:12", after := #[{ on := 5, ground := Ground.data }, { on := 5, ground := Ground.chain }, { on := 0, ground := Ground.phase }, { on := 1, ground := Ground.phase }, { on := 2, ground := Ground.phase }, { on := 3, ground := Ground.phase }, { on := 4, ground := Ground.phase }, { on := 5, ground := Ground.phase }], guard := none } : Oper)) (v := ?hv3) rfl (by kernel_rfl) (by kernel_rfl) (by kernel_rfl) (fun _ _ _ h => h) (Or.inl ⟨by rfl, ?hy3⟩) (by assumption) ?hr3
    case hy3 => (intro w hSw; (try dsimp only at hSw); go_simp; (try with_reducible rfl))
    try simp only [Act.put, List.setIfInBounds_toArray, List.set_cons_zero, List.set_cons_succ]
    refine wpAnyH_done (by kernel_rfl) ?_ _
    go_wp2
    go_ret
    exact ⟨A2, c2, ret_slice2 HZl.out, (by rw [HZl.out]; exact RT.out), RB3.out, RP.out⟩
  refine AllReadyH.cons (o := ({ dst := some 19, op := Op.buildSlice 22 1 #[(0, Operand.tmp 18)], type := 22, pos := "ordered.go:12", after := #[{ on := 3, ground := Ground.data }], guard := none } : Oper)) rfl (fun KK hKK => ?_) AllReadyH.nil
  go_simp
  generalize hy1 : World.alloc _ _ = y1
  generalize hg4 : (World.heap y0).size = g4
  have RB1 : Hid (Below w.heap.size w y1) := Lib.hid (by rw [← hy1]; exact RB0.out.alloc RB0.out.size _)
  have RX1 : Hid (Blk y1 bx [.string x.us, .string x.dv, .int .i64 x.ix] 36) := Lib.hid (by rw [← hy1]; exact RX0.out.alloc _)
  have RG1 : Hid (Blk y1 g4 [.string x.us, .string x.dv, .int .i64 x.ix] 36) := Lib.hid (by rw [← hy1, ← hg4]; exact blk_new _ [.string x.us, .string x.dv, .int .i64 x.ix] 36)
  clear hy1 hg4
  refine hKK.out _ _ (⟨RX1.out, RB1.out⟩) (fun hH1 => ?_)
  clear hKK KK
  try simp only [Act.put, List.setIfInBounds_toArray, List.set_cons_zero, List.set_cons_succ]
  refine wpAnyH_ready (rs := [1]) (by kernel_rfl) (by simp) ?_
  refine AllReadyH.cons (o := ({ dst := some 16, op := Op.call { callee := Callee.value (Operand.func 33), args := #[Operand.tmp 15], argTypes := #[22] }, type := 22, pos := "ordered.go:12", after := #[{ on := 0, ground := Ground.data }], guard := none } : Oper)) rfl (fun KK hKK => ?_) AllReadyH.nil
  go_simp
  (with_reducible refine (clone27 A n c (rowR zs) _ (H.out.below RB1.out).rws HBy.out).mono ?_)
  rintro e0 y2 ⟨A1, c1, rfl, hC⟩
  have RB2 := Lib.hid (RB1.out.trans (hC.bel.mono RB1.out.size))
  have RX2 := Lib.hid (RX1.out.below hC.bel)
  have RO2 : Hid (y2.ownsRow w.heap.size 36 3 (.slice A1 n c1) n (cl zs)) := Lib.hid (own_mono (by have := hC.own; rw [← H.out.len, flat_cl] at this; rw [← H.out.len]; exact this) RB1.out.size)
  have RG2 := Lib.hid (RG1.out.below hC.bel)
  have RM : Hid (∀ b, (Value.slice A1 n c1).ownBlock = some b → b ≠ g4) := Lib.hid (fun b e => by have h1 := (hC.own.lt b e).1; have h2 := RG1.out.lt; omega)
  have RN : Hid (∀ b, (Value.slice A1 n c1).ownBlock = some b → b ≠ bx) := Lib.hid (fun b e => by have h1 := (hC.own.lt b e).1; have h2 := RX1.out.lt; omega)
  clear hC
  refine hKK.out _ _ (⟨RX2.out, RB2.out⟩) (fun hH2 => ?_)
  clear hKK KK
  try simp only [Act.put, List.setIfInBounds_toArray, List.set_cons_zero, List.set_cons_succ]
  refine wpAnyH_ready (rs := [5]) (by kernel_rfl) (by simp) ?_
  refine AllReadyH.cons (o := ({ dst := some 20, op := Op.call { callee := Callee.value (Operand.func 32), args := #[Operand.tmp 16, Operand.tmp 17, Operand.tmp 19], argTypes := #[22, 3, 22] }, type := 22, pos := "ordered.go:12", after := #[{ on := 1, ground := Ground.data }, { on := 2, ground := Ground.data }, { on := 4, ground := Ground.data }, { on := 1, ground := Ground.chain }], guard := none } : Oper)) rfl (fun KK hKK => ?_) AllReadyH.nil
  go_simp
  (with_reducible refine (ins60_end A1 n c1 zs x g4 _ _ RO2.out (to_enc RG2.out) hx hfz.out hn H.out.len RB2.out).mono ?_)
  rintro e0 y3 ⟨A2, c2, rfl, hT2, hb2, hap2, hgw⟩
  rw [← HZ.out] at hT2
  have RB3 := Lib.hid hb2
  have RT := Lib.hid hT2
  have RP := Lib.hid hap2
  have RX3 : Hid (Blk y3 bx [.string x.us, .string x.dv, .int .i64 x.ix] 36) := Lib.hid ⟨(hgw.block bx RX2.out.lt (fun e => RN.out bx e.symm rfl)).trans RX2.out.heap⟩
  clear hT2 hb2 hap2 hgw
  refine hKK.out _ _ (⟨RX3.out, RB3.out⟩) (fun hH3 => ?_)
  clear hKK KK
  try simp only [Act.put, List.setIfInBounds_toArray, List.set_cons_zero, List.set_cons_succ]
  refine wpAnyH_take (i := 6) (oi := ({ dst := some 6, op := Op.assign (Operand.tmp 20), type := 22, pos := "ordered.go:12", after := #[{ on := 5, ground := Ground.data }, { on := 5, ground := Ground.chain }, { on := 0, ground := Ground.phase }, { on := 1, ground := Ground.phase }, { on := 2, ground := Ground.phase }, { on := 3, ground := Ground.phase }, { on := 4, ground := Ground.phase }, { on := 5, ground := Ground.phase }], guard := none } : Oper)) (v := ?hv4) rfl (by kernel_rfl) (by kernel_rfl) (by kernel_rfl) (fun _ _ _ h => h) (Or.inl ⟨by rfl, ?hy4⟩) (by assumption) ?hr4
  case hy4 => (intro w hSw; (try dsimp only at hSw); go_simp; (try with_reducible rfl))
  try simp only [Act.put, List.setIfInBounds_toArray, List.set_cons_zero, List.set_cons_succ]
  refine wpAnyH_done (by kernel_rfl) ?_ _
  go_wp2
  go_ret
  exact ⟨A2, c2, ret_slice2 HZl.out, (by rw [HZl.out]; exact RT.out), RB3.out, RP.out⟩
set_option maxRecDepth 100000 in
set_option maxHeartbeats 4000000 in
theorem oins_at (k : Nat) (fv : Value) (q : Rc → Bool) (A : Option Addr) (n c : Nat) (zs : List Rc) (x : Rc) (w : World) (h : Rcs w A n c zs) (hx : fitR x) (hn : n ≤ 900000) (HJ : ∀ u, Below w.heap.size w u → Calls Tryz.prog 30 #[.slice A n c, fv] u fun e w' => e = .returned (.int .i64 (fidx q zs)) ∧ Below u.heap.size u w') (hk : k < n) (hf : fidx q zs = (k : Int)) (zz : List Rc) (hz : zz = zs.take k ++ x :: zs.drop k) : Calls Tryz.prog 15 #[.slice A n c, .agg #[.string x.us, .string x.dv, .int .i64 x.ix], fv] w (FilP w.heap.size w zz) := by
  have H := Lib.hid h
  have HZ := Lib.hid hz
  have HZl : Hid (zz.length = n + 1) := Lib.hid (by rw [hz]; simp [h.len]; omega)
  have HK := Lib.hid hk
  have hfz := Lib.hid h.fit
  have HBy := Lib.hid (show n * 40 ≤ 140737488355328 by omega)
  have BA := Lib.hid ((Below.refl w.heap.size w).alloc (Nat.le_refl _) (.cells #[.string x.us, .string x.dv, .int .i64 x.ix] 36))
  have X0 := Lib.hid (blk_new w [.string x.us, .string x.dv, .int .i64 x.ix] 36)
  have HI := Lib.hid (HJ _ BA.out)
  rw [hf] at HI
  clear h HJ hf hz hk
  have hkz : ¬ (k : Int) < 0 := by omega
  go_enter Tryz.func15, Tryz.ntmps15
  go_upto_region 4 with (go_at_call 30; (with_reducible refine HI.out.mono ?_); rintro e w1 ⟨rfl, hb1⟩; have X1 := Lib.hid (X0.out.below hb1); have B1 := Lib.hid (BA.out.trans (hb1.mono BA.out.size)); clear hb1)
  obtain ⟨bx, hbx⟩ : ∃ bx, bx = w.heap.size := ⟨_, rfl⟩
  rw [← hbx] at X1
  simp only [← hbx]
  refine wp_region_held_drew (S := (fun w' => Blk w' bx [.string x.us, .string x.dv, .int .i64 x.ix] 36 ∧ Below w.heap.size w w')) (by kernel_rfl) (⟨X1.out.drew, B1.out.drew⟩) (fun hH0 => ?_)
  generalize w1.drew = y0 at hH0 ⊢
  have RX0 : Hid (Blk y0 bx [.string x.us, .string x.dv, .int .i64 x.ix] 36) := Lib.hid hH0.1
  have RB0 : Hid (Below w.heap.size w y0) := Lib.hid hH0.2
  refine wpAnyH_take (i := 0) (oi := ({ dst := some 15, op := Op.move (Operand.tmp 0), type := 22, pos := "ordered.go:12", after := #[], guard := none } : Oper)) (v := ?hv5) rfl (by kernel_rfl) (by kernel_rfl) (by kernel_rfl) (fun _ _ _ h => h) (Or.inl ⟨by rfl, ?hy5⟩) (by assumption) ?hr5
  case hy5 => (intro w hSw; (try dsimp only at hSw); go_simp; (try with_reducible rfl))
  try simp only [Act.put, List.setIfInBounds_toArray, List.set_cons_zero, List.set_cons_succ]
  refine wpAnyH_take (i := 2) (oi := ({ dst := some 17, op := Op.move (Operand.tmp 7), type := 3, pos := "ordered.go:12", after := #[], guard := none } : Oper)) (v := ?hv6) rfl (by kernel_rfl) (by kernel_rfl) (by kernel_rfl) (fun _ _ _ h => h) (Or.inl ⟨by rfl, ?hy6⟩) (by assumption) ?hr6
  case hy6 => (intro w hSw; (try dsimp only at hSw); go_simp; (try with_reducible rfl))
  try simp only [Act.put, List.setIfInBounds_toArray, List.set_cons_zero, List.set_cons_succ]
  refine wpAnyH_take (i := 3) (oi := ({ dst := some 18, op := Op.load 36 (Operand.tmp 4), type := 36, pos := "ordered.go:12", after := #[], guard := none } : Oper)) (v := .agg #[.string x.us, .string x.dv, .int .i64 x.ix]) rfl (by kernel_rfl) (by kernel_rfl) (by kernel_rfl) (fun _ _ _ h => h) (yieldsIf_load_mid (by rfl) 36 _ rfl bx 0 rfl [.string x.us, .string x.dv, .int .i64 x.ix] _ (fun w hw => hw.1.range) Tryz.underlying36 rfl size44) (by assumption) ?_
  try simp only [Act.put, List.setIfInBounds_toArray, List.set_cons_zero, List.set_cons_succ]
  refine wpAnyH_ready (rs := [1, 4]) (by kernel_rfl) (by simp) ?_
  refine AllReadyH.cons (o := ({ dst := some 16, op := Op.call { callee := Callee.value (Operand.func 33), args := #[Operand.tmp 15], argTypes := #[22] }, type := 22, pos := "ordered.go:12", after := #[{ on := 0, ground := Ground.data }], guard := none } : Oper)) rfl (fun KK hKK => ?_) ?_
  · go_simp
    (with_reducible refine (clone27 A n c (rowR zs) _ (H.out.below RB0.out).rws HBy.out).mono ?_)
    rintro e0 y1 ⟨A1, c1, rfl, hC⟩
    have RB1 := Lib.hid (RB0.out.trans (hC.bel.mono RB0.out.size))
    have RX1 := Lib.hid (RX0.out.below hC.bel)
    have RO1 : Hid (y1.ownsRow w.heap.size 36 3 (.slice A1 n c1) n (cl zs)) := Lib.hid (own_mono (by have := hC.own; rw [← H.out.len, flat_cl] at this; rw [← H.out.len]; exact this) RB0.out.size)
    have RL : Hid (∀ b, (Value.slice A1 n c1).ownBlock = some b → b < (World.heap y1).size) := Lib.hid (fun b e => (hC.own.lt b e).2)
    have RN : Hid (∀ b, (Value.slice A1 n c1).ownBlock = some b → b ≠ bx) := Lib.hid (fun b e => by have h1 := (hC.own.lt b e).1; have h2 := RX0.out.lt; omega)
    clear hC
    refine hKK.out _ _ (⟨RX1.out, RB1.out⟩) (fun hH1 => ?_)
    clear hKK KK
    try simp only [Act.put, List.setIfInBounds_toArray, List.set_cons_zero, List.set_cons_succ]
    refine wpAnyH_ready (rs := [4]) (by kernel_rfl) (by simp) ?_
    refine AllReadyH.cons (o := ({ dst := some 19, op := Op.buildSlice 22 1 #[(0, Operand.tmp 18)], type := 22, pos := "ordered.go:12", after := #[{ on := 3, ground := Ground.data }], guard := none } : Oper)) rfl (fun KK hKK => ?_) AllReadyH.nil
    go_simp
    generalize hy2 : World.alloc _ _ = y2
    have RM : Hid (∀ b, (Value.slice A1 n c1).ownBlock = some b → b ≠ (World.heap y1).size) := Lib.hid (fun b e => Nat.ne_of_lt (RL.out b e))
    clear RL
    generalize hg4 : (World.heap y1).size = g4 at RM ⊢
    have RB2 : Hid (Below w.heap.size w y2) := Lib.hid (by rw [← hy2]; exact RB1.out.alloc RB1.out.size _)
    have RX2 : Hid (Blk y2 bx [.string x.us, .string x.dv, .int .i64 x.ix] 36) := Lib.hid (by rw [← hy2]; exact RX1.out.alloc _)
    have RG2 : Hid (Blk y2 g4 [.string x.us, .string x.dv, .int .i64 x.ix] 36) := Lib.hid (by rw [← hy2, ← hg4]; exact blk_new _ [.string x.us, .string x.dv, .int .i64 x.ix] 36)
    have RO2 : Hid (y2.ownsRow w.heap.size 36 3 (.slice A1 n c1) n (cl zs)) := Lib.hid (by rw [← hy2]; exact RO1.out.alloc _)
    clear hy2 hg4
    refine hKK.out _ _ (⟨RX2.out, RB2.out⟩) (fun hH2 => ?_)
    clear hKK KK
    try simp only [Act.put, List.setIfInBounds_toArray, List.set_cons_zero, List.set_cons_succ]
    refine wpAnyH_ready (rs := [5]) (by kernel_rfl) (by simp) ?_
    refine AllReadyH.cons (o := ({ dst := some 20, op := Op.call { callee := Callee.value (Operand.func 32), args := #[Operand.tmp 16, Operand.tmp 17, Operand.tmp 19], argTypes := #[22, 3, 22] }, type := 22, pos := "ordered.go:12", after := #[{ on := 1, ground := Ground.data }, { on := 2, ground := Ground.data }, { on := 4, ground := Ground.data }, { on := 1, ground := Ground.chain }], guard := none } : Oper)) rfl (fun KK hKK => ?_) AllReadyH.nil
    go_simp
    (with_reducible refine (ins60_mid A1 n c1 k zs x g4 _ _ RO2.out (to_enc RG2.out) RM.out hx hfz.out hn H.out.len HK.out RB2.out).mono ?_)
    rintro e0 y3 ⟨A2, c2, rfl, hT2, hb2, hap2, hgw⟩
    rw [← HZ.out] at hT2
    have RB3 := Lib.hid hb2
    have RT := Lib.hid hT2
    have RP := Lib.hid hap2
    have RX3 : Hid (Blk y3 bx [.string x.us, .string x.dv, .int .i64 x.ix] 36) := Lib.hid ⟨(hgw.block bx RX2.out.lt (fun e => RN.out bx e.symm rfl)).trans RX2.out.heap⟩
    clear hT2 hb2 hap2 hgw
    refine hKK.out _ _ (⟨RX3.out, RB3.out⟩) (fun hH3 => ?_)
    clear hKK KK
    try simp only [Act.put, List.setIfInBounds_toArray, List.set_cons_zero, List.set_cons_succ]
    refine wpAnyH_take (i := 6) (oi := ({ dst := some 6, op := Op.assign (Operand.tmp 20), type := 22, pos := "ordered.go:12", after := #[{ on := 5, ground := Ground.data }, { on := 5, ground := Ground.chain }, { on := 0, ground := Ground.phase }, { on := 1, ground := Ground.phase }, { on := 2, ground := Ground.phase }, { on := 3, ground := Ground.phase }, { on := 4, ground := Ground.phase }, { on := 5, ground := Ground.phase }], guard := none } : Oper)) (v := ?hv7) rfl (by kernel_rfl) (by kernel_rfl) (by kernel_rfl) (fun _ _ _ h => h) (Or.inl ⟨by rfl, ?hy7⟩) (by assumption) ?hr7
    case hy7 => (intro w hSw; (try dsimp only at hSw); go_simp; (try with_reducible rfl))
    try simp only [Act.put, List.setIfInBounds_toArray, List.set_cons_zero, List.set_cons_succ]
    refine wpAnyH_done (by kernel_rfl) ?_ _
    go_wp2
    go_ret
    exact ⟨A2, c2, ret_slice2 HZl.out, (by rw [HZl.out]; exact RT.out), RB3.out, RP.out⟩
  refine AllReadyH.cons (o := ({ dst := some 19, op := Op.buildSlice 22 1 #[(0, Operand.tmp 18)], type := 22, pos := "ordered.go:12", after := #[{ on := 3, ground := Ground.data }], guard := none } : Oper)) rfl (fun KK hKK => ?_) AllReadyH.nil
  go_simp
  generalize hy1 : World.alloc _ _ = y1
  generalize hg4 : (World.heap y0).size = g4
  have RB1 : Hid (Below w.heap.size w y1) := Lib.hid (by rw [← hy1]; exact RB0.out.alloc RB0.out.size _)
  have RX1 : Hid (Blk y1 bx [.string x.us, .string x.dv, .int .i64 x.ix] 36) := Lib.hid (by rw [← hy1]; exact RX0.out.alloc _)
  have RG1 : Hid (Blk y1 g4 [.string x.us, .string x.dv, .int .i64 x.ix] 36) := Lib.hid (by rw [← hy1, ← hg4]; exact blk_new _ [.string x.us, .string x.dv, .int .i64 x.ix] 36)
  clear hy1 hg4
  refine hKK.out _ _ (⟨RX1.out, RB1.out⟩) (fun hH1 => ?_)
  clear hKK KK
  try simp only [Act.put, List.setIfInBounds_toArray, List.set_cons_zero, List.set_cons_succ]
  refine wpAnyH_ready (rs := [1]) (by kernel_rfl) (by simp) ?_
  refine AllReadyH.cons (o := ({ dst := some 16, op := Op.call { callee := Callee.value (Operand.func 33), args := #[Operand.tmp 15], argTypes := #[22] }, type := 22, pos := "ordered.go:12", after := #[{ on := 0, ground := Ground.data }], guard := none } : Oper)) rfl (fun KK hKK => ?_) AllReadyH.nil
  go_simp
  (with_reducible refine (clone27 A n c (rowR zs) _ (H.out.below RB1.out).rws HBy.out).mono ?_)
  rintro e0 y2 ⟨A1, c1, rfl, hC⟩
  have RB2 := Lib.hid (RB1.out.trans (hC.bel.mono RB1.out.size))
  have RX2 := Lib.hid (RX1.out.below hC.bel)
  have RO2 : Hid (y2.ownsRow w.heap.size 36 3 (.slice A1 n c1) n (cl zs)) := Lib.hid (own_mono (by have := hC.own; rw [← H.out.len, flat_cl] at this; rw [← H.out.len]; exact this) RB1.out.size)
  have RG2 := Lib.hid (RG1.out.below hC.bel)
  have RM : Hid (∀ b, (Value.slice A1 n c1).ownBlock = some b → b ≠ g4) := Lib.hid (fun b e => by have h1 := (hC.own.lt b e).1; have h2 := RG1.out.lt; omega)
  have RN : Hid (∀ b, (Value.slice A1 n c1).ownBlock = some b → b ≠ bx) := Lib.hid (fun b e => by have h1 := (hC.own.lt b e).1; have h2 := RX1.out.lt; omega)
  clear hC
  refine hKK.out _ _ (⟨RX2.out, RB2.out⟩) (fun hH2 => ?_)
  clear hKK KK
  try simp only [Act.put, List.setIfInBounds_toArray, List.set_cons_zero, List.set_cons_succ]
  refine wpAnyH_ready (rs := [5]) (by kernel_rfl) (by simp) ?_
  refine AllReadyH.cons (o := ({ dst := some 20, op := Op.call { callee := Callee.value (Operand.func 32), args := #[Operand.tmp 16, Operand.tmp 17, Operand.tmp 19], argTypes := #[22, 3, 22] }, type := 22, pos := "ordered.go:12", after := #[{ on := 1, ground := Ground.data }, { on := 2, ground := Ground.data }, { on := 4, ground := Ground.data }, { on := 1, ground := Ground.chain }], guard := none } : Oper)) rfl (fun KK hKK => ?_) AllReadyH.nil
  go_simp
  (with_reducible refine (ins60_mid A1 n c1 k zs x g4 _ _ RO2.out (to_enc RG2.out) RM.out hx hfz.out hn H.out.len HK.out RB2.out).mono ?_)
  rintro e0 y3 ⟨A2, c2, rfl, hT2, hb2, hap2, hgw⟩
  rw [← HZ.out] at hT2
  have RB3 := Lib.hid hb2
  have RT := Lib.hid hT2
  have RP := Lib.hid hap2
  have RX3 : Hid (Blk y3 bx [.string x.us, .string x.dv, .int .i64 x.ix] 36) := Lib.hid ⟨(hgw.block bx RX2.out.lt (fun e => RN.out bx e.symm rfl)).trans RX2.out.heap⟩
  clear hT2 hb2 hap2 hgw
  refine hKK.out _ _ (⟨RX3.out, RB3.out⟩) (fun hH3 => ?_)
  clear hKK KK
  try simp only [Act.put, List.setIfInBounds_toArray, List.set_cons_zero, List.set_cons_succ]
  refine wpAnyH_take (i := 6) (oi := ({ dst := some 6, op := Op.assign (Operand.tmp 20), type := 22, pos := "ordered.go:12", after := #[{ on := 5, ground := Ground.data }, { on := 5, ground := Ground.chain }, { on := 0, ground := Ground.phase }, { on := 1, ground := Ground.phase }, { on := 2, ground := Ground.phase }, { on := 3, ground := Ground.phase }, { on := 4, ground := Ground.phase }, { on := 5, ground := Ground.phase }], guard := none } : Oper)) (v := ?hv8) rfl (by kernel_rfl) (by kernel_rfl) (by kernel_rfl) (fun _ _ _ h => h) (Or.inl ⟨by rfl, ?hy8⟩) (by assumption) ?hr8
  case hy8 => (intro w hSw; (try dsimp only at hSw); go_simp; (try with_reducible rfl))
  try simp only [Act.put, List.setIfInBounds_toArray, List.set_cons_zero, List.set_cons_succ]
  refine wpAnyH_done (by kernel_rfl) ?_ _
  go_wp2
  go_ret
  exact ⟨A2, c2, ret_slice2 HZl.out, (by rw [HZl.out]; exact RT.out), RB3.out, RP.out⟩
def insQ (q : Rc → Bool) (x : Rc) (zs : List Rc) : List Rc := zs.take (zs.findIdx q) ++ x :: zs.drop (zs.findIdx q)
theorem oins_any (fv : Value) (q : Rc → Bool) (A : Option Addr) (n c : Nat) (zs : List Rc) (x : Rc) (w : World) (h : Rcs w A n c zs) (hx : fitR x) (hn : n ≤ 900000) (HJ : ∀ u, Below w.heap.size w u → Calls Tryz.prog 30 #[.slice A n c, fv] u fun e w' => e = .returned (.int .i64 (fidx q zs)) ∧ Below u.heap.size u w') (zz : List Rc) (hz : zz = insQ q x zs) : Calls Tryz.prog 15 #[.slice A n c, .agg #[.string x.us, .string x.dv, .int .i64 x.ix], fv] w (FilP w.heap.size w zz) := by
  subst hz
  rcases fidx_cases q zs with ⟨e, hno⟩ | ⟨k, hk, hq, _, _⟩
  · have e1 : zs.findIdx q = zs.length := by
      rcases Nat.lt_or_ge (zs.findIdx q) zs.length with h | h
      · unfold fidx at e; rw [if_pos h] at e; omega
      · exact Nat.le_antisymm List.findIdx_le_length h
    refine oins_end fv q A n c zs x w h hx hn HJ e _ ?_
    unfold insQ; rw [e1, List.take_length, List.drop_length]
  · have e1 : zs.findIdx q = k := by
      unfold fidx at hq
      split at hq <;> omega
    refine oins_at k fv q A n c zs x w h hx hn HJ (by rw [← h.len]; exact hk) hq _ ?_
    unfold insQ; rw [e1]
end Go.Proofs.YtbkchcpfnoclhaaGreat
