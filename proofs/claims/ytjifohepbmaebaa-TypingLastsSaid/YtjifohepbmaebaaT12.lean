/- Who types: slices.Insert at any place; Insert, Put, PutNamed, Start of any record. Bound: at most 900000 records. -/
import Derived.Test.YtjifohepbmaebaaT11
import Derived.Test.YtjifohepbmaebaaT9
namespace Go.Proofs.Ytjifohepbmaebaa
open Go.RowKit
set_option linter.unusedVariables false
set_option linter.unusedSimpArgs false

theorem ins60_mid (A : Option Addr) (n c i : Nat) (zs : List Tp) (p : Tp) (g : Nat) (w w0 : World) (h : w.ownsRow w0.heap.size 44 2 (.slice A n c) n (cl zs)) (hg : Blk w g [.string p.1, .int .i64 p.2] 44) (hne : ∀ b, (Value.slice A n c).ownBlock = some b → b ≠ g) (hp : p.1.size ≤ 9223372036854775807) (hf : ∀ p ∈ zs, p.1.size ≤ 9223372036854775807) (hn : n ≤ 900000) (hl : zs.length = n) (hi : i < n) (hb0 : Below w0.heap.size w0 w) :
    Calls Try.prog 60 #[.slice A n c, .int .i64 (i : Int), .slice (some ⟨g, 0, none⟩) 1 1] w (MidP w0 w A n c (zs.take i ++ p :: zs.drop i)) := by
  rcases h.2 with ⟨_, h0⟩ | ⟨g0, cap, cur, hv, hB, hX, hnc, hcm, hs, ht⟩
  · omega
  · simp only [Value.slice.injEq, true_and] at hv
    obtain ⟨rfl, rfl⟩ := hv
    have hX' : Blk w g0 cur.toList 44 := ⟨by rw [Array.toArray_toList]; exact hX⟩
    have hcl : c * 2 = cur.toList.length := by rw [Array.length_toList, hs]
    have hne' : g ≠ g0 := fun e => hne g0 rfl e.symm
    rcases Nat.lt_or_ge c (n + 1) with hr | hr
    · exact ins60_grow g0 n c i zs p g cur.toList w w0 hX' hB ht hcl hg hp hf hn hl hi hnc hr hb0
    · exact ins60_shift g0 n c i zs p g cur.toList w w0 hX' hB hcl hcm ht hg hne' hp hf hn hl hi hr hb0
def ins (own : ByteArray) (x : Tp) (zs : List Tp) : List Tp := zs.take (zs.findIdx (pb own)) ++ x :: zs.drop (zs.findIdx (pb own))
theorem ins_len (own : ByteArray) (x : Tp) (zs : List Tp) : (ins own x zs).length = zs.length + 1 := by
  unfold ins
  rw [List.length_append, List.length_take, List.length_cons, List.length_drop]
  omega
set_option maxRecDepth 100000 in
set_option maxHeartbeats 4000000 in
theorem insert50_at (k : Nat) (A : Option Addr) (n c : Nat) (zs : List Tp) (x : Tp) (own : ByteArray) (c1 c2 : Nat) (w : World) (h : Tps w A n c zs) (hx : x.1.size ≤ 9223372036854775807) (hn : n ≤ 900000) (h1 : c1 < w.heap.size) (h2 : c2 < w.heap.size) (k1 : w.cell? ⟨c1, 0, none⟩ = some (.func (.func 28) #[] #[])) (k2 : w.cell? ⟨c2, 0, none⟩ = some (.string own)) (hk : k < n) (hf : fidx (pb own) zs = (k : Int)) (zz : List Tp) (hz : zz = zs.take k ++ x :: zs.drop k) :
    Calls Try.prog 50 #[.slice A n c, .agg #[.string x.1, .int .i64 x.2], .func (.func 40) #[] #[.pointer (some ⟨c1, 0, none⟩), .pointer (some ⟨c2, 0, none⟩)]] w (FilP w.heap.size w zz) := by
  have H := Lib.hid h
  have HZ := Lib.hid hz
  have HZl : Hid (zz.length = n + 1) := Lib.hid (by rw [hz, List.length_append, List.length_take, List.length_cons, List.length_drop, h.len]; omega)
  have HK := Lib.hid hk
  have hfz := Lib.hid h.fit
  have HBy := Lib.hid (show n * 24 ≤ 140737488355328 by omega)
  have BA := Lib.hid ((Below.refl w.heap.size w).alloc (Nat.le_refl _) (.cells #[.string x.1, .int .i64 x.2] 44))
  have X0 := Lib.hid (blk_new w [.string x.1, .int .i64 x.2] 44)
  have HI := Lib.hid (index40 (pb own) c1 c2 A n c zs (w.alloc (.cells #[.string x.1, .int .i64 x.2] 44)) (h.below BA.out) (fun p u hu => pred40 p own c1 c2 u (Nat.lt_of_lt_of_le (Nat.lt_of_lt_of_le h1 BA.out.size) hu.size) (Nat.lt_of_lt_of_le (Nat.lt_of_lt_of_le h2 BA.out.size) hu.size) ((hu.cell (p := ⟨c1, 0, none⟩) (Nat.lt_of_lt_of_le h1 BA.out.size)).trans ((BA.out.cell (p := ⟨c1, 0, none⟩) h1).trans k1)) ((hu.cell (p := ⟨c2, 0, none⟩) (Nat.lt_of_lt_of_le h2 BA.out.size)).trans ((BA.out.cell (p := ⟨c2, 0, none⟩) h2).trans k2))))
  rw [hf] at HI
  clear h k1 k2 hf hz hk
  have hkz : ¬ (k : Int) < 0 := by omega
  go_enter Try.func50, Try.ntmps50
  go_upto_region 4 with (go_at_call 41; (with_reducible refine HI.out.mono ?_); rintro e w1 ⟨rfl, hb1⟩; have X1 := Lib.hid (X0.out.below hb1); have B1 := Lib.hid (BA.out.trans (hb1.mono BA.out.size)); clear hb1)
  obtain ⟨bx, hbx⟩ : ∃ bx, bx = w.heap.size := ⟨_, rfl⟩
  rw [← hbx] at X1
  simp only [← hbx]
  refine wp_region_held_drew (S := (fun w' => Blk w' bx [.string x.1, .int .i64 x.2] 44 ∧ Below w.heap.size w w')) (by kernel_rfl) (⟨X1.out.drew, B1.out.drew⟩) (fun hH0 => ?_)
  generalize w1.drew = y0 at hH0 ⊢
  have RX0 : Hid (Blk y0 bx [.string x.1, .int .i64 x.2] 44) := Lib.hid hH0.1
  have RB0 : Hid (Below w.heap.size w y0) := Lib.hid hH0.2
  refine wpAnyH_take (i := 0) (oi := ({ dst := some 15, op := Op.move (Operand.tmp 0), type := 22, pos := "ordered.go:12", after := #[], guard := none } : Oper)) (v := ?hv1) rfl (by kernel_rfl) (by kernel_rfl) (by kernel_rfl) (fun _ _ _ h => h) (Or.inl ⟨by rfl, ?hy1⟩) (by assumption) ?hr1
  case hy1 => (intro w hSw; (try dsimp only at hSw); go_simp; (try with_reducible rfl))
  try simp only [Act.put, List.setIfInBounds_toArray, List.set_cons_zero, List.set_cons_succ]
  refine wpAnyH_take (i := 2) (oi := ({ dst := some 17, op := Op.move (Operand.tmp 7), type := 3, pos := "ordered.go:12", after := #[], guard := none } : Oper)) (v := ?hv2) rfl (by kernel_rfl) (by kernel_rfl) (by kernel_rfl) (fun _ _ _ h => h) (Or.inl ⟨by rfl, ?hy2⟩) (by assumption) ?hr2
  case hy2 => (intro w hSw; (try dsimp only at hSw); go_simp; (try with_reducible rfl))
  try simp only [Act.put, List.setIfInBounds_toArray, List.set_cons_zero, List.set_cons_succ]
  refine wpAnyH_take (i := 3) (oi := ({ dst := some 18, op := Op.load 44 (Operand.tmp 4), type := 44, pos := "ordered.go:12", after := #[], guard := none } : Oper)) (v := .agg #[.string x.1, .int .i64 x.2]) rfl (by kernel_rfl) (by kernel_rfl) (by kernel_rfl) (fun _ _ _ h => h) (yieldsIf_load_mid (by rfl) 44 _ rfl bx 0 rfl [.string x.1, .int .i64 x.2] _ (fun w hw => hw.1.range) Try.underlying44 rfl size44) (by assumption) ?_
  try simp only [Act.put, List.setIfInBounds_toArray, List.set_cons_zero, List.set_cons_succ]
  refine wpAnyH_ready (rs := [1, 4]) (by kernel_rfl) (by simp) ?_
  refine AllReadyH.cons (o := ({ dst := some 16, op := Op.call { callee := Callee.value (Operand.func 51), args := #[Operand.tmp 15], argTypes := #[22] }, type := 22, pos := "ordered.go:12", after := #[{ on := 0, ground := Ground.data }], guard := none } : Oper)) rfl (fun KK hKK => ?_) ?_
  · go_simp
    (with_reducible refine (clone51 A n c (rowT zs) _ (H.out.below RB0.out).rws HBy.out).mono ?_)
    rintro e0 y1 ⟨A1, c1, rfl, hC⟩
    have RB1 := Lib.hid (RB0.out.trans (hC.bel.mono RB0.out.size))
    have RX1 := Lib.hid (RX0.out.below hC.bel)
    have RO1 : Hid (y1.ownsRow w.heap.size 44 2 (.slice A1 n c1) n (cl zs)) := Lib.hid (own_mono (by have := hC.own; rw [← H.out.len, flat_cl] at this; rw [← H.out.len]; exact this) RB0.out.size)
    have RL : Hid (∀ b, (Value.slice A1 n c1).ownBlock = some b → b < (World.heap y1).size) := Lib.hid (fun b e => (hC.own.lt b e).2)
    have RN : Hid (∀ b, (Value.slice A1 n c1).ownBlock = some b → b ≠ bx) := Lib.hid (fun b e => by have h1 := (hC.own.lt b e).1; have h2 := RX0.out.lt; omega)
    clear hC
    refine hKK.out _ _ (⟨RX1.out, RB1.out⟩) (fun hH1 => ?_)
    clear hKK KK
    try simp only [Act.put, List.setIfInBounds_toArray, List.set_cons_zero, List.set_cons_succ]
    refine wpAnyH_ready (rs := [4]) (by kernel_rfl) (by simp) ?_
    refine AllReadyH.cons (o := ({ dst := some 19, op := Op.buildSlice 22 1 #[(0, Operand.tmp 18)], type := 22, pos := "ordered.go:12", after := #[{ on := 3, ground := Ground.data }], guard := none } : Oper)) rfl (fun KK hKK => ?_) AllReadyH.nil
    go_simp
    generalize hy2 : World.alloc _ _ = y2
    have RM : Hid (∀ b, (Value.slice A1 n c1).ownBlock = some b → b ≠ (World.heap y1).size) := Lib.hid (fun b e => Nat.ne_of_lt (RL.out b e))
    clear RL
    generalize hg4 : (World.heap y1).size = g4 at RM ⊢
    have RB2 : Hid (Below w.heap.size w y2) := Lib.hid (by rw [← hy2]; exact RB1.out.alloc RB1.out.size _)
    have RX2 : Hid (Blk y2 bx [.string x.1, .int .i64 x.2] 44) := Lib.hid (by rw [← hy2]; exact RX1.out.alloc _)
    have RG2 : Hid (Blk y2 g4 [.string x.1, .int .i64 x.2] 44) := Lib.hid (by rw [← hy2, ← hg4]; exact blk_new _ [.string x.1, .int .i64 x.2] 44)
    have RO2 : Hid (y2.ownsRow w.heap.size 44 2 (.slice A1 n c1) n (cl zs)) := Lib.hid (by rw [← hy2]; exact RO1.out.alloc _)
    clear hy2 hg4
    refine hKK.out _ _ (⟨RX2.out, RB2.out⟩) (fun hH2 => ?_)
    clear hKK KK
    try simp only [Act.put, List.setIfInBounds_toArray, List.set_cons_zero, List.set_cons_succ]
    refine wpAnyH_ready (rs := [5]) (by kernel_rfl) (by simp) ?_
    refine AllReadyH.cons (o := ({ dst := some 20, op := Op.call { callee := Callee.value (Operand.func 60), args := #[Operand.tmp 16, Operand.tmp 17, Operand.tmp 19], argTypes := #[22, 3, 22] }, type := 22, pos := "ordered.go:12", after := #[{ on := 1, ground := Ground.data }, { on := 2, ground := Ground.data }, { on := 4, ground := Ground.data }, { on := 1, ground := Ground.chain }], guard := none } : Oper)) rfl (fun KK hKK => ?_) AllReadyH.nil
    go_simp
    (with_reducible refine (ins60_mid A1 n c1 k zs x g4 _ _ RO2.out RG2.out RM.out hx hfz.out hn H.out.len HK.out RB2.out).mono ?_)
    rintro e0 y3 ⟨A2, c2, rfl, hT2, hb2, hap2, hgw⟩
    rw [← HZ.out] at hT2
    have RB3 := Lib.hid hb2
    have RT := Lib.hid hT2
    have RP := Lib.hid hap2
    have RX3 : Hid (Blk y3 bx [.string x.1, .int .i64 x.2] 44) := Lib.hid ⟨(hgw.block bx RX2.out.lt (fun e => RN.out bx e.symm rfl)).trans RX2.out.heap⟩
    clear hT2 hb2 hap2 hgw
    refine hKK.out _ _ (⟨RX3.out, RB3.out⟩) (fun hH3 => ?_)
    clear hKK KK
    try simp only [Act.put, List.setIfInBounds_toArray, List.set_cons_zero, List.set_cons_succ]
    refine wpAnyH_take (i := 6) (oi := ({ dst := some 6, op := Op.assign (Operand.tmp 20), type := 22, pos := "ordered.go:12", after := #[{ on := 5, ground := Ground.data }, { on := 5, ground := Ground.chain }, { on := 0, ground := Ground.phase }, { on := 1, ground := Ground.phase }, { on := 2, ground := Ground.phase }, { on := 3, ground := Ground.phase }, { on := 4, ground := Ground.phase }, { on := 5, ground := Ground.phase }], guard := none } : Oper)) (v := ?hv3) rfl (by kernel_rfl) (by kernel_rfl) (by kernel_rfl) (fun _ _ _ h => h) (Or.inl ⟨by rfl, ?hy3⟩) (by assumption) ?hr3
    case hy3 => (intro w hSw; (try dsimp only at hSw); go_simp; (try with_reducible rfl))
    try simp only [Act.put, List.setIfInBounds_toArray, List.set_cons_zero, List.set_cons_succ]
    refine wpAnyH_done (by kernel_rfl) ?_ _
    go_wp2
    go_ret
    exact ⟨A2, c2, ret_slice2 HZl.out, (by rw [HZl.out]; exact RT.out), RB3.out, RP.out⟩
  refine AllReadyH.cons (o := ({ dst := some 19, op := Op.buildSlice 22 1 #[(0, Operand.tmp 18)], type := 22, pos := "ordered.go:12", after := #[{ on := 3, ground := Ground.data }], guard := none } : Oper)) rfl (fun KK hKK => ?_) AllReadyH.nil
  go_simp
  generalize hy1 : World.alloc _ _ = y1
  generalize hg4 : (World.heap y0).size = g4
  have RB1 : Hid (Below w.heap.size w y1) := Lib.hid (by rw [← hy1]; exact RB0.out.alloc RB0.out.size _)
  have RX1 : Hid (Blk y1 bx [.string x.1, .int .i64 x.2] 44) := Lib.hid (by rw [← hy1]; exact RX0.out.alloc _)
  have RG1 : Hid (Blk y1 g4 [.string x.1, .int .i64 x.2] 44) := Lib.hid (by rw [← hy1, ← hg4]; exact blk_new _ [.string x.1, .int .i64 x.2] 44)
  clear hy1 hg4
  refine hKK.out _ _ (⟨RX1.out, RB1.out⟩) (fun hH1 => ?_)
  clear hKK KK
  try simp only [Act.put, List.setIfInBounds_toArray, List.set_cons_zero, List.set_cons_succ]
  refine wpAnyH_ready (rs := [1]) (by kernel_rfl) (by simp) ?_
  refine AllReadyH.cons (o := ({ dst := some 16, op := Op.call { callee := Callee.value (Operand.func 51), args := #[Operand.tmp 15], argTypes := #[22] }, type := 22, pos := "ordered.go:12", after := #[{ on := 0, ground := Ground.data }], guard := none } : Oper)) rfl (fun KK hKK => ?_) AllReadyH.nil
  go_simp
  (with_reducible refine (clone51 A n c (rowT zs) _ (H.out.below RB1.out).rws HBy.out).mono ?_)
  rintro e0 y2 ⟨A1, c1, rfl, hC⟩
  have RB2 := Lib.hid (RB1.out.trans (hC.bel.mono RB1.out.size))
  have RX2 := Lib.hid (RX1.out.below hC.bel)
  have RO2 : Hid (y2.ownsRow w.heap.size 44 2 (.slice A1 n c1) n (cl zs)) := Lib.hid (own_mono (by have := hC.own; rw [← H.out.len, flat_cl] at this; rw [← H.out.len]; exact this) RB1.out.size)
  have RG2 := Lib.hid (RG1.out.below hC.bel)
  have RM : Hid (∀ b, (Value.slice A1 n c1).ownBlock = some b → b ≠ g4) := Lib.hid (fun b e => by have h1 := (hC.own.lt b e).1; have h2 := RG1.out.lt; omega)
  have RN : Hid (∀ b, (Value.slice A1 n c1).ownBlock = some b → b ≠ bx) := Lib.hid (fun b e => by have h1 := (hC.own.lt b e).1; have h2 := RX1.out.lt; omega)
  clear hC
  refine hKK.out _ _ (⟨RX2.out, RB2.out⟩) (fun hH2 => ?_)
  clear hKK KK
  try simp only [Act.put, List.setIfInBounds_toArray, List.set_cons_zero, List.set_cons_succ]
  refine wpAnyH_ready (rs := [5]) (by kernel_rfl) (by simp) ?_
  refine AllReadyH.cons (o := ({ dst := some 20, op := Op.call { callee := Callee.value (Operand.func 60), args := #[Operand.tmp 16, Operand.tmp 17, Operand.tmp 19], argTypes := #[22, 3, 22] }, type := 22, pos := "ordered.go:12", after := #[{ on := 1, ground := Ground.data }, { on := 2, ground := Ground.data }, { on := 4, ground := Ground.data }, { on := 1, ground := Ground.chain }], guard := none } : Oper)) rfl (fun KK hKK => ?_) AllReadyH.nil
  go_simp
  (with_reducible refine (ins60_mid A1 n c1 k zs x g4 _ _ RO2.out RG2.out RM.out hx hfz.out hn H.out.len HK.out RB2.out).mono ?_)
  rintro e0 y3 ⟨A2, c2, rfl, hT2, hb2, hap2, hgw⟩
  rw [← HZ.out] at hT2
  have RB3 := Lib.hid hb2
  have RT := Lib.hid hT2
  have RP := Lib.hid hap2
  have RX3 : Hid (Blk y3 bx [.string x.1, .int .i64 x.2] 44) := Lib.hid ⟨(hgw.block bx RX2.out.lt (fun e => RN.out bx e.symm rfl)).trans RX2.out.heap⟩
  clear hT2 hb2 hap2 hgw
  refine hKK.out _ _ (⟨RX3.out, RB3.out⟩) (fun hH3 => ?_)
  clear hKK KK
  try simp only [Act.put, List.setIfInBounds_toArray, List.set_cons_zero, List.set_cons_succ]
  refine wpAnyH_take (i := 6) (oi := ({ dst := some 6, op := Op.assign (Operand.tmp 20), type := 22, pos := "ordered.go:12", after := #[{ on := 5, ground := Ground.data }, { on := 5, ground := Ground.chain }, { on := 0, ground := Ground.phase }, { on := 1, ground := Ground.phase }, { on := 2, ground := Ground.phase }, { on := 3, ground := Ground.phase }, { on := 4, ground := Ground.phase }, { on := 5, ground := Ground.phase }], guard := none } : Oper)) (v := ?hv4) rfl (by kernel_rfl) (by kernel_rfl) (by kernel_rfl) (fun _ _ _ h => h) (Or.inl ⟨by rfl, ?hy4⟩) (by assumption) ?hr4
  case hy4 => (intro w hSw; (try dsimp only at hSw); go_simp; (try with_reducible rfl))
  try simp only [Act.put, List.setIfInBounds_toArray, List.set_cons_zero, List.set_cons_succ]
  refine wpAnyH_done (by kernel_rfl) ?_ _
  go_wp2
  go_ret
  exact ⟨A2, c2, ret_slice2 HZl.out, (by rw [HZl.out]; exact RT.out), RB3.out, RP.out⟩
theorem insert50_i (zz : List Tp) (A : Option Addr) (n c : Nat) (zs : List Tp) (x : Tp) (own : ByteArray) (c1 c2 : Nat) (w : World) (h : Tps w A n c zs) (hx : x.1.size ≤ 9223372036854775807) (hn : n ≤ 900000) (h1 : c1 < w.heap.size) (h2 : c2 < w.heap.size) (k1 : w.cell? ⟨c1, 0, none⟩ = some (.func (.func 28) #[] #[])) (k2 : w.cell? ⟨c2, 0, none⟩ = some (.string own)) (hz : zz = ins own x zs) :
    Calls Try.prog 50 #[.slice A n c, .agg #[.string x.1, .int .i64 x.2], .func (.func 40) #[] #[.pointer (some ⟨c1, 0, none⟩), .pointer (some ⟨c2, 0, none⟩)]] w (FilP w.heap.size w zz) := by
  subst hz
  rcases fidx_cases (pb own) zs with ⟨e, hno⟩ | ⟨k, hk, hq, _, _⟩
  · have e1 : zs.findIdx (pb own) = zs.length := by
      rcases Nat.lt_or_ge (zs.findIdx (pb own)) zs.length with h | h
      · unfold fidx at e; rw [if_pos h] at e; omega
      · exact Nat.le_antisymm List.findIdx_le_length h
    have e2 : ins own x zs = zs ++ [x] := by unfold ins; rw [e1, List.take_length, List.drop_length]
    rw [e2]
    exact insert50_end A n c zs x own c1 c2 w h hx hn h1 h2 k1 k2 hno
  · have e1 : zs.findIdx (pb own) = k := by
      unfold fidx at hq
      split at hq <;> omega
    refine insert50_at k A n c zs x own c1 c2 w h hx hn h1 h2 k1 k2 (by rw [← h.len]; exact hk) hq _ ?_
    unfold ins; rw [e1]
set_option maxRecDepth 100000 in
set_option maxHeartbeats 2000000 in
theorem put38_ins (A : Option Addr) (n c : Nat) (zs : List Tp) (x : Tp) (own : ByteArray) (c1 c2 : Nat) (w : World) (h : Tps w A n c zs) (hx : x.1.size ≤ 9223372036854775807) (hn : n ≤ 900000) (h1 : c1 < w.heap.size) (h2 : c2 < w.heap.size) (k1 : w.cell? ⟨c1, 0, none⟩ = some (.func (.func 28) #[] #[])) (k2 : w.cell? ⟨c2, 0, none⟩ = some (.string own)) (hnu : ∀ q ∈ zs, pu own q = false) (zz : List Tp) (hz : zz = ins own x zs) :
    Calls Try.prog 38 #[.slice A n c, .agg #[.string x.1, .int .i64 x.2], .func (.func 39) #[] #[.pointer (some ⟨c1, 0, none⟩), .pointer (some ⟨c2, 0, none⟩)], .func (.func 40) #[] #[.pointer (some ⟨c1, 0, none⟩), .pointer (some ⟨c2, 0, none⟩)]] w (FilP w.heap.size w zz) := by
  have HZ := Lib.hid hz
  clear hz
  have H := Lib.hid h
  have HXs := Lib.hid hx
  have BA := Lib.hid ((Below.refl w.heap.size w).alloc (Nat.le_refl _) (.cells #[.string x.1, .int .i64 x.2] 44))
  have X0 := Lib.hid (blk_new w [.string x.1, .int .i64 x.2] 44)
  have j1 := Nat.lt_of_lt_of_le h1 BA.out.size
  have j2 := Nat.lt_of_lt_of_le h2 BA.out.size
  have K1 := Lib.hid (fun u (hu : Below (w.alloc (.cells #[.string x.1, .int .i64 x.2] 44)).heap.size (w.alloc (.cells #[.string x.1, .int .i64 x.2] 44)) u) => (hu.cell (p := ⟨c1, 0, none⟩) j1).trans ((BA.out.cell (p := ⟨c1, 0, none⟩) h1).trans k1))
  have K2 := Lib.hid (fun u (hu : Below (w.alloc (.cells #[.string x.1, .int .i64 x.2] 44)).heap.size (w.alloc (.cells #[.string x.1, .int .i64 x.2] 44)) u) => (hu.cell (p := ⟨c2, 0, none⟩) j2).trans ((BA.out.cell (p := ⟨c2, 0, none⟩) h2).trans k2))
  have HI := Lib.hid (index39 (pu own) c1 c2 A n c zs (w.alloc (.cells #[.string x.1, .int .i64 x.2] 44)) (h.below BA.out) (fun p u hu => pred39 p own c1 c2 u (Nat.lt_of_lt_of_le j1 hu.size) (Nat.lt_of_lt_of_le j2 hu.size) (K1.out u hu) (K2.out u hu)))
  have e0 : fidx (pu own) zs = -1 := by
    rcases fidx_cases (pu own) zs with ⟨e, _⟩ | ⟨k, hk, _, hq, _⟩
    · exact e
    · rw [hnu _ (by rw [List.getD_eq_getElem?_getD, List.getElem?_eq_getElem hk]; exact List.getElem_mem hk)] at hq; cases hq
  rw [e0] at HI
  clear h hx k1 k2 hnu e0
  have J1 := Lib.hid j1
  have J2 := Lib.hid j2
  clear j1 j2
  go_enter Try.func38, Try.ntmps38
  go_wp2_with (first
    | (go_at_call 41; (with_reducible refine HI.out.mono ?_); rintro e w1 ⟨rfl, hb1⟩; have X1 := X0.out.below hb1; have a0 := X1.cell (i := 0) rfl; have a1 := X1.cell (i := 1) rfl; have B1 := Lib.hid (BA.out.trans (hb1.mono BA.out.size)); have HIn := Lib.hid (insert50_i zz A n c zs x own c1 c2 w1 (H.out.below B1.out) HXs.out hn (Nat.lt_of_lt_of_le J1.out hb1.size) (Nat.lt_of_lt_of_le J2.out hb1.size) (K1.out w1 hb1) (K2.out w1 hb1) HZ.out); clear hb1 X1)
    | (go_at_call 50; (with_reducible refine HIn.out.mono ?_); rintro e w2 ⟨A2, cc2, rfl, hT2, hb2, hap2⟩; have T2 := Lib.hid hT2; have B2 := Lib.hid (B1.out.trans (hb2.mono B1.out.size)); have P2 := Lib.hid (fun b off e => Nat.le_trans B1.out.size (hap2 b off e)); clear hT2 hb2 hap2))
  go_ret
  exact ⟨A2, cc2, rfl, T2.out, B2.out, P2.out⟩
set_option maxRecDepth 100000 in
set_option maxHeartbeats 2000000 in
theorem named27_ins (A : Option Addr) (n c : Nat) (zs : List Tp) (x : Tp) (w : World) (h : Tps w A n c zs) (hx : x.1.size ≤ 9223372036854775807) (hn : n ≤ 900000) (hnu : ∀ q ∈ zs, pu x.1 q = false) (zz : List Tp) (hz : zz = ins x.1 x zs) :
    Calls Try.prog 27 #[.slice A n c, .agg #[.string x.1, .int .i64 x.2], .func (.func 28) #[] #[]] w (FilP w.heap.size w zz) := by
  have HZ := Lib.hid hz
  clear hz
  have H := Lib.hid h
  have HXs := Lib.hid hx
  have B2 := Lib.hid (((Below.refl w.heap.size w).alloc (Nat.le_refl _) (.cells #[.string x.1, .int .i64 x.2] 44)).alloc (by simp) (.cells #[.func (.func 28) #[] #[]] 47))
  have X2 := Lib.hid ((blk_new w [.string x.1, .int .i64 x.2] 44).alloc (.cells #[.func (.func 28) #[] #[]] 47))
  have F2 := Lib.hid (show Blk ((w.alloc (.cells #[.string x.1, .int .i64 x.2] 44)).alloc (.cells #[.func (.func 28) #[] #[]] 47)) (w.heap.size + 1) [.func (.func 28) #[] #[]] 47 by
    have := blk_new (w.alloc (.cells #[.string x.1, .int .i64 x.2] 44)) [.func (.func 28) #[] #[]] 47
    rw [show (w.alloc (.cells #[.string x.1, .int .i64 x.2] 44)).heap.size = w.heap.size + 1 by simp] at this
    exact this)
  have HU := Lib.hid hnu
  clear hnu
  clear h hx
  go_enter Try.func27, Try.ntmps27
  go_wp2_with (first
    | (go_at_call 28; (with_reducible refine (pred28 x _).mono ?_); rintro e w1 ⟨rfl, hb1⟩; have X3 := X2.out.below hb1; have F3 := F2.out.below hb1; have a0 := X3.cell (i := 0) rfl; have a1 := X3.cell (i := 1) rfl; have b0 := (X3.alloc (.cells #[.string x.1] 9)).cell (i := 0) rfl; have b1 := (X3.alloc (.cells #[.string x.1] 9)).cell (i := 1) rfl; have f0 := F3.cell (i := 0) rfl; have B3 := Lib.hid (B2.out.trans (hb1.mono B2.out.size)); have B4 := Lib.hid (B3.out.alloc B3.out.size (.cells #[.string x.1] 9)); have L4 := Lib.hid (blk_new w1 [.string x.1] 9); have F4 := Lib.hid (F3.alloc (.cells #[.string x.1] 9)); have HPu := Lib.hid (put38_ins A n c zs x x.1 (w.heap.size + 1) w1.heap.size (w1.alloc (.cells #[.string x.1] 9)) (H.out.below B4.out) HXs.out hn F4.out.lt L4.out.lt (F4.out.cell (i := 0) rfl) (L4.out.cell (i := 0) rfl) HU.out zz HZ.out); clear hb1 X3 F3)
    | (go_at_call 38; (with_reducible refine HPu.out.mono ?_); rintro e w5 ⟨A5, c5, rfl, hT5, hb5, hap5⟩; have T5 := Lib.hid hT5; have B5 := Lib.hid (B4.out.trans (hb5.mono B4.out.size)); have P5 := Lib.hid (fun b off e => Nat.le_trans B4.out.size (hap5 b off e)); clear hT5 hb5 hap5))
  go_ret
  exact ⟨A5, c5, rfl, T5.out, B5.out, P5.out⟩
set_option maxRecDepth 100000 in
set_option maxHeartbeats 2000000 in
theorem start13_ins (A : Option Addr) (n c : Nat) (zs : List Tp) (s : ByteArray) (now span : Int) (w : World) (h : Tps w A n c zs) (hs : s.size ≤ 9223372036854775807) (hu : I.mkd 64 (bys s) = true) (hn : n ≤ 900000) (r0 : 0 ≤ now) (r1 : now ≤ 1000000000) (r2 : 1 ≤ span) (r3 : span ≤ 30000) (hnu : ∀ q ∈ zs, pu s q = false) (zz : List Tp) (hz : zz = ins s (s, now + span) zs) (m : Nat) (hm : zz.length = m) : Calls Try.prog 13 #[.slice A n c, .string s, .int .i64 now, .int .i64 span] w (StP w zz m) := by
  have H := Lib.hid h
  have HZ := Lib.hid hz
  have HM := Lib.hid hm
  have HSs := Lib.hid hs
  have HU := Lib.hid (fun u => user_any s hs u)
  rw [hu, err_t] at HU
  have H2 := Lib.hid hnu
  clear hnu
  clear h hz hs hu hm
  go_enter Try.func13, Try.ntmps13
  go_wp2_with (first
    | (go_at_call 25; (with_reducible refine (HU.out _).mono ?_); rintro e w1 ⟨rfl, hb1⟩; have B1 := Lib.hid hb1; have B2 := Lib.hid (hb1.alloc hb1.size (.cells #[.string s, .int .i64 (now + span)] 44)); have HC := Lib.hid (named27_ins A n c zs (s, now + span) (w1.alloc (.cells #[.string s, .int .i64 (now + span)] 44)) (H.out.below B2.out) HSs.out hn H2.out zz HZ.out); clear hb1)
    | (go_at_call 27; (with_reducible refine HC.out.mono ?_); rintro e w2 ⟨A2, c2, rfl, hT2, hb2, hap⟩; have T2 := Lib.hid hT2; have B3 := Lib.hid (B2.out.trans (hb2.mono B2.out.size)); clear hT2 hb2 hap))
  go_ret2
  have e1 := HM.out
  refine ⟨A2, c2, ?_, e1 ▸ T2.out, B3.out⟩
  rw [← e1]; rfl
end Go.Proofs.Ytjifohepbmaebaa
