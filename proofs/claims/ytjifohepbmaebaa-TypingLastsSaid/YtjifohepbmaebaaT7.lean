/- Who types: a record put at the end, or in the place of one. Bound: at most 1000000 records. -/
import Derived.Test.YtjifohepbmaebaaT6
import Derived.Test.YtjifohepbmaebaaIW8
import Derived.Deep.RegionHeld3
namespace Go.Proofs.Ytjifohepbmaebaa
open Go.RowKit
set_option linter.unusedVariables false
set_option linter.unusedSimpArgs false

theorem own_mono {w : World} {B B' : Nat} {e : TypeId} {sz n : Nat} {v : Value} {xs : List Value} (h : w.ownsRow B e sz v n xs) (hB : B' ≤ B) : w.ownsRow B' e sz v n xs :=
  ⟨h.1, h.2.imp id fun ⟨g, cap, cur, e, hg, r⟩ => ⟨g, cap, cur, e, Nat.le_trans hB hg, r⟩⟩
theorem ret_slice2 {A : Option Addr} {n m c : Nat} (h : m = n) : Ending.returned (.slice A n c) = .returned (.slice A m c) := by rw [h]
theorem blk_src {w : World} {g : Nat} {p : Tp} (h : Blk w g [.string p.1, .int .i64 p.2] 44) : Src w (some ⟨g, 0, none⟩) 1 1 2 [.string p.1, .int .i64 p.2] :=
  ⟨rfl, (fun e => by cases e), .inr ⟨g, 0, rfl, h.lt, fun j u hu => by rw [Nat.zero_add]; exact h.cell hu⟩, by simp [Value.oneCell']⟩
theorem run_end22 {A : Option Addr} {n c : Nat} (hc : n ≤ c) (w : World) : ∃ X, ∀ w, (Instr.sliceAt 22 (.slice A n c) (some (.int .i64 (n : Int))) none none).run Try.prog w = .ok (.slice X 0 (c - n)) w := by
  refine ⟨if c = n then A else A.map (·.add (n * 2)), fun w => ?_⟩
  have hrun := run_slice_l (P := Try.prog) w 22 A n c under22 .i64 (n : Int) (by omega) (by omega)
  rw [size22e] at hrun
  rw [run_sliceAt_slice w 22 _ _ _ _ under22, hrun]
  show Result.ok (sliced A n n c 2) w = _
  unfold sliced
  rw [Nat.sub_self]
set_option maxHeartbeats 1000000 in
theorem ins60_end (A : Option Addr) (n c : Nat) (zs : List Tp) (p : Tp) (g : Nat) (w w0 : World) (h : w.ownsRow w0.heap.size 44 2 (.slice A n c) n (cl zs)) (hg : Blk w g [.string p.1, .int .i64 p.2] 44) (hp : p.1.size ≤ 9223372036854775807) (hf : ∀ p ∈ zs, p.1.size ≤ 9223372036854775807) (hn : n ≤ 900000) (hl : zs.length = n) (hb0 : Below w0.heap.size w0 w) :
    Calls Try.prog 60 #[.slice A n c, .int .i64 (n : Int), .slice (some ⟨g, 0, none⟩) 1 1] w fun e w' => ∃ A' c', e = .returned (.slice A' (n + 1) c') ∧ Tps w' A' (n + 1) c' (zs ++ [p]) ∧ Below w0.heap.size w0 w' ∧ (∀ b off, A' = some ⟨b, off, none⟩ → w0.heap.size ≤ b) ∧ w.grownBy w' (Value.slice A n c).ownBlock := by
  have hc : n ≤ c := by
    rcases h.2 with ⟨hv, h1⟩ | ⟨g, cap, cur, hv, _, _, hnc, _⟩
    · omega
    · simp only [Value.slice.injEq, true_and] at hv
      rw [hv.2]; exact hnc
  obtain ⟨X, r1⟩ := run_end22 (A := A) hc w
  have H := Lib.hid h
  have HG := Lib.hid (blk_src hg)
  have HB := Lib.hid hb0
  have HF := Lib.hid hf
  have HP := Lib.hid hp
  have HL := Lib.hid hl
  obtain ⟨i0, hi, hz0, hz1, hz2⟩ := info_parts info44
  have HI := Lib.hid (And.intro hi (And.intro hz0 (And.intro hz1 hz2)))
  clear h hg hb0 hf hp hl hi hz0 hz1 hz2
  go_enter Try.func60, Try.ntmps60
  go_wp2_with (at_builtin; refine wpList_append_any _ rfl (.tmp 23) (.tmp 24) 22 rfl w0.heap.size 44 i0 _ 2 24 Try.underlying22 HI.out.1 HI.out.2.1 HI.out.2.2.1 HI.out.2.2.2 rfl (by decide) (.slice A n c) n (cl zs) rfl H.out (some ⟨g, 0, none⟩) 1 1 [.string p.1, .int .i64 p.2] rfl HG.out (by unfold maxLen; omega) (by omega) HB.out.size ?_; intro v3 w3 hgr; have B3 := Lib.hid (hgr.below HB.out H.out); have O3 := Lib.hid hgr.own; have W3 := Lib.hid hgr.grow; clear hgr)
  have h3 := O3.out
  rw [cl_snoc] at h3
  obtain ⟨A2, c2, rfl, hT, hap⟩ := Tps.ofOwn h3 (by rw [List.length_append, HL.out]; rfl) (by omega) (fun q hq => by rcases List.mem_append.1 hq with h | h; exact HF.out q h; rw [List.mem_singleton.1 h]; exact HP.out)
  have T3 := Lib.hid hT
  have P3 := Lib.hid hap
  clear h3 hT hap
  go_ret
  exact ⟨A2, c2, rfl, T3.out, B3.out, P3.out, W3.out⟩
set_option maxRecDepth 100000 in
set_option maxHeartbeats 4000000 in
theorem insert50_end (A : Option Addr) (n c : Nat) (zs : List Tp) (x : Tp) (own : ByteArray) (c1 c2 : Nat) (w : World) (h : Tps w A n c zs) (hx : x.1.size ≤ 9223372036854775807) (hn : n ≤ 900000) (h1 : c1 < w.heap.size) (h2 : c2 < w.heap.size) (k1 : w.cell? ⟨c1, 0, none⟩ = some (.func (.func 28) #[] #[])) (k2 : w.cell? ⟨c2, 0, none⟩ = some (.string own)) (hno : ∀ q ∈ zs, pb own q = false) :
    Calls Try.prog 50 #[.slice A n c, .agg #[.string x.1, .int .i64 x.2], .func (.func 40) #[] #[.pointer (some ⟨c1, 0, none⟩), .pointer (some ⟨c2, 0, none⟩)]] w (FilP w.heap.size w (zs ++ [x])) := by
  have H := Lib.hid h
  have hfz := Lib.hid h.fit
  have HBy := Lib.hid (show n * 24 ≤ 140737488355328 by omega)
  have BA := Lib.hid ((Below.refl w.heap.size w).alloc (Nat.le_refl _) (.cells #[.string x.1, .int .i64 x.2] 44))
  have X0 := Lib.hid (blk_new w [.string x.1, .int .i64 x.2] 44)
  have HI := Lib.hid (index40 (pb own) c1 c2 A n c zs (w.alloc (.cells #[.string x.1, .int .i64 x.2] 44)) (h.below BA.out) (fun p u hu => pred40 p own c1 c2 u (Nat.lt_of_lt_of_le (Nat.lt_of_lt_of_le h1 BA.out.size) hu.size) (Nat.lt_of_lt_of_le (Nat.lt_of_lt_of_le h2 BA.out.size) hu.size) ((hu.cell (p := ⟨c1, 0, none⟩) (Nat.lt_of_lt_of_le h1 BA.out.size)).trans ((BA.out.cell (p := ⟨c1, 0, none⟩) h1).trans k1)) ((hu.cell (p := ⟨c2, 0, none⟩) (Nat.lt_of_lt_of_le h2 BA.out.size)).trans ((BA.out.cell (p := ⟨c2, 0, none⟩) h2).trans k2))))
  have e0 : fidx (pb own) zs = -1 := by
    rcases fidx_cases (pb own) zs with ⟨e, _⟩ | ⟨k, hk, _, hq, _⟩
    · exact e
    · rw [hno _ (by rw [List.getD_eq_getElem?_getD, List.getElem?_eq_getElem hk]; exact List.getElem_mem hk)] at hq; cases hq
  rw [e0] at HI
  clear h k1 k2 hno e0
  go_enter Try.func50, Try.ntmps50
  go_upto_region 4 with (go_at_call 41; (with_reducible refine HI.out.mono ?_); rintro e w1 ⟨rfl, hb1⟩; have X1 := Lib.hid (X0.out.below hb1); have B1 := Lib.hid (BA.out.trans (hb1.mono BA.out.size)); clear hb1)
  obtain ⟨bx, hbx⟩ : ∃ bx, bx = w.heap.size := ⟨_, rfl⟩
  rw [← hbx] at X1
  simp only [← hbx]
  refine wp_region_held_drew (S := (fun w' => Blk w' bx [.string x.1, .int .i64 x.2] 44 ∧ Below w.heap.size w w')) (by kernel_rfl) (⟨X1.out.drew, B1.out.drew⟩) (fun hH0 => ?_)
  generalize w1.drew = y0 at hH0 ⊢
  have RX0 : Hid (Blk y0 bx [.string x.1, .int .i64 x.2] 44) := Lib.hid hH0.1
  have RB0 : Hid (Below w.heap.size w y0) := Lib.hid hH0.2
  refine wpAnyH_take (i := 0) (oi := ({ dst := some 15, op := Op.move (Operand.tmp 0), type := 22, pos := "ordered.go:12", after := #[], guard := none } : Oper)) (v := ?hv1) rfl (by kernel_rfl) (by kernel_rfl) (by kernel_rfl) (fun _ _ _ h => h) (Or.inl ⟨by rfl, ?hy1⟩) (by assumption) ?hr1
  case hy1 => (intro w hSw; (try dsimp only at hSw); go_simp; (try with_reducible rfl))
  try simp only [Act.put, List.setIfInBounds_toArray, List.set_cons_zero, List.set_cons_succ]
  refine wpAnyH_take (i := 2) (oi := ({ dst := some 17, op := Op.move (Operand.tmp 7), type := 3, pos := "ordered.go:12", after := #[], guard := none } : Oper)) (v := ?hv2) rfl (by kernel_rfl) (by kernel_rfl) (by kernel_rfl) (fun _ _ _ h => h) (Or.inl ⟨by rfl, ?hy2⟩) (by assumption) ?hr2
  case hy2 => (intro w hSw; (try dsimp only at hSw); go_simp; (try with_reducible rfl))
  try simp only [Act.put, List.setIfInBounds_toArray, List.set_cons_zero, List.set_cons_succ]
  refine wpAnyH_take (i := 3) (oi := ({ dst := some 18, op := Op.load 44 (Operand.tmp 4), type := 44, pos := "ordered.go:12", after := #[], guard := none } : Oper)) (v := .agg #[.string x.1, .int .i64 x.2]) rfl (by kernel_rfl) (by kernel_rfl) (by kernel_rfl) (fun _ _ _ h => h) (yieldsIf_load_mid (by rfl) 44 _ rfl bx 0 rfl [.string x.1, .int .i64 x.2] _ (fun w hw => hw.1.range) Try.underlying44 rfl size44) (by assumption) ?_
  try simp only [Act.put, List.setIfInBounds_toArray, List.set_cons_zero, List.set_cons_succ]
  refine wpAnyH_ready (rs := [1, 4]) (by kernel_rfl) (by simp) ?_
  refine AllReadyH.cons (o := ({ dst := some 16, op := Op.call { callee := Callee.value (Operand.func 51), args := #[Operand.tmp 15], argTypes := #[22] }, type := 22, pos := "ordered.go:12", after := #[{ on := 0, ground := Ground.data }], guard := none } : Oper)) rfl (fun KK hKK => ?_) ?_
  · go_simp
    (with_reducible refine (clone51 A n c (rowT zs) _ (H.out.below RB0.out).rws HBy.out).mono ?_)
    rintro e0 y1 ⟨A1, c1, rfl, hC⟩
    have RB1 := Lib.hid (RB0.out.trans (hC.bel.mono RB0.out.size))
    have RX1 := Lib.hid (RX0.out.below hC.bel)
    have RO1 : Hid (y1.ownsRow w.heap.size 44 2 (.slice A1 n c1) n (cl zs)) := Lib.hid (own_mono (by have := hC.own; rw [← H.out.len, flat_cl] at this; rw [← H.out.len]; exact this) RB0.out.size)
    have RN : Hid (∀ b, (Value.slice A1 n c1).ownBlock = some b → b ≠ bx) := Lib.hid (fun b e => by have h1 := (hC.own.lt b e).1; have h2 := RX0.out.lt; omega)
    clear hC
    refine hKK.out _ _ (⟨RX1.out, RB1.out⟩) (fun hH1 => ?_)
    clear hKK KK
    try simp only [Act.put, List.setIfInBounds_toArray, List.set_cons_zero, List.set_cons_succ]
    refine wpAnyH_ready (rs := [4]) (by kernel_rfl) (by simp) ?_
    refine AllReadyH.cons (o := ({ dst := some 19, op := Op.buildSlice 22 1 #[(0, Operand.tmp 18)], type := 22, pos := "ordered.go:12", after := #[{ on := 3, ground := Ground.data }], guard := none } : Oper)) rfl (fun KK hKK => ?_) AllReadyH.nil
    go_simp
    generalize hy2 : World.alloc _ _ = y2
    generalize hg4 : (World.heap y1).size = g4
    have RB2 : Hid (Below w.heap.size w y2) := Lib.hid (by rw [← hy2]; exact RB1.out.alloc RB1.out.size _)
    have RX2 : Hid (Blk y2 bx [.string x.1, .int .i64 x.2] 44) := Lib.hid (by rw [← hy2]; exact RX1.out.alloc _)
    have RG2 : Hid (Blk y2 g4 [.string x.1, .int .i64 x.2] 44) := Lib.hid (by rw [← hy2, ← hg4]; exact blk_new _ [.string x.1, .int .i64 x.2] 44)
    have RO2 : Hid (y2.ownsRow w.heap.size 44 2 (.slice A1 n c1) n (cl zs)) := Lib.hid (by rw [← hy2]; exact RO1.out.alloc _)
    clear hy2 hg4
    refine hKK.out _ _ (⟨RX2.out, RB2.out⟩) (fun hH2 => ?_)
    clear hKK KK
    try simp only [Act.put, List.setIfInBounds_toArray, List.set_cons_zero, List.set_cons_succ]
    refine wpAnyH_ready (rs := [5]) (by kernel_rfl) (by simp) ?_
    refine AllReadyH.cons (o := ({ dst := some 20, op := Op.call { callee := Callee.value (Operand.func 60), args := #[Operand.tmp 16, Operand.tmp 17, Operand.tmp 19], argTypes := #[22, 3, 22] }, type := 22, pos := "ordered.go:12", after := #[{ on := 1, ground := Ground.data }, { on := 2, ground := Ground.data }, { on := 4, ground := Ground.data }, { on := 1, ground := Ground.chain }], guard := none } : Oper)) rfl (fun KK hKK => ?_) AllReadyH.nil
    go_simp
    (with_reducible refine (ins60_end A1 n c1 zs x g4 _ _ RO2.out RG2.out hx hfz.out hn H.out.len RB2.out).mono ?_)
    rintro e0 y3 ⟨A2, c2, rfl, hT2, hb2, hap2, hgw⟩
    have RB3 := Lib.hid hb2
    have RT := Lib.hid hT2
    have RP := Lib.hid hap2
    have RX3 : Hid (Blk y3 bx [.string x.1, .int .i64 x.2] 44) := Lib.hid ⟨(hgw.block bx RX2.out.lt (fun e => RN.out bx e.symm rfl)).trans RX2.out.heap⟩
    clear hT2 hb2 hap2 hgw
    refine hKK.out _ _ (⟨RX3.out, RB3.out⟩) (fun hH3 => ?_)
    clear hKK KK
    try simp only [Act.put, List.setIfInBounds_toArray, List.set_cons_zero, List.set_cons_succ]
    refine wpAnyH_take (i := 6) (oi := ({ dst := some 6, op := Op.assign (Operand.tmp 20), type := 22, pos := "ordered.go:12", after := #[{ on := 5, ground := Ground.data }, { on := 5, ground := Ground.chain }, { on := 0, ground := Ground.phase }, { on := 1, ground := Ground.phase }, { on := 2, ground := Ground.phase }, { on := 3, ground := Ground.phase }, { on := 4, ground := Ground.phase }, { on := 5, ground := Ground.phase }], guard := none } : Oper)) (v := ?hv3) rfl (by kernel_rfl) (by kernel_rfl) (by kernel_rfl) (fun _ _ _ h => h) (Or.inl ⟨by rfl, ?hy3⟩) (by assumption) ?hr3
    case hy3 => (intro w hSw; (try dsimp only at hSw); go_simp; (try with_reducible rfl))
    try simp only [Act.put, List.setIfInBounds_toArray, List.set_cons_zero, List.set_cons_succ]
    refine wpAnyH_done (by kernel_rfl) ?_ _
    go_wp2
    go_ret
    exact ⟨A2, c2, ret_slice2 (by rw [List.length_append, H.out.len]; rfl), (by rw [List.length_append, H.out.len]; exact RT.out), RB3.out, RP.out⟩
  refine AllReadyH.cons (o := ({ dst := some 19, op := Op.buildSlice 22 1 #[(0, Operand.tmp 18)], type := 22, pos := "ordered.go:12", after := #[{ on := 3, ground := Ground.data }], guard := none } : Oper)) rfl (fun KK hKK => ?_) AllReadyH.nil
  go_simp
  generalize hy1 : World.alloc _ _ = y1
  generalize hg4 : (World.heap y0).size = g4
  have RB1 : Hid (Below w.heap.size w y1) := Lib.hid (by rw [← hy1]; exact RB0.out.alloc RB0.out.size _)
  have RX1 : Hid (Blk y1 bx [.string x.1, .int .i64 x.2] 44) := Lib.hid (by rw [← hy1]; exact RX0.out.alloc _)
  have RG1 : Hid (Blk y1 g4 [.string x.1, .int .i64 x.2] 44) := Lib.hid (by rw [← hy1, ← hg4]; exact blk_new _ [.string x.1, .int .i64 x.2] 44)
  clear hy1 hg4
  refine hKK.out _ _ (⟨RX1.out, RB1.out⟩) (fun hH1 => ?_)
  clear hKK KK
  try simp only [Act.put, List.setIfInBounds_toArray, List.set_cons_zero, List.set_cons_succ]
  refine wpAnyH_ready (rs := [1]) (by kernel_rfl) (by simp) ?_
  refine AllReadyH.cons (o := ({ dst := some 16, op := Op.call { callee := Callee.value (Operand.func 51), args := #[Operand.tmp 15], argTypes := #[22] }, type := 22, pos := "ordered.go:12", after := #[{ on := 0, ground := Ground.data }], guard := none } : Oper)) rfl (fun KK hKK => ?_) AllReadyH.nil
  go_simp
  (with_reducible refine (clone51 A n c (rowT zs) _ (H.out.below RB1.out).rws HBy.out).mono ?_)
  rintro e0 y2 ⟨A1, c1, rfl, hC⟩
  have RB2 := Lib.hid (RB1.out.trans (hC.bel.mono RB1.out.size))
  have RX2 := Lib.hid (RX1.out.below hC.bel)
  have RO2 : Hid (y2.ownsRow w.heap.size 44 2 (.slice A1 n c1) n (cl zs)) := Lib.hid (own_mono (by have := hC.own; rw [← H.out.len, flat_cl] at this; rw [← H.out.len]; exact this) RB1.out.size)
  have RG2 := Lib.hid (RG1.out.below hC.bel)
  have RN : Hid (∀ b, (Value.slice A1 n c1).ownBlock = some b → b ≠ bx) := Lib.hid (fun b e => by have h1 := (hC.own.lt b e).1; have h2 := RX1.out.lt; omega)
  clear hC
  refine hKK.out _ _ (⟨RX2.out, RB2.out⟩) (fun hH2 => ?_)
  clear hKK KK
  try simp only [Act.put, List.setIfInBounds_toArray, List.set_cons_zero, List.set_cons_succ]
  refine wpAnyH_ready (rs := [5]) (by kernel_rfl) (by simp) ?_
  refine AllReadyH.cons (o := ({ dst := some 20, op := Op.call { callee := Callee.value (Operand.func 60), args := #[Operand.tmp 16, Operand.tmp 17, Operand.tmp 19], argTypes := #[22, 3, 22] }, type := 22, pos := "ordered.go:12", after := #[{ on := 1, ground := Ground.data }, { on := 2, ground := Ground.data }, { on := 4, ground := Ground.data }, { on := 1, ground := Ground.chain }], guard := none } : Oper)) rfl (fun KK hKK => ?_) AllReadyH.nil
  go_simp
  (with_reducible refine (ins60_end A1 n c1 zs x g4 _ _ RO2.out RG2.out hx hfz.out hn H.out.len RB2.out).mono ?_)
  rintro e0 y3 ⟨A2, c2, rfl, hT2, hb2, hap2, hgw⟩
  have RB3 := Lib.hid hb2
  have RT := Lib.hid hT2
  have RP := Lib.hid hap2
  have RX3 : Hid (Blk y3 bx [.string x.1, .int .i64 x.2] 44) := Lib.hid ⟨(hgw.block bx RX2.out.lt (fun e => RN.out bx e.symm rfl)).trans RX2.out.heap⟩
  clear hT2 hb2 hap2 hgw
  refine hKK.out _ _ (⟨RX3.out, RB3.out⟩) (fun hH3 => ?_)
  clear hKK KK
  try simp only [Act.put, List.setIfInBounds_toArray, List.set_cons_zero, List.set_cons_succ]
  refine wpAnyH_take (i := 6) (oi := ({ dst := some 6, op := Op.assign (Operand.tmp 20), type := 22, pos := "ordered.go:12", after := #[{ on := 5, ground := Ground.data }, { on := 5, ground := Ground.chain }, { on := 0, ground := Ground.phase }, { on := 1, ground := Ground.phase }, { on := 2, ground := Ground.phase }, { on := 3, ground := Ground.phase }, { on := 4, ground := Ground.phase }, { on := 5, ground := Ground.phase }], guard := none } : Oper)) (v := ?hv4) rfl (by kernel_rfl) (by kernel_rfl) (by kernel_rfl) (fun _ _ _ h => h) (Or.inl ⟨by rfl, ?hy4⟩) (by assumption) ?hr4
  case hy4 => (intro w hSw; (try dsimp only at hSw); go_simp; (try with_reducible rfl))
  try simp only [Act.put, List.setIfInBounds_toArray, List.set_cons_zero, List.set_cons_succ]
  refine wpAnyH_done (by kernel_rfl) ?_ _
  go_wp2
  go_ret
  exact ⟨A2, c2, ret_slice2 (by rw [List.length_append, H.out.len]; rfl), (by rw [List.length_append, H.out.len]; exact RT.out), RB3.out, RP.out⟩
end Go.Proofs.Ytjifohepbmaebaa
