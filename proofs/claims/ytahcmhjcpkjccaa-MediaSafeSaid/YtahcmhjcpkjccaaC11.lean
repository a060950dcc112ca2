/- Media: the reference's put. Bound: at most 900000 files. -/
import Derived.Test.YtahcmhjcpkjccaaC10
namespace Go.Proofs.Ytahcmhjcpkjccaa
open Go.RowKit
set_option linter.unusedVariables false
set_option linter.unusedSimpArgs false

theorem own_belowR {w w' : World} {B : Nat} {v : Value} {n : Nat} {xs : List Value} (h : w.ownsRow B 26 5 v n xs) (hb : Below w.heap.size w w') : w'.ownsRow B 26 5 v n xs :=
  ⟨h.1, h.2.imp id fun ⟨g, cap, cur, e, hB, hg, r⟩ => ⟨g, cap, cur, e, hB, (hb.block g (Blk.lt (T := 26) (cs := cur.toList) ⟨by rw [Array.toArray_toList]; exact hg⟩)).trans hg, r⟩⟩
theorem run_fromA {A : Option Addr} {n c k : Nat} (hk : k ≤ n) (w : World) : (Instr.sliceAt 22 (.slice A n c) (some (.int .i64 (k : Int))) none none).run Try.prog w = .ok (.slice (if c = k then A else A.map (·.add (k * 5))) (n - k) (c - k)) w := by
  have hrun := run_slice_l (P := Try.prog) w 22 A n c under22 .i64 (k : Int) (by omega) (by omega)
  rw [size22e] at hrun
  rw [run_sliceAt_slice w 22 _ _ _ _ under22, hrun]
  rfl
/-- Where the reference puts. -/
def rK (m : Rc) (zs : List Rc) : Nat := zs.findIdx fun p => !bef p m.sv m.nm
def rputL (m : Rc) (zs : List Rc) : List Rc := zs.take (rK m zs) ++ m :: zs.drop (rK m zs)
set_option maxRecDepth 100000 in
set_option maxHeartbeats 8000000 in
theorem rput34 (A : Option Addr) (n c : Nat) (zs : List Rc) (m : Rc) (w : World) (h : Rcs w A n c zs) (hm : fitR m) (hn : n ≤ 900000) (zz : List Rc) (hz : zz = rputL m zs) : Calls Try.prog 34 #[.slice A n c, .agg #[.string m.sv, .string m.nm, .int .i64 m.sz, .int .i64 m.tt, .int .i64 m.st]] w (FilP w.heap.size w zz) := by
  obtain ⟨K, hKd⟩ : ∃ K, K = rK m zs := ⟨_, rfl⟩
  have HK : Hid (K ≤ n) := Lib.hid (by rw [hKd, ← h.len]; exact List.findIdx_le_length)
  have HQ : Hid (∀ j, j < n → j ≤ K → bef (zs.getD j t0) m.sv m.nm = !decide (j = K)) := Lib.hid (by
    intro j hj hjK
    have hj' : j < zs.length := by rw [h.len]; exact hj
    rw [getD_at hj']
    by_cases e : j = K
    · subst e
      rw [decide_eq_true rfl]
      have h1 : zs.findIdx (fun p => !bef p m.sv m.nm) < zs.length := by rw [show zs.findIdx (fun p => !bef p m.sv m.nm) = j from hKd.symm]; exact hj'
      have h2 := List.findIdx_getElem (w := h1)
      simp only [show zs.findIdx (fun p => !bef p m.sv m.nm) = j from hKd.symm] at h2
      simpa using h2
    · rw [decide_eq_false e]
      have h2 := List.not_of_lt_findIdx (p := fun p => !bef p m.sv m.nm) (xs := zs) (i := j) (by rw [show zs.findIdx (fun p => !bef p m.sv m.nm) = K from hKd.symm]; omega)
      simpa using h2)
  have HZ0 : Hid (zz = zs.take K ++ m :: zs.drop K) := Lib.hid (by rw [hz, hKd]; rfl)
  have HFit : Hid (∀ p ∈ zz, fitR p) := Lib.hid (by
    rw [HZ0.out]
    intro p hp
    rcases List.mem_append.1 hp with h1 | h1
    · exact h.fit p (List.mem_of_mem_take h1)
    · rcases List.mem_cons.1 h1 with h2 | h2
      · rw [h2]; exact hm
      · exact h.fit p (List.mem_of_mem_drop h2))
  have H := Lib.hid h
  have HL := Lib.hid h.len
  obtain ⟨i0, hi, hz0, hz1, hz2⟩ := info_parts info44
  have HI := Lib.hid (And.intro hi (And.intro hz0 (And.intro hz1 hz2)))
  have hB1 := (Below.refl w.heap.size w).alloc (Nat.le_refl _) (.cells #[.string m.sv, .string m.nm, .int .i64 m.sz, .int .i64 m.tt, .int .i64 m.st] 26)
  have hX1 := blk_new w [.string m.sv, .string m.nm, .int .i64 m.sz, .int .i64 m.tt, .int .i64 m.st] 26
  clear h hi hz0 hz1 hz2 hz hKd hm
  go_enter Try.func34, Try.ntmps34
  go_wp2
  generalize w.alloc _ = u1 at hB1 hX1 ⊢
  have B1 := Lib.hid hB1
  have X1 := Lib.hid hX1
  clear hB1 hX1
  go_loopg [5, 6] n (fun gg s5 s6 wr => ∃ (kk : Nat) (v : Value), kk ≤ K ∧ n - kk ≤ gg ∧ v = s5 ∧ s6 = .int .i64 kk ∧ Hid (wr.ownsRow u1.heap.size 26 5 v kk (cl (zs.take kk))) ∧ Hid (Below u1.heap.size u1 wr))
  case atStart => exact ⟨0, .slice none 0 0, Nat.zero_le _, by omega, rfl, rfl, Lib.hid (World.ownsRow_nil u1 _ 26 5), Lib.hid (Below.refl _ _)⟩
  case round =>
    obtain ⟨kk, v, hkK, hg, rfl, rfl, HO, BW⟩ := hrel
    have hKn := HK.out
    have XW := Lib.hid (X1.out.below BW.out)
    by_cases hlt : kk < n
    · have hltz : (kk : Int) < (n : Int) := by omega
      obtain ⟨b, off, eA, hbl, hr, _⟩ := (H.out.below (B1.out.trans (BW.out.mono B1.out.size))).get hlt
      have HC := Lib.hid (fun u (hb : Below w.heap.size w u) => (H.out.below hb).at_ hlt)
      have hq := HQ.out kk hlt hkK
      have HNx := Lib.hid (show cl (zs.take kk) ++ enc (zs.getD kk t0) = cl (zs.take (kk + 1)) by rw [cl_snoc, List.take_succ_eq_append_getElem (by rw [HL.out]; exact hlt), getD_at (by rw [HL.out]; exact hlt)])
      subst eA
      generalize zs.getD kk t0 = p at hr hq HC HNx
      have PR : Hid (∀ u, Below wr.heap.size wr u → World.rangeAt u b (off + kk * 5) (enc p)) := Lib.hid (fun u hu j v hv => (hu.cell (p := ⟨b, off + kk * 5 + j, none⟩) hbl).trans (hr j v hv))
      by_cases e : kk = K
      · subst e
        have hbf : bef p m.sv m.nm = false := by rw [hq]; simp
        have HZ := HZ0
        clear hq hr
        obtain ⟨FX, hFr, hFs⟩ : ∃ FX, (∀ w, (Instr.sliceAt 22 (.slice (some ⟨b, off, none⟩) n c) (some (.int .i64 (kk : Int))) none none).run Try.prog w = .ok (.slice FX (n - kk) (c - kk)) w) ∧ ∀ w, Rcs w (some ⟨b, off, none⟩) n c zs → Src w FX (n - kk) (c - kk) 5 (cl (zs.drop kk)) := ⟨_, run_fromA HK.out, fun w h => h.dropSrc HK.out⟩
        have rF := Lib.hid hFr
        have RFs := Lib.hid hFs
        clear hFr hFs
        go_upto_region 3 with (fail)
        refine wp_region_held_drew (S := (fun w0 => Below wr.heap.size wr w0)) (by kernel_rfl) ((Below.refl _ _).drew) (fun hH0 => ?_)
        generalize wr.drew = y0 at hH0 ⊢
        have RB0 : Hid (Below wr.heap.size wr y0) := Lib.hid hH0
        refine wpAnyH_take (i := 0) (oi := ({ dst := some 7, op := Op.move (Operand.tmp 6), type := 3, pos := "ref.go:60", after := #[], guard := none } : Oper)) (v := ?hv1) rfl (by kernel_rfl) (by kernel_rfl) (by kernel_rfl) (fun _ _ _ h => h) (Or.inl ⟨by rfl, ?hy1⟩) (by assumption) ?hr1
        case hy1 => (intro w hSw; (try dsimp only at hSw); go_simp; (try with_reducible rfl))
        try simp only [Act.put, List.setIfInBounds_toArray, List.set_cons_zero, List.set_cons_succ]
        refine wpAnyH_take (i := 1) (oi := ({ dst := some 8, op := Op.move (Operand.tmp 0), type := 22, pos := "ref.go:60", after := #[], guard := none } : Oper)) (v := ?hv2) rfl (by kernel_rfl) (by kernel_rfl) (by kernel_rfl) (fun _ _ _ h => h) (Or.inl ⟨by rfl, ?hy2⟩) (by assumption) ?hr2
        case hy2 => (intro w hSw; (try dsimp only at hSw); go_simp; (try with_reducible rfl))
        try simp only [Act.put, List.setIfInBounds_toArray, List.set_cons_zero, List.set_cons_succ]
        refine wpAnyH_take (i := 2) (oi := ({ dst := some 9, op := Op.call { callee := Callee.builtin Builtin.len, args := #[Operand.tmp 8], argTypes := #[22] }, type := 3, pos := "ref.go:60", after := #[{ on := 1, ground := Ground.data }], guard := none } : Oper)) (v := ?hv3) rfl (by kernel_rfl) (by kernel_rfl) (by kernel_rfl) (fun _ _ _ h => h) (Or.inl ⟨by rfl, ?hy3⟩) (by assumption) ?hr3
        case hy3 => (intro w hSw; (try dsimp only at hSw); go_simp; (try with_reducible rfl))
        try simp only [Act.put, List.setIfInBounds_toArray, List.set_cons_zero, List.set_cons_succ]
        refine wpAnyH_take (i := 3) (oi := ({ dst := some 10, op := Op.binOp BinOp.lss 3 (Operand.tmp 7) (Operand.tmp 9) 3, type := 4, pos := "ref.go:60", after := #[{ on := 0, ground := Ground.data }, { on := 2, ground := Ground.data }], guard := none } : Oper)) (v := ?hv4) rfl (by kernel_rfl) (by kernel_rfl) (by kernel_rfl) (fun _ _ _ h => h) (Or.inl ⟨by rfl, ?hy4⟩) (by assumption) ?hr4
        case hy4 => (intro w hSw; (try dsimp only at hSw); go_simp; (try with_reducible rfl))
        try simp only [Act.put, List.setIfInBounds_toArray, List.set_cons_zero, List.set_cons_succ]
        refine wpAnyH_take (i := 4) (oi := ({ dst := some 11, op := Op.move (Operand.tmp 10), type := 4, pos := "ref.go:60", after := #[{ on := 3, ground := Ground.data }], guard := none } : Oper)) (v := ?hv5) rfl (by kernel_rfl) (by kernel_rfl) (by kernel_rfl) (fun _ _ _ h => h) (Or.inl ⟨by rfl, ?hy5⟩) (by assumption) ?hr5
        case hy5 => (intro w hSw; (try dsimp only at hSw); go_simp; (try with_reducible rfl))
        try simp only [Act.put, List.setIfInBounds_toArray, List.set_cons_zero, List.set_cons_succ]
        refine wpAnyH_take (i := 5) (oi := ({ dst := some 12, op := Op.move (Operand.tmp 0), type := 22, pos := "ref.go:60", after := #[{ on := 4, ground := Ground.guard }], guard := some (4, true) } : Oper)) (v := ?hv6) rfl (by kernel_rfl) (by kernel_rfl) (by kernel_rfl) (fun _ _ _ h => h) (Or.inl ⟨by rfl, ?hy6⟩) (by assumption) ?hr6
        case hy6 => (intro w hSw; (try dsimp only at hSw); go_simp; (try with_reducible rfl))
        try simp only [Act.put, List.setIfInBounds_toArray, List.set_cons_zero, List.set_cons_succ]
        refine wpAnyH_take (i := 6) (oi := ({ dst := some 13, op := Op.move (Operand.tmp 6), type := 3, pos := "ref.go:60", after := #[{ on := 4, ground := Ground.guard }], guard := some (4, true) } : Oper)) (v := ?hv7) rfl (by kernel_rfl) (by kernel_rfl) (by kernel_rfl) (fun _ _ _ h => h) (Or.inl ⟨by rfl, ?hy7⟩) (by assumption) ?hr7
        case hy7 => (intro w hSw; (try dsimp only at hSw); go_simp; (try with_reducible rfl))
        try simp only [Act.put, List.setIfInBounds_toArray, List.set_cons_zero, List.set_cons_succ]
        refine wpAnyH_take (i := 7) (oi := ({ dst := some 14, op := Op.indexAddr 22 (Operand.tmp 12) (Operand.tmp 13), type := 0, pos := "ref.go:60", after := #[{ on := 5, ground := Ground.data }, { on := 6, ground := Ground.data }, { on := 4, ground := Ground.guard }], guard := some (4, true) } : Oper)) (v := ?hv8) rfl (by kernel_rfl) (by kernel_rfl) (by kernel_rfl) (fun _ _ _ h => h) (Or.inl ⟨by rfl, ?hy8⟩) (by assumption) ?hr8
        case hy8 => (intro w hSw; (try dsimp only at hSw); go_simp; (try with_reducible rfl))
        try simp only [Act.put, List.setIfInBounds_toArray, List.set_cons_zero, List.set_cons_succ]
        refine wpAnyH_take (i := 8) (oi := ({ dst := some 15, op := Op.load 26 (Operand.tmp 14), type := 26, pos := "ref.go:60", after := #[{ on := 7, ground := Ground.data }, { on := 4, ground := Ground.guard }], guard := some (4, true) } : Oper)) (v := .agg #[.string p.sv, .string p.nm, .int .i64 p.sz, .int .i64 p.tt, .int .i64 p.st]) rfl (by kernel_rfl) (by kernel_rfl) (by kernel_rfl) (fun _ _ _ h => h) (yieldsIf_load_mid (by rfl) 26 _ rfl b (off + kk * 5) rfl [.string p.sv, .string p.nm, .int .i64 p.sz, .int .i64 p.tt, .int .i64 p.st] _ (fun w0 hw0 => PR.out w0 hw0) Try.underlying26 rfl size44) (by assumption) ?_
        try simp only [Act.put, List.setIfInBounds_toArray, List.set_cons_zero, List.set_cons_succ]
        refine wpAnyH_take (i := 9) (oi := ({ dst := some 16, op := Op.fieldAddr 26 (Operand.tmp 3) 0, type := 0, pos := "ref.go:60", after := #[{ on := 4, ground := Ground.guard }], guard := some (4, true) } : Oper)) (v := ?hv9) rfl (by kernel_rfl) (by kernel_rfl) (by kernel_rfl) (fun _ _ _ h => h) (Or.inl ⟨by rfl, ?hy9⟩) (by assumption) ?hr9
        case hy9 => (intro w hSw; (try dsimp only at hSw); go_simp; (try with_reducible rfl))
        try simp only [Act.put, List.setIfInBounds_toArray, List.set_cons_zero, List.set_cons_succ]
        refine wpAnyH_take (i := 10) (oi := ({ dst := some 17, op := Op.load 9 (Operand.tmp 16), type := 9, pos := "ref.go:60", after := #[{ on := 9, ground := Ground.data }, { on := 4, ground := Ground.guard }], guard := some (4, true) } : Oper)) (v := .string m.sv) rfl (by kernel_rfl) (by kernel_rfl) (by kernel_rfl) (fun _ _ _ h => h) (Or.inl ⟨by rfl, fun w0 hw0 => by have q0 := (XW.out.below hw0).cell (i := 0) rfl; go_simp⟩) (by assumption) ?_
        try simp only [Act.put, List.setIfInBounds_toArray, List.set_cons_zero, List.set_cons_succ]
        refine wpAnyH_take (i := 11) (oi := ({ dst := some 18, op := Op.fieldAddr 26 (Operand.tmp 3) 1, type := 0, pos := "ref.go:60", after := #[{ on := 4, ground := Ground.guard }], guard := some (4, true) } : Oper)) (v := ?hv10) rfl (by kernel_rfl) (by kernel_rfl) (by kernel_rfl) (fun _ _ _ h => h) (Or.inl ⟨by rfl, ?hy10⟩) (by assumption) ?hr10
        case hy10 => (intro w hSw; (try dsimp only at hSw); go_simp; (try with_reducible rfl))
        try simp only [Act.put, List.setIfInBounds_toArray, List.set_cons_zero, List.set_cons_succ]
        refine wpAnyH_take (i := 12) (oi := ({ dst := some 19, op := Op.load 9 (Operand.tmp 18), type := 9, pos := "ref.go:60", after := #[{ on := 11, ground := Ground.data }, { on := 4, ground := Ground.guard }], guard := some (4, true) } : Oper)) (v := .string m.nm) rfl (by kernel_rfl) (by kernel_rfl) (by kernel_rfl) (fun _ _ _ h => h) (Or.inl ⟨by rfl, fun w0 hw0 => by have q0 := (XW.out.below hw0).cell (i := 1) rfl; go_simp⟩) (by assumption) ?_
        try simp only [Act.put, List.setIfInBounds_toArray, List.set_cons_zero, List.set_cons_succ]
        refine wpAnyH_ready (rs := [13]) (by kernel_rfl) (by simp) ?_
        refine AllReadyH.cons (o := ({ dst := some 20, op := Op.call { callee := Callee.value (Operand.func 32), args := #[Operand.tmp 15, Operand.tmp 17, Operand.tmp 19], argTypes := #[26, 9, 9] }, type := 4, pos := "ref.go:60", after := #[{ on := 8, ground := Ground.data }, { on := 10, ground := Ground.data }, { on := 12, ground := Ground.data }, { on := 4, ground := Ground.chain }, { on := 4, ground := Ground.guard }], guard := some (4, true) } : Oper)) rfl (fun KK hKK => ?_) AllReadyH.nil
        go_simp
        (with_reducible refine (before32 p m.sv m.nm _).mono ?_)
        rintro e0 y1 ⟨rfl, hb⟩
        have RB1 := Lib.hid (RB0.out.trans (hb.mono RB0.out.size))
        clear hb
        refine hKK.out _ _ (RB1.out) (fun hH1 => ?_)
        clear hKK KK
        try simp only [Act.put, List.setIfInBounds_toArray, List.set_cons_zero, List.set_cons_succ]
        refine wpAnyH_take (i := 14) (oi := ({ dst := some 21, op := Op.pick (Operand.tmp 11) (Operand.tmp 20) (Operand.const (Value.bool false)), type := 4, pos := "ref.go:60", after := #[{ on := 4, ground := Ground.data }, { on := 13, ground := Ground.data }], guard := none } : Oper)) (v := ?hv11) rfl (by kernel_rfl) (by kernel_rfl) (by kernel_rfl) (fun _ _ _ h => h) (Or.inl ⟨by rfl, ?hy11⟩) (by assumption) ?hr11
        case hy11 => (intro w hSw; (try dsimp only at hSw); go_simp; (try with_reducible rfl))
        try simp only [Act.put, List.setIfInBounds_toArray, List.set_cons_zero, List.set_cons_succ]
        refine wpAnyH_done (by kernel_rfl) ?_ _
        have BY := Lib.hid (BW.out.trans (RB1.out.mono BW.out.size))
        have OY : Hid (y1.ownsRow u1.heap.size 26 5 v kk (cl (zs.take kk))) := Lib.hid (own_belowR HO.out RB1.out)
        have XY := Lib.hid (X1.out.below BY.out)
        have SY := Lib.hid (RFs.out _ (H.out.below (B1.out.trans (BY.out.mono B1.out.size))))
        have a0 := XY.out.cell (i := 0) rfl
        have a1 := XY.out.cell (i := 1) rfl
        have a2 := XY.out.cell (i := 2) rfl
        have a3 := XY.out.cell (i := 3) rfl
        have a4 := XY.out.cell (i := 4) rfl
        have BZ := Lib.hid (BY.out.alloc BY.out.size (.cells #[.string m.sv, .string m.nm, .int .i64 m.sz, .int .i64 m.tt, .int .i64 m.st] 26))
        have OZ := Lib.hid (OY.out.alloc (.cells #[.string m.sv, .string m.nm, .int .i64 m.sz, .int .i64 m.tt, .int .i64 m.st] 26))
        have SZ := Lib.hid (blk_src (p := m) (blk_new y1 [.string m.sv, .string m.nm, .int .i64 m.sz, .int .i64 m.tt, .int .i64 m.st] 26))
        have rf := rF.out
        go_wp2_with (first
          | (at_builtin; refine wpList_append_any _ rfl (.tmp 31) (.tmp 33) 22 rfl u1.heap.size 26 i0 _ 5 56 Try.underlying22 HI.out.1 HI.out.2.1 HI.out.2.2.1 HI.out.2.2.2 rfl (by decide) v kk (cl (zs.take kk)) rfl OZ.out (some ⟨y1.heap.size, 0, none⟩) 1 1 [.string m.sv, .string m.nm, .int .i64 m.sz, .int .i64 m.tt, .int .i64 m.st] rfl SZ.out (by unfold maxLen; omega) (by omega) BZ.out.size ?_; intro v5 w5 hgr; have B5 := Lib.hid (hgr.below BZ.out OZ.out); have O5 := Lib.hid hgr.own; have SR := Lib.hid (RFs.out _ (H.out.below (B1.out.trans (B5.out.mono B1.out.size)))); clear hgr)
          | (at_builtin; refine wpList_append_any _ rfl (.tmp 35) (.tmp 38) 22 rfl u1.heap.size 26 i0 _ 5 56 Try.underlying22 HI.out.1 HI.out.2.1 HI.out.2.2.1 HI.out.2.2.2 rfl (by decide) v5 _ _ rfl O5.out FX (n - kk) (c - kk) (cl (zs.drop kk)) rfl SR.out (by unfold maxLen; omega) (by omega) B5.out.size ?_; intro v6 w6 hgr; have B6 := Lib.hid (hgr.below B5.out O5.out); have O6 := Lib.hid hgr.own; clear hgr))
        go_ret
        have h6 := O6.out
        have e1 := HZ.out
        have hl : zz.length = n + 1 := by rw [e1, List.length_append, List.length_take, List.length_cons, List.length_drop, HL.out]; omega
        have h7 : w6.ownsRow u1.heap.size 26 5 v6 (n + 1) (cl zz) := by
          have h8 : cl (zs.take kk) ++ enc m ++ cl (zs.drop kk) = cl zz := by rw [cl_snoc, ← cl_append, e1, List.append_assoc, List.singleton_append]
          rw [show kk + 1 + (n - kk) = n + 1 by omega] at h6
          rw [← h8]
          exact h6
        obtain ⟨A6, c6, rfl, hT6, hap⟩ := Rcs.ofOwn h7 hl (by omega) HFit.out
        exact ⟨A6, c6, ret_slice2 hl, by rw [hl]; exact hT6, B1.out.trans (B6.out.mono B1.out.size), fun b off e => Nat.le_trans B1.out.size (hap b off e)⟩
      · have hbf : bef p m.sv m.nm = true := by rw [hq, decide_eq_false e]; rfl
        clear hq hr
        have hkK2 : kk + 1 ≤ K := by omega
        clear e
        go_upto_region 3 with (fail)
        refine wp_region_held_drew (S := (fun w0 => Below wr.heap.size wr w0)) (by kernel_rfl) ((Below.refl _ _).drew) (fun hH0 => ?_)
        generalize wr.drew = y0 at hH0 ⊢
        have RB0 : Hid (Below wr.heap.size wr y0) := Lib.hid hH0
        refine wpAnyH_take (i := 0) (oi := ({ dst := some 7, op := Op.move (Operand.tmp 6), type := 3, pos := "ref.go:60", after := #[], guard := none } : Oper)) (v := ?hv12) rfl (by kernel_rfl) (by kernel_rfl) (by kernel_rfl) (fun _ _ _ h => h) (Or.inl ⟨by rfl, ?hy12⟩) (by assumption) ?hr12
        case hy12 => (intro w hSw; (try dsimp only at hSw); go_simp; (try with_reducible rfl))
        try simp only [Act.put, List.setIfInBounds_toArray, List.set_cons_zero, List.set_cons_succ]
        refine wpAnyH_take (i := 1) (oi := ({ dst := some 8, op := Op.move (Operand.tmp 0), type := 22, pos := "ref.go:60", after := #[], guard := none } : Oper)) (v := ?hv13) rfl (by kernel_rfl) (by kernel_rfl) (by kernel_rfl) (fun _ _ _ h => h) (Or.inl ⟨by rfl, ?hy13⟩) (by assumption) ?hr13
        case hy13 => (intro w hSw; (try dsimp only at hSw); go_simp; (try with_reducible rfl))
        try simp only [Act.put, List.setIfInBounds_toArray, List.set_cons_zero, List.set_cons_succ]
        refine wpAnyH_take (i := 2) (oi := ({ dst := some 9, op := Op.call { callee := Callee.builtin Builtin.len, args := #[Operand.tmp 8], argTypes := #[22] }, type := 3, pos := "ref.go:60", after := #[{ on := 1, ground := Ground.data }], guard := none } : Oper)) (v := ?hv14) rfl (by kernel_rfl) (by kernel_rfl) (by kernel_rfl) (fun _ _ _ h => h) (Or.inl ⟨by rfl, ?hy14⟩) (by assumption) ?hr14
        case hy14 => (intro w hSw; (try dsimp only at hSw); go_simp; (try with_reducible rfl))
        try simp only [Act.put, List.setIfInBounds_toArray, List.set_cons_zero, List.set_cons_succ]
        refine wpAnyH_take (i := 3) (oi := ({ dst := some 10, op := Op.binOp BinOp.lss 3 (Operand.tmp 7) (Operand.tmp 9) 3, type := 4, pos := "ref.go:60", after := #[{ on := 0, ground := Ground.data }, { on := 2, ground := Ground.data }], guard := none } : Oper)) (v := ?hv15) rfl (by kernel_rfl) (by kernel_rfl) (by kernel_rfl) (fun _ _ _ h => h) (Or.inl ⟨by rfl, ?hy15⟩) (by assumption) ?hr15
        case hy15 => (intro w hSw; (try dsimp only at hSw); go_simp; (try with_reducible rfl))
        try simp only [Act.put, List.setIfInBounds_toArray, List.set_cons_zero, List.set_cons_succ]
        refine wpAnyH_take (i := 4) (oi := ({ dst := some 11, op := Op.move (Operand.tmp 10), type := 4, pos := "ref.go:60", after := #[{ on := 3, ground := Ground.data }], guard := none } : Oper)) (v := ?hv16) rfl (by kernel_rfl) (by kernel_rfl) (by kernel_rfl) (fun _ _ _ h => h) (Or.inl ⟨by rfl, ?hy16⟩) (by assumption) ?hr16
        case hy16 => (intro w hSw; (try dsimp only at hSw); go_simp; (try with_reducible rfl))
        try simp only [Act.put, List.setIfInBounds_toArray, List.set_cons_zero, List.set_cons_succ]
        refine wpAnyH_take (i := 5) (oi := ({ dst := some 12, op := Op.move (Operand.tmp 0), type := 22, pos := "ref.go:60", after := #[{ on := 4, ground := Ground.guard }], guard := some (4, true) } : Oper)) (v := ?hv17) rfl (by kernel_rfl) (by kernel_rfl) (by kernel_rfl) (fun _ _ _ h => h) (Or.inl ⟨by rfl, ?hy17⟩) (by assumption) ?hr17
        case hy17 => (intro w hSw; (try dsimp only at hSw); go_simp; (try with_reducible rfl))
        try simp only [Act.put, List.setIfInBounds_toArray, List.set_cons_zero, List.set_cons_succ]
        refine wpAnyH_take (i := 6) (oi := ({ dst := some 13, op := Op.move (Operand.tmp 6), type := 3, pos := "ref.go:60", after := #[{ on := 4, ground := Ground.guard }], guard := some (4, true) } : Oper)) (v := ?hv18) rfl (by kernel_rfl) (by kernel_rfl) (by kernel_rfl) (fun _ _ _ h => h) (Or.inl ⟨by rfl, ?hy18⟩) (by assumption) ?hr18
        case hy18 => (intro w hSw; (try dsimp only at hSw); go_simp; (try with_reducible rfl))
        try simp only [Act.put, List.setIfInBounds_toArray, List.set_cons_zero, List.set_cons_succ]
        refine wpAnyH_take (i := 7) (oi := ({ dst := some 14, op := Op.indexAddr 22 (Operand.tmp 12) (Operand.tmp 13), type := 0, pos := "ref.go:60", after := #[{ on := 5, ground := Ground.data }, { on := 6, ground := Ground.data }, { on := 4, ground := Ground.guard }], guard := some (4, true) } : Oper)) (v := ?hv19) rfl (by kernel_rfl) (by kernel_rfl) (by kernel_rfl) (fun _ _ _ h => h) (Or.inl ⟨by rfl, ?hy19⟩) (by assumption) ?hr19
        case hy19 => (intro w hSw; (try dsimp only at hSw); go_simp; (try with_reducible rfl))
        try simp only [Act.put, List.setIfInBounds_toArray, List.set_cons_zero, List.set_cons_succ]
        refine wpAnyH_take (i := 8) (oi := ({ dst := some 15, op := Op.load 26 (Operand.tmp 14), type := 26, pos := "ref.go:60", after := #[{ on := 7, ground := Ground.data }, { on := 4, ground := Ground.guard }], guard := some (4, true) } : Oper)) (v := .agg #[.string p.sv, .string p.nm, .int .i64 p.sz, .int .i64 p.tt, .int .i64 p.st]) rfl (by kernel_rfl) (by kernel_rfl) (by kernel_rfl) (fun _ _ _ h => h) (yieldsIf_load_mid (by rfl) 26 _ rfl b (off + kk * 5) rfl [.string p.sv, .string p.nm, .int .i64 p.sz, .int .i64 p.tt, .int .i64 p.st] _ (fun w0 hw0 => PR.out w0 hw0) Try.underlying26 rfl size44) (by assumption) ?_
        try simp only [Act.put, List.setIfInBounds_toArray, List.set_cons_zero, List.set_cons_succ]
        refine wpAnyH_take (i := 9) (oi := ({ dst := some 16, op := Op.fieldAddr 26 (Operand.tmp 3) 0, type := 0, pos := "ref.go:60", after := #[{ on := 4, ground := Ground.guard }], guard := some (4, true) } : Oper)) (v := ?hv20) rfl (by kernel_rfl) (by kernel_rfl) (by kernel_rfl) (fun _ _ _ h => h) (Or.inl ⟨by rfl, ?hy20⟩) (by assumption) ?hr20
        case hy20 => (intro w hSw; (try dsimp only at hSw); go_simp; (try with_reducible rfl))
        try simp only [Act.put, List.setIfInBounds_toArray, List.set_cons_zero, List.set_cons_succ]
        refine wpAnyH_take (i := 10) (oi := ({ dst := some 17, op := Op.load 9 (Operand.tmp 16), type := 9, pos := "ref.go:60", after := #[{ on := 9, ground := Ground.data }, { on := 4, ground := Ground.guard }], guard := some (4, true) } : Oper)) (v := .string m.sv) rfl (by kernel_rfl) (by kernel_rfl) (by kernel_rfl) (fun _ _ _ h => h) (Or.inl ⟨by rfl, fun w0 hw0 => by have q0 := (XW.out.below hw0).cell (i := 0) rfl; go_simp⟩) (by assumption) ?_
        try simp only [Act.put, List.setIfInBounds_toArray, List.set_cons_zero, List.set_cons_succ]
        refine wpAnyH_take (i := 11) (oi := ({ dst := some 18, op := Op.fieldAddr 26 (Operand.tmp 3) 1, type := 0, pos := "ref.go:60", after := #[{ on := 4, ground := Ground.guard }], guard := some (4, true) } : Oper)) (v := ?hv21) rfl (by kernel_rfl) (by kernel_rfl) (by kernel_rfl) (fun _ _ _ h => h) (Or.inl ⟨by rfl, ?hy21⟩) (by assumption) ?hr21
        case hy21 => (intro w hSw; (try dsimp only at hSw); go_simp; (try with_reducible rfl))
        try simp only [Act.put, List.setIfInBounds_toArray, List.set_cons_zero, List.set_cons_succ]
        refine wpAnyH_take (i := 12) (oi := ({ dst := some 19, op := Op.load 9 (Operand.tmp 18), type := 9, pos := "ref.go:60", after := #[{ on := 11, ground := Ground.data }, { on := 4, ground := Ground.guard }], guard := some (4, true) } : Oper)) (v := .string m.nm) rfl (by kernel_rfl) (by kernel_rfl) (by kernel_rfl) (fun _ _ _ h => h) (Or.inl ⟨by rfl, fun w0 hw0 => by have q0 := (XW.out.below hw0).cell (i := 1) rfl; go_simp⟩) (by assumption) ?_
        try simp only [Act.put, List.setIfInBounds_toArray, List.set_cons_zero, List.set_cons_succ]
        refine wpAnyH_ready (rs := [13]) (by kernel_rfl) (by simp) ?_
        refine AllReadyH.cons (o := ({ dst := some 20, op := Op.call { callee := Callee.value (Operand.func 32), args := #[Operand.tmp 15, Operand.tmp 17, Operand.tmp 19], argTypes := #[26, 9, 9] }, type := 4, pos := "ref.go:60", after := #[{ on := 8, ground := Ground.data }, { on := 10, ground := Ground.data }, { on := 12, ground := Ground.data }, { on := 4, ground := Ground.chain }, { on := 4, ground := Ground.guard }], guard := some (4, true) } : Oper)) rfl (fun KK hKK => ?_) AllReadyH.nil
        go_simp
        (with_reducible refine (before32 p m.sv m.nm _).mono ?_)
        rintro e0 y1 ⟨rfl, hb⟩
        have RB1 := Lib.hid (RB0.out.trans (hb.mono RB0.out.size))
        clear hb
        refine hKK.out _ _ (RB1.out) (fun hH1 => ?_)
        clear hKK KK
        try simp only [Act.put, List.setIfInBounds_toArray, List.set_cons_zero, List.set_cons_succ]
        refine wpAnyH_take (i := 14) (oi := ({ dst := some 21, op := Op.pick (Operand.tmp 11) (Operand.tmp 20) (Operand.const (Value.bool false)), type := 4, pos := "ref.go:60", after := #[{ on := 4, ground := Ground.data }, { on := 13, ground := Ground.data }], guard := none } : Oper)) (v := ?hv22) rfl (by kernel_rfl) (by kernel_rfl) (by kernel_rfl) (fun _ _ _ h => h) (Or.inl ⟨by rfl, ?hy22⟩) (by assumption) ?hr22
        case hy22 => (intro w hSw; (try dsimp only at hSw); go_simp; (try with_reducible rfl))
        try simp only [Act.put, List.setIfInBounds_toArray, List.set_cons_zero, List.set_cons_succ]
        refine wpAnyH_done (by kernel_rfl) ?_ _
        have BY := Lib.hid (BW.out.trans (RB1.out.mono BW.out.size))
        have OY : Hid (y1.ownsRow u1.heap.size 26 5 v kk (cl (zs.take kk))) := Lib.hid (own_belowR HO.out RB1.out)
        obtain ⟨b2, off2, e5, _, k0, k1, k2, k3, k4, _⟩ := HC.out _ (B1.out.trans (BY.out.mono B1.out.size))
        simp only [Option.some.injEq, Addr.mk.injEq, and_true] at e5
        obtain ⟨rfl, rfl⟩ := e5
        have BZ := Lib.hid (BY.out.alloc BY.out.size (.cells #[.string p.sv, .string p.nm, .int .i64 p.sz, .int .i64 p.tt, .int .i64 p.st] 26))
        have OZ := Lib.hid (OY.out.alloc (.cells #[.string p.sv, .string p.nm, .int .i64 p.sz, .int .i64 p.tt, .int .i64 p.st] 26))
        have SZ := Lib.hid (blk_src (p := p) (blk_new y1 [.string p.sv, .string p.nm, .int .i64 p.sz, .int .i64 p.tt, .int .i64 p.st] 26))
        go_wp2_with (at_builtin; refine wpList_append_any _ rfl (.tmp 22) (.tmp 27) 22 rfl u1.heap.size 26 i0 _ 5 56 Try.underlying22 HI.out.1 HI.out.2.1 HI.out.2.2.1 HI.out.2.2.2 rfl (by decide) v kk (cl (zs.take kk)) rfl OZ.out (some ⟨y1.heap.size, 0, none⟩) 1 1 [.string p.sv, .string p.nm, .int .i64 p.sz, .int .i64 p.tt, .int .i64 p.st] rfl SZ.out (by unfold maxLen; omega) (by omega) BZ.out.size ?_; intro v5 w5 hgr; have B5 := Lib.hid (hgr.below BZ.out OZ.out); have O5 := Lib.hid hgr.own; clear hgr)
        go_roundg (n - (kk + 1))
        case measure => omega
        case rel => exact ⟨kk + 1, v5, by omega, by omega, rfl, by go_num, Lib.hid (by have h5 := O5.out; have h6 : cl (zs.take kk) ++ enc p = cl (zs.take (kk + 1)) := HNx.out; rw [← h6]; exact h5), B5⟩
    · have hltz : ¬ (kk : Int) < (n : Int) := by omega
      have hkk : kk = K := by omega
      subst hkk
      have HZ := HZ0
      obtain ⟨FX, hFr, hFs⟩ : ∃ FX, (∀ w, (Instr.sliceAt 22 (.slice A n c) (some (.int .i64 (kk : Int))) none none).run Try.prog w = .ok (.slice FX (n - kk) (c - kk)) w) ∧ ∀ w, Rcs w A n c zs → Src w FX (n - kk) (c - kk) 5 (cl (zs.drop kk)) := ⟨_, run_fromA HK.out, fun w h => h.dropSrc HK.out⟩
      have rF := Lib.hid hFr
      have RFs := Lib.hid hFs
      clear hFr hFs
      go_upto_region 3 with (fail)
      refine wp_region_held_drew (S := (fun w0 => Below wr.heap.size wr w0)) (by kernel_rfl) ((Below.refl _ _).drew) (fun hH0 => ?_)
      generalize wr.drew = y0 at hH0 ⊢
      have RB0 : Hid (Below wr.heap.size wr y0) := Lib.hid hH0
      refine wpAnyH_take (i := 0) (oi := ({ dst := some 7, op := Op.move (Operand.tmp 6), type := 3, pos := "ref.go:60", after := #[], guard := none } : Oper)) (v := ?hv23) rfl (by kernel_rfl) (by kernel_rfl) (by kernel_rfl) (fun _ _ _ h => h) (Or.inl ⟨by rfl, ?hy23⟩) (by assumption) ?hr23
      case hy23 => (intro w hSw; (try dsimp only at hSw); go_simp; (try with_reducible rfl))
      try simp only [Act.put, List.setIfInBounds_toArray, List.set_cons_zero, List.set_cons_succ]
      refine wpAnyH_take (i := 1) (oi := ({ dst := some 8, op := Op.move (Operand.tmp 0), type := 22, pos := "ref.go:60", after := #[], guard := none } : Oper)) (v := ?hv24) rfl (by kernel_rfl) (by kernel_rfl) (by kernel_rfl) (fun _ _ _ h => h) (Or.inl ⟨by rfl, ?hy24⟩) (by assumption) ?hr24
      case hy24 => (intro w hSw; (try dsimp only at hSw); go_simp; (try with_reducible rfl))
      try simp only [Act.put, List.setIfInBounds_toArray, List.set_cons_zero, List.set_cons_succ]
      refine wpAnyH_take (i := 2) (oi := ({ dst := some 9, op := Op.call { callee := Callee.builtin Builtin.len, args := #[Operand.tmp 8], argTypes := #[22] }, type := 3, pos := "ref.go:60", after := #[{ on := 1, ground := Ground.data }], guard := none } : Oper)) (v := ?hv25) rfl (by kernel_rfl) (by kernel_rfl) (by kernel_rfl) (fun _ _ _ h => h) (Or.inl ⟨by rfl, ?hy25⟩) (by assumption) ?hr25
      case hy25 => (intro w hSw; (try dsimp only at hSw); go_simp; (try with_reducible rfl))
      try simp only [Act.put, List.setIfInBounds_toArray, List.set_cons_zero, List.set_cons_succ]
      refine wpAnyH_take (i := 3) (oi := ({ dst := some 10, op := Op.binOp BinOp.lss 3 (Operand.tmp 7) (Operand.tmp 9) 3, type := 4, pos := "ref.go:60", after := #[{ on := 0, ground := Ground.data }, { on := 2, ground := Ground.data }], guard := none } : Oper)) (v := ?hv26) rfl (by kernel_rfl) (by kernel_rfl) (by kernel_rfl) (fun _ _ _ h => h) (Or.inl ⟨by rfl, ?hy26⟩) (by assumption) ?hr26
      case hy26 => (intro w hSw; (try dsimp only at hSw); go_simp; (try with_reducible rfl))
      try simp only [Act.put, List.setIfInBounds_toArray, List.set_cons_zero, List.set_cons_succ]
      refine wpAnyH_take (i := 4) (oi := ({ dst := some 11, op := Op.move (Operand.tmp 10), type := 4, pos := "ref.go:60", after := #[{ on := 3, ground := Ground.data }], guard := none } : Oper)) (v := ?hv27) rfl (by kernel_rfl) (by kernel_rfl) (by kernel_rfl) (fun _ _ _ h => h) (Or.inl ⟨by rfl, ?hy27⟩) (by assumption) ?hr27
      case hy27 => (intro w hSw; (try dsimp only at hSw); go_simp; (try with_reducible rfl))
      try simp only [Act.put, List.setIfInBounds_toArray, List.set_cons_zero, List.set_cons_succ]
      refine wpAnyH_take (i := 5) (oi := ({ dst := some 12, op := Op.move (Operand.tmp 0), type := 22, pos := "ref.go:60", after := #[{ on := 4, ground := Ground.guard }], guard := some (4, true) } : Oper)) (v := undef) rfl (by kernel_rfl) (by kernel_rfl) (by kernel_rfl) (fun _ _ _ h => h) (Or.inr ⟨by rfl, rfl⟩) (by assumption) ?_
      try simp only [Act.put, List.setIfInBounds_toArray, List.set_cons_zero, List.set_cons_succ]
      refine wpAnyH_take (i := 6) (oi := ({ dst := some 13, op := Op.move (Operand.tmp 6), type := 3, pos := "ref.go:60", after := #[{ on := 4, ground := Ground.guard }], guard := some (4, true) } : Oper)) (v := undef) rfl (by kernel_rfl) (by kernel_rfl) (by kernel_rfl) (fun _ _ _ h => h) (Or.inr ⟨by rfl, rfl⟩) (by assumption) ?_
      try simp only [Act.put, List.setIfInBounds_toArray, List.set_cons_zero, List.set_cons_succ]
      refine wpAnyH_take (i := 7) (oi := ({ dst := some 14, op := Op.indexAddr 22 (Operand.tmp 12) (Operand.tmp 13), type := 0, pos := "ref.go:60", after := #[{ on := 5, ground := Ground.data }, { on := 6, ground := Ground.data }, { on := 4, ground := Ground.guard }], guard := some (4, true) } : Oper)) (v := undef) rfl (by kernel_rfl) (by kernel_rfl) (by kernel_rfl) (fun _ _ _ h => h) (Or.inr ⟨by rfl, rfl⟩) (by assumption) ?_
      try simp only [Act.put, List.setIfInBounds_toArray, List.set_cons_zero, List.set_cons_succ]
      refine wpAnyH_take (i := 8) (oi := ({ dst := some 15, op := Op.load 26 (Operand.tmp 14), type := 26, pos := "ref.go:60", after := #[{ on := 7, ground := Ground.data }, { on := 4, ground := Ground.guard }], guard := some (4, true) } : Oper)) (v := undef) rfl (by kernel_rfl) (by kernel_rfl) (by kernel_rfl) (fun _ _ _ h => h) (Or.inr ⟨by rfl, rfl⟩) (by assumption) ?_
      try simp only [Act.put, List.setIfInBounds_toArray, List.set_cons_zero, List.set_cons_succ]
      refine wpAnyH_take (i := 9) (oi := ({ dst := some 16, op := Op.fieldAddr 26 (Operand.tmp 3) 0, type := 0, pos := "ref.go:60", after := #[{ on := 4, ground := Ground.guard }], guard := some (4, true) } : Oper)) (v := undef) rfl (by kernel_rfl) (by kernel_rfl) (by kernel_rfl) (fun _ _ _ h => h) (Or.inr ⟨by rfl, rfl⟩) (by assumption) ?_
      try simp only [Act.put, List.setIfInBounds_toArray, List.set_cons_zero, List.set_cons_succ]
      refine wpAnyH_take (i := 10) (oi := ({ dst := some 17, op := Op.load 9 (Operand.tmp 16), type := 9, pos := "ref.go:60", after := #[{ on := 9, ground := Ground.data }, { on := 4, ground := Ground.guard }], guard := some (4, true) } : Oper)) (v := undef) rfl (by kernel_rfl) (by kernel_rfl) (by kernel_rfl) (fun _ _ _ h => h) (Or.inr ⟨by rfl, rfl⟩) (by assumption) ?_
      try simp only [Act.put, List.setIfInBounds_toArray, List.set_cons_zero, List.set_cons_succ]
      refine wpAnyH_take (i := 11) (oi := ({ dst := some 18, op := Op.fieldAddr 26 (Operand.tmp 3) 1, type := 0, pos := "ref.go:60", after := #[{ on := 4, ground := Ground.guard }], guard := some (4, true) } : Oper)) (v := undef) rfl (by kernel_rfl) (by kernel_rfl) (by kernel_rfl) (fun _ _ _ h => h) (Or.inr ⟨by rfl, rfl⟩) (by assumption) ?_
      try simp only [Act.put, List.setIfInBounds_toArray, List.set_cons_zero, List.set_cons_succ]
      refine wpAnyH_take (i := 12) (oi := ({ dst := some 19, op := Op.load 9 (Operand.tmp 18), type := 9, pos := "ref.go:60", after := #[{ on := 11, ground := Ground.data }, { on := 4, ground := Ground.guard }], guard := some (4, true) } : Oper)) (v := undef) rfl (by kernel_rfl) (by kernel_rfl) (by kernel_rfl) (fun _ _ _ h => h) (Or.inr ⟨by rfl, rfl⟩) (by assumption) ?_
      try simp only [Act.put, List.setIfInBounds_toArray, List.set_cons_zero, List.set_cons_succ]
      refine wpAnyH_ready (rs := [13]) (by kernel_rfl) (by simp) ?_
      refine AllReadyH.cons (o := ({ dst := some 20, op := Op.call { callee := Callee.value (Operand.func 32), args := #[Operand.tmp 15, Operand.tmp 17, Operand.tmp 19], argTypes := #[26, 9, 9] }, type := 4, pos := "ref.go:60", after := #[{ on := 8, ground := Ground.data }, { on := 10, ground := Ground.data }, { on := 12, ground := Ground.data }, { on := 4, ground := Ground.chain }, { on := 4, ground := Ground.guard }], guard := some (4, true) } : Oper)) rfl (fun KK hKK => ?_) AllReadyH.nil
      go_simp
      refine hKK.out _ _ (hH0) (fun hH1 => ?_)
      clear hKK KK
      try simp only [Act.put, List.setIfInBounds_toArray, List.set_cons_zero, List.set_cons_succ]
      refine wpAnyH_take (i := 14) (oi := ({ dst := some 21, op := Op.pick (Operand.tmp 11) (Operand.tmp 20) (Operand.const (Value.bool false)), type := 4, pos := "ref.go:60", after := #[{ on := 4, ground := Ground.data }, { on := 13, ground := Ground.data }], guard := none } : Oper)) (v := ?hv28) rfl (by kernel_rfl) (by kernel_rfl) (by kernel_rfl) (fun _ _ _ h => h) (Or.inl ⟨by rfl, ?hy28⟩) (by assumption) ?hr28
      case hy28 => (intro w hSw; (try dsimp only at hSw); go_simp; (try with_reducible rfl))
      try simp only [Act.put, List.setIfInBounds_toArray, List.set_cons_zero, List.set_cons_succ]
      refine wpAnyH_done (by kernel_rfl) ?_ _
      have BY := Lib.hid (BW.out.trans (RB0.out.mono BW.out.size))
      have OY : Hid (y0.ownsRow u1.heap.size 26 5 v kk (cl (zs.take kk))) := Lib.hid (own_belowR HO.out RB0.out)
      have XY := Lib.hid (X1.out.below BY.out)
      have SY := Lib.hid (RFs.out _ (H.out.below (B1.out.trans (BY.out.mono B1.out.size))))
      have a0 := XY.out.cell (i := 0) rfl
      have a1 := XY.out.cell (i := 1) rfl
      have a2 := XY.out.cell (i := 2) rfl
      have a3 := XY.out.cell (i := 3) rfl
      have a4 := XY.out.cell (i := 4) rfl
      have BZ := Lib.hid (BY.out.alloc BY.out.size (.cells #[.string m.sv, .string m.nm, .int .i64 m.sz, .int .i64 m.tt, .int .i64 m.st] 26))
      have OZ := Lib.hid (OY.out.alloc (.cells #[.string m.sv, .string m.nm, .int .i64 m.sz, .int .i64 m.tt, .int .i64 m.st] 26))
      have SZ := Lib.hid (blk_src (p := m) (blk_new y0 [.string m.sv, .string m.nm, .int .i64 m.sz, .int .i64 m.tt, .int .i64 m.st] 26))
      have rf := rF.out
      go_wp2_with (first
        | (at_builtin; refine wpList_append_any _ rfl (.tmp 31) (.tmp 33) 22 rfl u1.heap.size 26 i0 _ 5 56 Try.underlying22 HI.out.1 HI.out.2.1 HI.out.2.2.1 HI.out.2.2.2 rfl (by decide) v kk (cl (zs.take kk)) rfl OZ.out (some ⟨y0.heap.size, 0, none⟩) 1 1 [.string m.sv, .string m.nm, .int .i64 m.sz, .int .i64 m.tt, .int .i64 m.st] rfl SZ.out (by unfold maxLen; omega) (by omega) BZ.out.size ?_; intro v5 w5 hgr; have B5 := Lib.hid (hgr.below BZ.out OZ.out); have O5 := Lib.hid hgr.own; have SR := Lib.hid (RFs.out _ (H.out.below (B1.out.trans (B5.out.mono B1.out.size)))); clear hgr)
        | (at_builtin; refine wpList_append_any _ rfl (.tmp 35) (.tmp 38) 22 rfl u1.heap.size 26 i0 _ 5 56 Try.underlying22 HI.out.1 HI.out.2.1 HI.out.2.2.1 HI.out.2.2.2 rfl (by decide) v5 _ _ rfl O5.out FX (n - kk) (c - kk) (cl (zs.drop kk)) rfl SR.out (by unfold maxLen; omega) (by omega) B5.out.size ?_; intro v6 w6 hgr; have B6 := Lib.hid (hgr.below B5.out O5.out); have O6 := Lib.hid hgr.own; clear hgr))
      go_ret
      have h6 := O6.out
      have e1 := HZ.out
      have hl : zz.length = n + 1 := by rw [e1, List.length_append, List.length_take, List.length_cons, List.length_drop, HL.out]; omega
      have h7 : w6.ownsRow u1.heap.size 26 5 v6 (n + 1) (cl zz) := by
        have h8 : cl (zs.take kk) ++ enc m ++ cl (zs.drop kk) = cl zz := by rw [cl_snoc, ← cl_append, e1, List.append_assoc, List.singleton_append]
        rw [show kk + 1 + (n - kk) = n + 1 by omega] at h6
        rw [← h8]
        exact h6
      obtain ⟨A6, c6, rfl, hT6, hap⟩ := Rcs.ofOwn h7 hl (by omega) HFit.out
      exact ⟨A6, c6, ret_slice2 hl, by rw [hl]; exact hT6, B1.out.trans (B6.out.mono B1.out.size), fun b off e => Nat.le_trans B1.out.size (hap b off e)⟩
end Go.Proofs.Ytahcmhjcpkjccaa
