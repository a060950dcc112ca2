/- Media: SameOne, Same at equal lists; Get of both. Bound: at most 900000 files. -/
import Derived.Test.YtahcmhjcpkjccaaC4
namespace Go.Proofs.Ytahcmhjcpkjccaa
open Go.RowKit
set_option linter.unusedVariables false
set_option linter.unusedSimpArgs false

set_option maxHeartbeats 2000000 in
theorem sameOne17 (p : Rc) (w : World) : Calls Try.prog 17 #[.agg #[.string p.sv, .string p.nm, .int .i64 p.sz, .int .i64 p.tt, .int .i64 p.st], .agg #[.string p.sv, .string p.nm, .int .i64 p.sz, .int .i64 p.tt, .int .i64 p.st]] w fun e w' => e = .returned (.bool true) ∧ Below w.heap.size w w' := by
  have BA := Lib.hid (((Below.refl w.heap.size w).alloc (Nat.le_refl _) (.cells #[.string p.sv, .string p.nm, .int .i64 p.sz, .int .i64 p.tt, .int .i64 p.st] 26)).alloc (by simp) (.cells #[.string p.sv, .string p.nm, .int .i64 p.sz, .int .i64 p.tt, .int .i64 p.st] 26))
  go_enter Try.func17, Try.ntmps17
  go_wp2
  go_ret
  exact ⟨rfl, BA.out⟩
set_option maxRecDepth 100000 in
set_option maxHeartbeats 4000000 in
theorem same20 (A1 A2 : Option Addr) (n c1 c2 : Nat) (zs : List Rc) (w : World) (h1 : Rcs w A1 n c1 zs) (h2 : Rcs w A2 n c2 zs) : Calls Try.prog 20 #[.slice A1 n c1, .slice A2 n c2] w fun e w' => e = .returned (.bool true) ∧ Below w.heap.size w w' := by
  have H1 := Lib.hid h1
  have H2 := Lib.hid h2
  have hbig := h1.rws.big
  unfold maxLen at hbig
  clear h1 h2
  go_enter Try.func20, Try.ntmps20
  go_wp2
  go_loopg [4, 5] n (fun gg _ s5 wr => ∃ kk : Nat, kk ≤ n ∧ n - kk ≤ gg ∧ s5 = .int .i64 kk ∧ Hid (Below w.heap.size w wr))
  case atStart => exact ⟨0, Nat.zero_le _, by omega, rfl, Lib.hid (Below.refl _ _)⟩
  case round =>
    obtain ⟨kk, hkk, hg, rfl, BW⟩ := hrel
    by_cases hlt : kk < n
    · have hltz : (kk : Int) < (n : Int) := by omega
      obtain ⟨b1, off1, eA1, hl1, hr1, _⟩ := (H1.out.below BW.out).get hlt
      obtain ⟨b2, off2, eA2, hl2, hr2, _⟩ := (H2.out.below BW.out).get hlt
      subst eA1
      subst eA2
      generalize zs.getD kk t0 = p at hr1 hr2
      have R1 : Hid (∀ u, Below wr.heap.size wr u → World.rangeAt u b1 (off1 + kk * 5) (enc p)) := Lib.hid (fun u hu j v hv => (hu.cell (p := ⟨b1, off1 + kk * 5 + j, none⟩) hl1).trans (hr1 j v hv))
      have R2 : Hid (∀ u, Below wr.heap.size wr u → World.rangeAt u b2 (off2 + kk * 5) (enc p)) := Lib.hid (fun u hu j v hv => (hu.cell (p := ⟨b2, off2 + kk * 5 + j, none⟩) hl2).trans (hr2 j v hv))
      clear hr1 hr2
      go_upto_region 6 with (fail)
      refine wp_region_held_drew (S := (fun w0 => Below wr.heap.size wr w0)) (by kernel_rfl) ((Below.refl _ _).drew) (fun hH0 => ?_)
      generalize wr.drew = y0 at hH0 ⊢
      have RB0 : Hid (Below wr.heap.size wr y0) := Lib.hid hH0
      refine wpAnyH_take (i := 0) (oi := ({ dst := some 17, op := Op.move (Operand.tmp 0), type := 22, pos := "ref.go:182", after := #[], guard := none } : Oper)) (v := ?hv1) rfl (by kernel_rfl) (by kernel_rfl) (by kernel_rfl) (fun _ _ _ h => h) (Or.inl ⟨by rfl, ?hy1⟩) (by assumption) ?hr1
      case hy1 => (intro w hSw; (try dsimp only at hSw); go_simp; (try with_reducible rfl))
      try simp only [Act.put, List.setIfInBounds_toArray, List.set_cons_zero, List.set_cons_succ]
      refine wpAnyH_take (i := 1) (oi := ({ dst := some 18, op := Op.move (Operand.tmp 5), type := 3, pos := "ref.go:182", after := #[], guard := none } : Oper)) (v := ?hv2) rfl (by kernel_rfl) (by kernel_rfl) (by kernel_rfl) (fun _ _ _ h => h) (Or.inl ⟨by rfl, ?hy2⟩) (by assumption) ?hr2
      case hy2 => (intro w hSw; (try dsimp only at hSw); go_simp; (try with_reducible rfl))
      try simp only [Act.put, List.setIfInBounds_toArray, List.set_cons_zero, List.set_cons_succ]
      refine wpAnyH_take (i := 2) (oi := ({ dst := some 19, op := Op.indexAddr 22 (Operand.tmp 17) (Operand.tmp 18), type := 0, pos := "ref.go:182", after := #[{ on := 0, ground := Ground.data }, { on := 1, ground := Ground.data }], guard := none } : Oper)) (v := ?hv3) rfl (by kernel_rfl) (by kernel_rfl) (by kernel_rfl) (fun _ _ _ h => h) (Or.inl ⟨by rfl, ?hy3⟩) (by assumption) ?hr3
      case hy3 => (intro w hSw; (try dsimp only at hSw); go_simp; (try with_reducible rfl))
      try simp only [Act.put, List.setIfInBounds_toArray, List.set_cons_zero, List.set_cons_succ]
      refine wpAnyH_take (i := 3) (oi := ({ dst := some 20, op := Op.load 26 (Operand.tmp 19), type := 26, pos := "ref.go:182", after := #[{ on := 2, ground := Ground.data }], guard := none } : Oper)) (v := .agg #[.string p.sv, .string p.nm, .int .i64 p.sz, .int .i64 p.tt, .int .i64 p.st]) rfl (by kernel_rfl) (by kernel_rfl) (by kernel_rfl) (fun _ _ _ h => h) (yieldsIf_load_mid (by rfl) 26 _ rfl b1 (off1 + kk * 5) rfl [.string p.sv, .string p.nm, .int .i64 p.sz, .int .i64 p.tt, .int .i64 p.st] _ (fun w0 hw0 => R1.out w0 hw0) Try.underlying26 rfl size44) (by assumption) ?_
      try simp only [Act.put, List.setIfInBounds_toArray, List.set_cons_zero, List.set_cons_succ]
      refine wpAnyH_take (i := 4) (oi := ({ dst := some 21, op := Op.move (Operand.tmp 1), type := 22, pos := "ref.go:182", after := #[], guard := none } : Oper)) (v := ?hv4) rfl (by kernel_rfl) (by kernel_rfl) (by kernel_rfl) (fun _ _ _ h => h) (Or.inl ⟨by rfl, ?hy4⟩) (by assumption) ?hr4
      case hy4 => (intro w hSw; (try dsimp only at hSw); go_simp; (try with_reducible rfl))
      try simp only [Act.put, List.setIfInBounds_toArray, List.set_cons_zero, List.set_cons_succ]
      refine wpAnyH_take (i := 5) (oi := ({ dst := some 22, op := Op.move (Operand.tmp 5), type := 3, pos := "ref.go:182", after := #[], guard := none } : Oper)) (v := ?hv5) rfl (by kernel_rfl) (by kernel_rfl) (by kernel_rfl) (fun _ _ _ h => h) (Or.inl ⟨by rfl, ?hy5⟩) (by assumption) ?hr5
      case hy5 => (intro w hSw; (try dsimp only at hSw); go_simp; (try with_reducible rfl))
      try simp only [Act.put, List.setIfInBounds_toArray, List.set_cons_zero, List.set_cons_succ]
      refine wpAnyH_take (i := 6) (oi := ({ dst := some 23, op := Op.indexAddr 22 (Operand.tmp 21) (Operand.tmp 22), type := 0, pos := "ref.go:182", after := #[{ on := 4, ground := Ground.data }, { on := 5, ground := Ground.data }], guard := none } : Oper)) (v := ?hv6) rfl (by kernel_rfl) (by kernel_rfl) (by kernel_rfl) (fun _ _ _ h => h) (Or.inl ⟨by rfl, ?hy6⟩) (by assumption) ?hr6
      case hy6 => (intro w hSw; (try dsimp only at hSw); go_simp; (try with_reducible rfl))
      try simp only [Act.put, List.setIfInBounds_toArray, List.set_cons_zero, List.set_cons_succ]
      refine wpAnyH_take (i := 7) (oi := ({ dst := some 24, op := Op.load 26 (Operand.tmp 23), type := 26, pos := "ref.go:182", after := #[{ on := 6, ground := Ground.data }], guard := none } : Oper)) (v := .agg #[.string p.sv, .string p.nm, .int .i64 p.sz, .int .i64 p.tt, .int .i64 p.st]) rfl (by kernel_rfl) (by kernel_rfl) (by kernel_rfl) (fun _ _ _ h => h) (yieldsIf_load_mid (by rfl) 26 _ rfl b2 (off2 + kk * 5) rfl [.string p.sv, .string p.nm, .int .i64 p.sz, .int .i64 p.tt, .int .i64 p.st] _ (fun w0 hw0 => R2.out w0 hw0) Try.underlying26 rfl size44) (by assumption) ?_
      try simp only [Act.put, List.setIfInBounds_toArray, List.set_cons_zero, List.set_cons_succ]
      refine wpAnyH_ready (rs := [8]) (by kernel_rfl) (by simp) ?_
      refine AllReadyH.cons (o := ({ dst := some 25, op := Op.call { callee := Callee.value (Operand.func 17), args := #[Operand.tmp 20, Operand.tmp 24], argTypes := #[26, 26] }, type := 4, pos := "ref.go:182", after := #[{ on := 3, ground := Ground.data }, { on := 7, ground := Ground.data }], guard := none } : Oper)) rfl (fun KK hKK => ?_) AllReadyH.nil
      go_simp
      (with_reducible refine (sameOne17 p _).mono ?_)
      rintro e0 y1 ⟨rfl, hb⟩
      have RB1 := Lib.hid (RB0.out.trans (hb.mono RB0.out.size))
      clear hb
      refine hKK.out _ _ (RB1.out) (fun hH1 => ?_)
      clear hKK KK
      try simp only [Act.put, List.setIfInBounds_toArray, List.set_cons_zero, List.set_cons_succ]
      refine wpAnyH_take (i := 9) (oi := ({ dst := some 26, op := Op.unOp UnOp.not 4 (Operand.tmp 25), type := 4, pos := "ref.go:182", after := #[{ on := 8, ground := Ground.data }], guard := none } : Oper)) (v := ?hv7) rfl (by kernel_rfl) (by kernel_rfl) (by kernel_rfl) (fun _ _ _ h => h) (Or.inl ⟨by rfl, ?hy7⟩) (by assumption) ?hr7
      case hy7 => (intro w hSw; (try dsimp only at hSw); go_simp; (try with_reducible rfl))
      try simp only [Act.put, List.setIfInBounds_toArray, List.set_cons_zero, List.set_cons_succ]
      refine wpAnyH_done (by kernel_rfl) ?_ _
      go_wp2
      go_roundg (n - (kk + 1))
      case measure => omega
      case rel => exact ⟨kk + 1, by omega, by omega, by go_num, Lib.hid (BW.out.trans (RB1.out.mono BW.out.size))⟩
    · have hltz : ¬ (kk : Int) < (n : Int) := by omega
      go_wp2
      go_ret
      exact ⟨rfl, BW.out⟩
/-- What Get answers. -/
def getR (s t : ByteArray) (zs : List Rc) : Rc × Bool := if fidx (pF s t) zs = -1 then (t0, false) else (zs.getD (fidx (pF s t) zs).toNat t0, true)
def GetP (w : World) (r : Rc × Bool) (e : Ending) (w' : World) : Prop := e = .returned (.tuple #[.agg (enc r.1).toArray, .bool r.2]) ∧ Below w.heap.size w w'
set_option maxRecDepth 100000 in
set_option maxHeartbeats 4000000 in
theorem get11 (A : Option Addr) (n c : Nat) (zs : List Rc) (s t : ByteArray) (w : World) (h : Rcs w A n c zs) : Calls Try.prog 11 #[.slice A n c, .string s, .string t] w (GetP w (getR s t zs)) := by
  have H := Lib.hid h
  have HL := Lib.hid h.len
  have BA := Lib.hid ((Below.refl w.heap.size w).alloc (Nat.le_refl _) (.cells #[.string ⟨#[]⟩, .string ⟨#[]⟩, .int .i64 0, .int .i64 0, .int .i64 0] 26))
  have X0 := Lib.hid (blk_new w [.string ⟨#[]⟩, .string ⟨#[]⟩, .int .i64 0, .int .i64 0, .int .i64 0] 26)
  have HI := Lib.hid (find27 A n c zs s t _ (h.below BA.out))
  rcases fidx_cases (pF s t) zs with ⟨e, _⟩ | ⟨k, hk, e, _, _⟩
  · have HG := Lib.hid (show getR s t zs = (t0, false) by unfold getR; rw [if_pos e])
    rw [e] at HI
    clear h e
    go_enter Try.func11, Try.ntmps11
    go_wp2_with (first
      | (go_at_call 27; (with_reducible refine HI.out.mono ?_); rintro e w1 ⟨rfl, hb1⟩; have B1 := Lib.hid (BA.out.trans (hb1.mono BA.out.size)); have HTh := Lib.hid ((X0.out.below hb1).thereAt' 0 5 (by simp)))
      | (refine store_mid_as rfl 26 _ _ rfl w.heap.size 0 #[.string ⟨#[]⟩, .string ⟨#[]⟩, .int .i64 0, .int .i64 0, .int .i64 0] rfl rfl HTh.out size44 (all_one t0) ?_; intro w4 e4; have Y4 : Hid (Blk w4 w.heap.size [.string ⟨#[]⟩, .string ⟨#[]⟩, .int .i64 0, .int .i64 0, .int .i64 0] 26) := Lib.hid (by rw [e4]; exact (X0.out.below hb1).setAll [.string ⟨#[]⟩, .string ⟨#[]⟩, .int .i64 0, .int .i64 0, .int .i64 0] rfl); have B4 : Hid (Below w.heap.size w w4) := Lib.hid (by rw [e4]; exact below_setAll (Nat.le_refl _) _ _ _ B1.out); have a0 := Y4.out.cell (i := 0) rfl; have a1 := Y4.out.cell (i := 1) rfl; have a2 := Y4.out.cell (i := 2) rfl; have a3 := Y4.out.cell (i := 3) rfl; have a4 := Y4.out.cell (i := 4) rfl; clear e4))
    (try simp only [Exit.inBlock, Exit.then])
    refine bodyPost_ret (results_cell_tmp_blk rfl _ _ w.heap.size [.string ⟨#[]⟩, .string ⟨#[]⟩, .int .i64 0, .int .i64 0, .int .i64 0] 26 _ rfl Y4.out Try.underlying26 rfl size44) rfl ?_
    exact ⟨by rw [HG.out]; rfl, B4.out⟩
  · have HG := Lib.hid (show getR s t zs = (zs.getD k t0, true) by unfold getR; rw [if_neg (by omega), e]; rfl)
    rw [e] at HI
    have hkn : k < n := by rw [← h.len]; exact hk
    have hkz : ¬ (k : Int) < 0 := by omega
    have hk1 : (k : Int) < (n : Int) := by omega
    clear h e hk
    generalize hq : getR s t zs = gr at HG ⊢
    clear hq
    go_enter Try.func11, Try.ntmps11
    go_wp2_with (first
      | (go_at_call 27; (with_reducible refine HI.out.mono ?_); rintro e w1 ⟨rfl, hb1⟩; have B1 := Lib.hid (BA.out.trans (hb1.mono BA.out.size)); have HTh := Lib.hid ((X0.out.below hb1).thereAt' 0 5 (by simp)); obtain ⟨b, off, rfl, hbl, k0, k1, k2, k3, k4, hfit⟩ := (H.out.below B1.out).at_ hkn; generalize zs.getD k t0 = p at k0 k1 k2 k3 k4 hfit HG)
      | (refine store_mid_as rfl 26 _ _ rfl w.heap.size 0 #[.string p.sv, .string p.nm, .int .i64 p.sz, .int .i64 p.tt, .int .i64 p.st] rfl rfl HTh.out size44 (all_one p) ?_; intro w4 e4; have Y4 : Hid (Blk w4 w.heap.size [.string p.sv, .string p.nm, .int .i64 p.sz, .int .i64 p.tt, .int .i64 p.st] 26) := Lib.hid (by rw [e4]; exact (X0.out.below hb1).setAll [.string p.sv, .string p.nm, .int .i64 p.sz, .int .i64 p.tt, .int .i64 p.st] rfl); have B4 : Hid (Below w.heap.size w w4) := Lib.hid (by rw [e4]; exact below_setAll (Nat.le_refl _) _ _ _ B1.out); have a0 := Y4.out.cell (i := 0) rfl; have a1 := Y4.out.cell (i := 1) rfl; have a2 := Y4.out.cell (i := 2) rfl; have a3 := Y4.out.cell (i := 3) rfl; have a4 := Y4.out.cell (i := 4) rfl; clear e4 k0 k1 k2 k3 k4))
    (try simp only [Exit.inBlock, Exit.then])
    refine bodyPost_ret (results_cell_tmp_blk rfl _ _ w.heap.size [.string p.sv, .string p.nm, .int .i64 p.sz, .int .i64 p.tt, .int .i64 p.st] 26 _ rfl Y4.out Try.underlying26 rfl size44) rfl ?_
    exact ⟨by rw [HG.out]; rfl, B4.out⟩
set_option maxRecDepth 100000 in
set_option maxHeartbeats 4000000 in
theorem get12 (A : Option Addr) (n c : Nat) (zs : List Rc) (s t : ByteArray) (w : World) (h : Rcs w A n c zs) : Calls Try.prog 12 #[.slice A n c, .string s, .string t] w (GetP w (getR s t zs)) := by
  have H := Lib.hid h
  have HL := Lib.hid h.len
  have BA := Lib.hid ((Below.refl w.heap.size w).alloc (Nat.le_refl _) (.cells #[.string ⟨#[]⟩, .string ⟨#[]⟩, .int .i64 0, .int .i64 0, .int .i64 0] 26))
  have X0 := Lib.hid (blk_new w [.string ⟨#[]⟩, .string ⟨#[]⟩, .int .i64 0, .int .i64 0, .int .i64 0] 26)
  have HI := Lib.hid (place28 A n c zs s t _ (h.below BA.out))
  rcases fidx_cases (pF s t) zs with ⟨e, _⟩ | ⟨k, hk, e, _, _⟩
  · have HG := Lib.hid (show getR s t zs = (t0, false) by unfold getR; rw [if_pos e])
    rw [e] at HI
    clear h e
    go_enter Try.func12, Try.ntmps12
    go_wp2_with (first
      | (go_at_call 28; (with_reducible refine HI.out.mono ?_); rintro e w1 ⟨rfl, rfl⟩; have B1 := Lib.hid (BA.out); have HTh := Lib.hid ((X0.out).thereAt' 0 5 (by simp)))
      | (refine store_mid_as rfl 26 _ _ rfl w.heap.size 0 #[.string ⟨#[]⟩, .string ⟨#[]⟩, .int .i64 0, .int .i64 0, .int .i64 0] rfl rfl HTh.out size44 (all_one t0) ?_; intro w4 e4; have Y4 : Hid (Blk w4 w.heap.size [.string ⟨#[]⟩, .string ⟨#[]⟩, .int .i64 0, .int .i64 0, .int .i64 0] 26) := Lib.hid (by rw [e4]; exact (X0.out).setAll [.string ⟨#[]⟩, .string ⟨#[]⟩, .int .i64 0, .int .i64 0, .int .i64 0] rfl); have B4 : Hid (Below w.heap.size w w4) := Lib.hid (by rw [e4]; exact below_setAll (Nat.le_refl _) _ _ _ B1.out); have a0 := Y4.out.cell (i := 0) rfl; have a1 := Y4.out.cell (i := 1) rfl; have a2 := Y4.out.cell (i := 2) rfl; have a3 := Y4.out.cell (i := 3) rfl; have a4 := Y4.out.cell (i := 4) rfl; clear e4))
    (try simp only [Exit.inBlock, Exit.then])
    refine bodyPost_ret (results_cell_tmp_blk rfl _ _ w.heap.size [.string ⟨#[]⟩, .string ⟨#[]⟩, .int .i64 0, .int .i64 0, .int .i64 0] 26 _ rfl Y4.out Try.underlying26 rfl size44) rfl ?_
    exact ⟨by rw [HG.out]; rfl, B4.out⟩
  · have HG := Lib.hid (show getR s t zs = (zs.getD k t0, true) by unfold getR; rw [if_neg (by omega), e]; rfl)
    rw [e] at HI
    have hkn : k < n := by rw [← h.len]; exact hk
    have hkz : ¬ (k : Int) < 0 := by omega
    have hk1 : (k : Int) < (n : Int) := by omega
    clear h e hk
    generalize hq : getR s t zs = gr at HG ⊢
    clear hq
    go_enter Try.func12, Try.ntmps12
    go_wp2_with (first
      | (go_at_call 28; (with_reducible refine HI.out.mono ?_); rintro e w1 ⟨rfl, rfl⟩; have B1 := Lib.hid (BA.out); have HTh := Lib.hid ((X0.out).thereAt' 0 5 (by simp)); obtain ⟨b, off, rfl, hbl, k0, k1, k2, k3, k4, hfit⟩ := (H.out.below B1.out).at_ hkn; generalize zs.getD k t0 = p at k0 k1 k2 k3 k4 hfit HG)
      | (refine store_mid_as rfl 26 _ _ rfl w.heap.size 0 #[.string p.sv, .string p.nm, .int .i64 p.sz, .int .i64 p.tt, .int .i64 p.st] rfl rfl HTh.out size44 (all_one p) ?_; intro w4 e4; have Y4 : Hid (Blk w4 w.heap.size [.string p.sv, .string p.nm, .int .i64 p.sz, .int .i64 p.tt, .int .i64 p.st] 26) := Lib.hid (by rw [e4]; exact (X0.out).setAll [.string p.sv, .string p.nm, .int .i64 p.sz, .int .i64 p.tt, .int .i64 p.st] rfl); have B4 : Hid (Below w.heap.size w w4) := Lib.hid (by rw [e4]; exact below_setAll (Nat.le_refl _) _ _ _ B1.out); have a0 := Y4.out.cell (i := 0) rfl; have a1 := Y4.out.cell (i := 1) rfl; have a2 := Y4.out.cell (i := 2) rfl; have a3 := Y4.out.cell (i := 3) rfl; have a4 := Y4.out.cell (i := 4) rfl; clear e4 k0 k1 k2 k3 k4))
    (try simp only [Exit.inBlock, Exit.then])
    refine bodyPost_ret (results_cell_tmp_blk rfl _ _ w.heap.size [.string p.sv, .string p.nm, .int .i64 p.sz, .int .i64 p.tt, .int .i64 p.st] 26 _ rfl Y4.out Try.underlying26 rfl size44) rfl ?_
    exact ⟨by rw [HG.out]; rfl, B4.out⟩
end Go.Proofs.Ytahcmhjcpkjccaa
