/- One-time keys: byOwner. Bound: at most 900000 entries. -/
import Derived.Test.YtkmocchikgmnbaaW5
namespace Go.Proofs.Ytkmocchikgmnbaa
open Go.RowKit
set_option linter.unusedVariables false
set_option linter.unusedSimpArgs false

/-- The entries of a list, by their devices. -/
def puts (zs : List Rc) : List Rc := zs.foldl putL []
theorem puts_take {zs : List Rc} {k : Nat} (h : k < zs.length) : puts (zs.take (k + 1)) = putL (puts (zs.take k)) (zs.getD k t0) := by
  unfold puts
  rw [List.take_succ_eq_append_getElem h, List.foldl_append, getD_at h]
  rfl
theorem below_put {w0 w w' : World} {M : Nat} (h : Below w0.heap.size w0 w) (hg : w.grownBy w' (some M)) (hB : w0.heap.size ≤ M) : Below w0.heap.size w0 w' := h.grown hg h.size (fun k e => by cases e; exact hB)
set_option maxRecDepth 100000 in
set_option maxHeartbeats 4000000 in
theorem byOwner_any (A : Option Addr) (n c : Nat) (zs : List Rc) (w : World) (h : Rcs w A n c zs) (hn : n ≤ 900000) : Calls Try.prog 26 #[.slice A n c] w fun e w' => e = .returned (.map (some w.heap.size)) ∧ MapR w' w.heap.size n (puts zs) ∧ Below w.heap.size w w' := by
  have H := Lib.hid h
  have HOw := Lib.hid (fun p w => owner_x p w)
  clear h
  go_enter Try.func26, Try.ntmps26
  have hmm := @run_makeMap Try.prog
  go_wp2
  clear hmm
  go_loopg [5, 9] n (fun gg _ s9 wr => ∃ kk : Nat, kk ≤ n ∧ n - kk ≤ gg ∧ s9 = .int .i64 kk ∧ Hid (MapR wr w.heap.size kk (puts (zs.take kk))) ∧ Hid (Below w.heap.size w wr))
  case atStart => exact ⟨0, Nat.zero_le _, by omega, rfl, Lib.hid (MapR.made w), Lib.hid ((Below.refl _ _).alloc (Nat.le_refl _) _)⟩
  case round =>
    obtain ⟨kk, hkk, hg, rfl, HM, BW⟩ := hrel
    by_cases hlt : kk < n
    · have hltz : (kk : Int) < (n : Int) := by omega
      obtain ⟨b, off, eA, hbl, k0, k1, k2, k3, hfit⟩ := (H.out.below BW.out).at_ hlt
      have HT := Lib.hid (puts_take (zs := zs) (k := kk) (by rw [H.out.len]; exact hlt))
      subst eA
      generalize zs.getD kk t0 = p at k0 k1 k2 k3 hfit HT
      have BA := Lib.hid (BW.out.alloc BW.out.size (.cells #[.string p.us, .string p.dv, .int .i64 p.nx, .int .i64 p.lf] 45))
      have MA := Lib.hid (HM.out.alloc (.cells #[.string p.us, .string p.dv, .int .i64 p.nx, .int .i64 p.lf] 45))
      have Y0 : Hid (Blk _ _ (enc p) 45) := Lib.hid (blk_new wr (enc p) 45)
      go_upto_region 5 with (fail)
      generalize hbx : wr.heap.size = bx at Y0 ⊢
      clear hbx k0 k1 k2 k3
      refine wp_region_held_drew (S := (fun w0 => Blk w0 bx (enc p) 45)) (by kernel_rfl) (Y0.out.drew) (fun hH0 => ?_)
      generalize hy0 : (wr.alloc (.cells #[.string p.us, .string p.dv, .int .i64 p.nx, .int .i64 p.lf] 45)).drew = y0 at hH0 ⊢
      have M0 := Lib.hid (show MapR y0 w.heap.size kk (puts (zs.take kk)) from hy0 ▸ MA.out.drew)
      have B0 := Lib.hid (show Below w.heap.size w y0 from hy0 ▸ BA.out.drew)
      clear Y0
      have Y0 := Lib.hid hH0
      clear hy0
      refine wpAnyH_take (i := 0) (oi := ({ dst := some 13, op := Op.move (Operand.tmp 3), type := 52, pos := "onetime.go:53", after := #[], guard := none } : Oper)) (v := ?hv1) rfl (by kernel_rfl) (by kernel_rfl) (by kernel_rfl) (fun _ _ _ h => h) (Or.inl ⟨by rfl, ?hy1⟩) (by assumption) ?hr1
      case hy1 => (intro w hSw; (try dsimp only at hSw); go_simp; (try with_reducible rfl))
      try simp only [Act.put, List.setIfInBounds_toArray, List.set_cons_zero, List.set_cons_succ]
      refine wpAnyH_take (i := 1) (oi := ({ dst := some 14, op := Op.load 45 (Operand.tmp 5), type := 45, pos := "onetime.go:53", after := #[], guard := none } : Oper)) (v := .agg #[.string p.us, .string p.dv, .int .i64 p.nx, .int .i64 p.lf]) rfl (by kernel_rfl) (by kernel_rfl) (by kernel_rfl) (fun _ _ _ h => h) (yieldsIf_load_mid (by rfl) 45 _ rfl bx 0 rfl [.string p.us, .string p.dv, .int .i64 p.nx, .int .i64 p.lf] _ (fun w0 hw0 => (show Blk w0 bx (enc p) 45 from hw0).range) Try.underlying45 rfl size45) (by assumption) ?_
      try simp only [Act.put, List.setIfInBounds_toArray, List.set_cons_zero, List.set_cons_succ]
      refine wpAnyH_take (i := 3) (oi := ({ dst := some 16, op := Op.load 45 (Operand.tmp 5), type := 45, pos := "onetime.go:53", after := #[], guard := none } : Oper)) (v := .agg #[.string p.us, .string p.dv, .int .i64 p.nx, .int .i64 p.lf]) rfl (by kernel_rfl) (by kernel_rfl) (by kernel_rfl) (fun _ _ _ h => h) (yieldsIf_load_mid (by rfl) 45 _ rfl bx 0 rfl [.string p.us, .string p.dv, .int .i64 p.nx, .int .i64 p.lf] _ (fun w0 hw0 => (show Blk w0 bx (enc p) 45 from hw0).range) Try.underlying45 rfl size45) (by assumption) ?_
      try simp only [Act.put, List.setIfInBounds_toArray, List.set_cons_zero, List.set_cons_succ]
      refine wpAnyH_ready (rs := [2]) (by kernel_rfl) (by simp) ?_
      refine AllReadyH.cons (o := ({ dst := some 15, op := Op.call { callee := Callee.value (Operand.func 21), args := #[Operand.tmp 14], argTypes := #[45] }, type := 47, pos := "onetime.go:53", after := #[{ on := 1, ground := Ground.data }], guard := none } : Oper)) rfl (fun KK hKK => ?_) AllReadyH.nil
      go_simp
      (with_reducible refine (HOw.out p _).mono ?_)
      rintro e1 y1 ⟨rfl, hg1⟩
      have Y1 := Lib.hid (Y0.out.below hg1.bel); have M1 := Lib.hid (M0.out.below hg1.bel); have B1 := Lib.hid (B0.out.trans (hg1.bel.mono B0.out.size)); clear hg1
      refine hKK.out _ _ (Y1.out) (fun hH1 => ?_)
      clear hKK KK
      try simp only [Act.put, List.setIfInBounds_toArray, List.set_cons_zero, List.set_cons_succ]
      refine wpAnyH_ready (rs := [4]) (by kernel_rfl) (by simp) ?_
      refine AllReadyH.cons (o := ({ dst := none, op := Op.mapUpdate 52 (Operand.tmp 13) (Operand.tmp 15) (Operand.tmp 16), type := 0, pos := "onetime.go:53", after := #[{ on := 0, ground := Ground.data }, { on := 2, ground := Ground.data }, { on := 3, ground := Ground.data }, { on := 2, ground := Ground.chain }, { on := 0, ground := Ground.phase }, { on := 1, ground := Ground.phase }, { on := 2, ground := Ground.phase }, { on := 3, ground := Ground.phase }], guard := none } : Oper)) rfl (fun KK hKK => ?_) AllReadyH.nil
      obtain ⟨y2, hrun, hm, hg⟩ := M1.out.run_put (by omega) hfit
      have Y2 := Lib.hid (show Blk y2 bx (enc p) 45 from ⟨(hg.block bx Y1.out.lt (fun e => M1.out.ne Y1.out (by cases e; rfl))).trans Y1.out.heap⟩)
      have M2 := Lib.hid hm; have B2 := Lib.hid (below_put B1.out hg (Nat.le_refl _)); clear hm hg
      go_simp
      rw [show Sem.run Try.prog (Instr.mapUpdate 52 (.map (some w.heap.size)) (.agg #[.string p.us, .string p.dv]) (.agg #[.string p.us, .string p.dv, .int .i64 p.nx, .int .i64 p.lf])) y1 = .ok () y2 from hrun]
      clear hrun
      go_simp
      refine hKK.out _ _ (Y2.out) (fun hH2 => ?_)
      clear hKK KK
      try simp only [Act.put, List.setIfInBounds_toArray, List.set_cons_zero, List.set_cons_succ]
      refine wpAnyH_done (by kernel_rfl) ?_ _
      go_wp2
      go_roundg (n - (kk + 1))
      case measure => omega
      case rel => exact ⟨kk + 1, by omega, by omega, by go_num, Lib.hid (by rw [HT.out]; exact M2.out), B2⟩
    · have hltz : ¬ (kk : Int) < (n : Int) := by omega
      obtain rfl : kk = n := by omega
      go_wp2
      go_ret
      exact ⟨rfl, by have := HM.out; rwa [List.take_of_length_le (Nat.le_of_eq H.out.len)] at this, BW.out⟩
end Go.Proofs.Ytkmocchikgmnbaa
