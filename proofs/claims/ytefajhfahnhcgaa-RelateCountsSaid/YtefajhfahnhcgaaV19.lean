/- Relations: the reference's Same at equal summaries. No condition. -/
import Derived.Test.YtefajhfahnhcgaaV15
import Derived.Test.YtefajhfahnhcgaaV8
namespace Go.Proofs.Ytefajhfahnhcgaa
open Go Go.RowKit
set_option linter.unusedVariables false
set_option linter.unusedSimpArgs false

abbrev smC (e : Int) (A : Option Addr) (n c : Nat) (t l : Int) : List Value := [.int .i64 e, .slice A n c, .int .i64 t, .int .i64 l]
theorem blk_new2 (w : World) (o : Obj) (cs : List Value) (T : TypeId) : Blk ((w.alloc o).alloc (.cells cs.toArray T)) (w.heap.size + 1) cs T := by
  have := blk_new (w.alloc o) cs T
  rwa [show (w.alloc o).heap.size = w.heap.size + 1 by simp] at this
set_option maxRecDepth 100000 in
set_option maxHeartbeats 8000000 in
theorem same14 (e t l : Int) (A1 A2 : Option Addr) (n c1 c2 : Nat) (zs : List Cn.Rc) (w : World) (h1 : Cn.Rcs w A1 n c1 zs) (h2 : Cn.Rcs w A2 n c2 zs) : Calls Try.prog 14 #[.agg #[.int .i64 e, .slice A1 n c1, .int .i64 t, .int .i64 l], .agg #[.int .i64 e, .slice A2 n c2, .int .i64 t, .int .i64 l]] w fun r w' => r = .returned (.bool true) ∧ Below w.heap.size w w' := by
  have BA := Lib.hid (((Below.refl w.heap.size w).alloc (Nat.le_refl _) (.cells #[.int .i64 e, .slice A1 n c1, .int .i64 t, .int .i64 l] 45)).alloc (by simp) (.cells #[.int .i64 e, .slice A2 n c2, .int .i64 t, .int .i64 l] 45))
  have X1 := Lib.hid (show Blk ((w.alloc (.cells #[.int .i64 e, .slice A1 n c1, .int .i64 t, .int .i64 l] 45)).alloc (.cells #[.int .i64 e, .slice A2 n c2, .int .i64 t, .int .i64 l] 45)) w.heap.size (smC e A1 n c1 t l) 45 from (blk_new w (smC e A1 n c1 t l) 45).alloc _)
  have X2 := Lib.hid (show Blk ((w.alloc (.cells #[.int .i64 e, .slice A1 n c1, .int .i64 t, .int .i64 l] 45)).alloc (.cells #[.int .i64 e, .slice A2 n c2, .int .i64 t, .int .i64 l] 45)) (w.heap.size + 1) (smC e A2 n c2 t l) 45 from blk_new2 w _ (smC e A2 n c2 t l) 45)
  have H1 := Lib.hid (h1.below BA.out)
  have H2 := Lib.hid (h2.below BA.out)
  have hbig := h1.rws.big
  unfold maxLen at hbig
  clear h1 h2
  go_enter Try.func14, Try.ntmps14
  go_upto_region 1 with (fail)
  generalize hwa : World.alloc _ _ = wa at BA X1 X2 H1 H2 ⊢
  clear hwa
  have a0 := X1.out.cell (i := 0) rfl
  have a1 := X1.out.cell (i := 1) rfl
  have a2 := X1.out.cell (i := 2) rfl
  have a3 := X1.out.cell (i := 3) rfl
  have b0 := X2.out.cell (i := 0) rfl
  have b1 := X2.out.cell (i := 1) rfl
  have b2 := X2.out.cell (i := 2) rfl
  have b3 := X2.out.cell (i := 3) rfl
  have z0 : (e != e) = false := by simp
  have z1 : (t != t) = false := by simp
  have z2 : (l != l) = false := by simp
  have z3 : ((n : Int) != (n : Int)) = false := by simp
  go_wp2
  clear a0 a1 a2 a3 b0 b1 b2 b3
  go_loopg [5] n (fun gg s5 wr => ∃ kk : Nat, kk ≤ n ∧ n - kk ≤ gg ∧ s5 = .int .i64 (kk : Int) ∧ Hid (Below wa.heap.size wa wr))
  case atStart => exact ⟨0, Nat.zero_le _, by omega, rfl, Lib.hid (Below.refl _ _)⟩
  case round =>
    obtain ⟨kk, hkk, hg, rfl, BX⟩ := hrel
    have a1 := (X1.out.below BX.out).cell (i := 1) rfl
    have b1 := (X2.out.below BX.out).cell (i := 1) rfl
    by_cases hlt : kk < n
    · have hltz : (kk : Int) < (n : Int) := by omega
      have hk0 : (0 : Int) ≤ (kk : Int) := by omega
      obtain ⟨g1, f1, e1, _, hr1, _⟩ := (H1.out.below BX.out).get hlt
      obtain ⟨g2, f2, e2, _, hr2, _⟩ := (H2.out.below BX.out).get hlt
      subst e1 e2
      generalize zs.getD kk Cn.t0 = p at hr1 hr2
      have p0 : wr.cell? ⟨g1, f1 + kk * 2, none⟩ = some (.string p.tx) := hr1 0 _ rfl
      have p1 : wr.cell? ⟨g1, f1 + kk * 2 + 1, none⟩ = some (.int .i64 p.n) := hr1 1 _ rfl
      have q0 : wr.cell? ⟨g2, f2 + kk * 2, none⟩ = some (.string p.tx) := hr2 0 _ rfl
      have q1 : wr.cell? ⟨g2, f2 + kk * 2 + 1, none⟩ = some (.int .i64 p.n) := hr2 1 _ rfl
      clear hr1 hr2
      generalize p.tx = tx at p0 q0
      generalize p.n = pn at p1 q1
      have z5 : (tx.toList != tx.toList) = false := by simp
      have z6 : (pn != pn) = false := by simp
      go_wp2
      go_quiet (fail)
      go_wp2
      go_roundg (n - (kk + 1))
      case measure => omega
      case rel => exact ⟨kk + 1, by omega, by omega, by go_num, Lib.hid (bel_dn BX.out _)⟩
    · have hltz : ¬ (kk : Int) < (n : Int) := by omega
      go_wp2
      go_ret
      exact ⟨rfl, BA.out.trans (BX.out.mono BA.out.size)⟩
end Go.Proofs.Ytefajhfahnhcgaa
