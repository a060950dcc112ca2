/- The reference's Same, SameTexts and SameLevels at equal data. No condition. -/
import Derived.Test.YtokofmolbdpklaaC2
import Derived.BigQuiet
import Derived.Deep.LoopGhost
import Derived.Deep.Cut
namespace Go.Proofs.Ytokofmolbdpklaa
open Go.RowKit
set_option linter.unusedVariables false

theorem blk_second' (w : World) (o : Obj) (cs : List Value) (T : TypeId) : Blk ((w.alloc o).alloc (.cells cs.toArray T)) (w.heap.size + 1) cs T := by
  have := blk_new (w.alloc o) cs T
  have e : (w.alloc o).heap.size = w.heap.size + 1 := by simp
  rw [e] at this
  exact this
theorem below_two' (w : World) (o p : Obj) : Below w.heap.size w ((w.alloc o).alloc p) := ((Below.refl _ w).alloc (Nat.le_refl _) o).alloc (by simp) p
theorem Rws.kind {w : World} {A : Option Addr} {n c : Nat} {K : Nat → Int × Int} (h : Rws w A n c 2 (rowK K)) {j : Nat} (hj : j < n) :
    ∃ b off, A = some ⟨b, off, none⟩ ∧ w.cell? ⟨b, off + j * 2, none⟩ = some (.int .i64 (K j).1) ∧ w.cell? ⟨b, off + j * 2 + 1, none⟩ = some (.int .i64 (K j).2) := by
  obtain ⟨b, off, e, _, hr⟩ := h.get hj
  exact ⟨b, off, e, hr 0 _ rfl, hr 1 _ rfl⟩
set_option maxHeartbeats 1000000 in
theorem same23 (A1 A2 : Option Addr) (n c1 c2 : Nat) (zs : List ByteArray) (w : World) (h1 : Txs w A1 n c1 zs) (h2 : Txs w A2 n c2 zs) :
    Calls Try.prog 23 #[.slice A1 n c1, .slice A2 n c2] w fun e w' => e = .returned (.bool true) ∧ Below w.heap.size w w' := by
  have H1 := Lib.hid h1
  have H2 := Lib.hid h2
  have hbig : n ≤ 9223372036854775807 := h1.rws.big
  clear h1 h2
  go_enter Try.func23, Try.ntmps23
  go_wp2
  go_loopg [5] n (fun gg s5 wr => ∃ kk : Nat, kk ≤ n ∧ n - kk ≤ gg ∧ s5 = .int .i64 kk ∧ Hid (Below w.heap.size w wr))
  case atStart => exact ⟨0, Nat.zero_le _, by omega, rfl, Lib.hid (Below.refl _ w)⟩
  case round =>
    obtain ⟨kk, hkk, hg, rfl, BW⟩ := hrel
    by_cases hlt : kk < n
    · have hltz : (kk : Int) < (n : Int) := by omega
      obtain ⟨b1, o1, rfl, t, ht, _, d1⟩ := (H1.out.below BW.out).get hlt
      obtain ⟨b2, o2, rfl, t2, ht2, _, d2⟩ := (H2.out.below BW.out).get hlt
      have e : t2 = t := by rw [← ht, ← ht2]
      rw [e] at d2
      clear ht ht2 e
      have q : (t.toList == t.toList) = true := beq_self_eq_true _
      go_wp2
      go_quiet (fail)
      go_wp2
      go_roundg (n - (kk + 1))
      case measure => omega
      case rel => exact ⟨kk + 1, by omega, by omega, by go_num, Lib.hid (below_drewN BW.out _)⟩
    · have hltz : ¬ (kk : Int) < (n : Int) := by omega
      have : kk = n := by omega
      subst this
      go_wp2
      go_ret
      exact ⟨rfl, BW.out⟩
set_option maxHeartbeats 4000000 in
theorem same24 (uA uA' kA kA' : Option Addr) (nU uC uC' nK kC kC' : Nat) (d x3 x4 x5 x6 x7 x8 : Int) (U : Nat → ByteArray × Int) (K : Nat → Int × Int) (w : World) (hU : Rws w uA nU uC 2 (rowU U)) (hV : Rws w uA' nU uC' 2 (rowU U)) (hK : Rws w kA nK kC 2 (rowK K)) (hM : Rws w kA' nK kC' 2 (rowK K)) :
    Calls Try.prog 24 #[.agg (lvc uA nU uC kA nK kC d x3 x4 x5 x6 x7 x8).toArray, .agg (lvc uA' nU uC' kA' nK kC' d x3 x4 x5 x6 x7 x8).toArray] w fun e w' => e = .returned (.bool true) ∧ Below w.heap.size w w' := by
  have HX := Lib.hid (below_two' w (.cells (lvc uA nU uC kA nK kC d x3 x4 x5 x6 x7 x8).toArray 26) (.cells (lvc uA' nU uC' kA' nK kC' d x3 x4 x5 x6 x7 x8).toArray 26))
  have HT1 := Lib.hid ((blk_new w (lvc uA nU uC kA nK kC d x3 x4 x5 x6 x7 x8) 26).alloc (.cells (lvc uA' nU uC' kA' nK kC' d x3 x4 x5 x6 x7 x8).toArray 26))
  have HT2 := Lib.hid (blk_second' w (.cells (lvc uA nU uC kA nK kC d x3 x4 x5 x6 x7 x8).toArray 26) (lvc uA' nU uC' kA' nK kC' d x3 x4 x5 x6 x7 x8) 26)
  have HU := Lib.hid (hU.below HX.out)
  have HV := Lib.hid (hV.below HX.out)
  have HK := Lib.hid (hK.below HX.out)
  have HM := Lib.hid (hM.below HX.out)
  have HSz := Lib.hid HX.out.size
  have hbu : nU ≤ 9223372036854775807 := hU.big
  have hbk : nK ≤ 9223372036854775807 := hK.big
  clear hU hV hK hM
  show Calls Try.prog 24 #[.agg #[.slice uA nU uC, .slice kA nK kC, .int .i64 d, .int .i64 x3, .int .i64 x4, .int .i64 x5, .int .i64 x6, .int .i64 x7, .int .i64 x8], .agg #[.slice uA' nU uC', .slice kA' nK kC', .int .i64 d, .int .i64 x3, .int .i64 x4, .int .i64 x5, .int .i64 x6, .int .i64 x7, .int .i64 x8]] w _
  go_enter Try.func24, Try.ntmps24
  go_upto_region 1 with (fail)
  generalize hb2 : w.heap.size + 1 = b2 at HT2 ⊢
  generalize hb0 : w.heap.size = b1 at HT1 ⊢
  generalize hw2 : ((w.alloc _).alloc _) = w2 at HX HU HV HK HM HT1 HT2 HSz ⊢
  clear hb2 hb0 hw2
  have i0 := HT1.out.cell (i := 0) rfl
  have j0 := HT2.out.cell (i := 0) rfl
  have i1 := HT1.out.cell (i := 1) rfl
  have j1 := HT2.out.cell (i := 1) rfl
  go_wp2
  clear i0 j0 i1 j1
  go_loopg [5] nU (fun gg s5 wr => ∃ kk : Nat, kk ≤ nU ∧ nU - kk ≤ gg ∧ s5 = .int .i64 kk ∧ Hid (Below w2.heap.size w2 wr))
  case atStart => exact ⟨0, Nat.zero_le _, by omega, rfl, Lib.hid (Below.refl _ _)⟩
  case round =>
    obtain ⟨kk, hkk, hg, rfl, BW⟩ := hrel
    have i0 := (HT1.out.below BW.out).cell (i := 0) rfl
    have j0 := (HT2.out.below BW.out).cell (i := 0) rfl
    by_cases hlt : kk < nU
    · have hltz : (kk : Int) < (nU : Int) := by omega
      obtain ⟨b1', o1, rfl, cy, cn⟩ := (HU.out.below BW.out).user hlt
      obtain ⟨b2', o2, rfl, dy, dn⟩ := (HV.out.below BW.out).user hlt
      generalize (U kk).1 = y1 at cy dy
      generalize (U kk).2 = n1 at cn dn
      have q3 : (y1.toList == y1.toList) = true := beq_self_eq_true _
      have q5 : (y1.toList != y1.toList) = false := by rw [bne, q3]; rfl
      have q4 : (n1 == n1) = true := beq_self_eq_true _
      have q6 : (n1 != n1) = false := by rw [bne, q4]; rfl
      go_wp2
      go_quiet (fail)
      go_wp2
      go_roundg (nU - (kk + 1))
      case measure => omega
      case rel => exact ⟨kk + 1, by omega, by omega, by go_num, Lib.hid (below_drewN BW.out _)⟩
    · have hltz : ¬ (kk : Int) < (nU : Int) := by omega
      have BWs := BW
      clear hlt hg hkk
      go_wp2
      clear i0 j0
      go_loopg [6] nK (fun gg s6 wr => ∃ kk : Nat, kk ≤ nK ∧ nK - kk ≤ gg ∧ s6 = .int .i64 kk ∧ Hid (Below w2.heap.size w2 wr))
      case atStart => exact ⟨0, Nat.zero_le _, by omega, rfl, BWs⟩
      case round =>
        clear BWs hltz BW
        obtain ⟨kk, hkk, hg, rfl, BW⟩ := hrel
        have i0 := (HT1.out.below BW.out).cell (i := 1) rfl
        have j0 := (HT2.out.below BW.out).cell (i := 1) rfl
        by_cases hlt : kk < nK
        · have hltz : (kk : Int) < (nK : Int) := by omega
          obtain ⟨b1', o1, rfl, cy, cn⟩ := (HK.out.below BW.out).kind hlt
          obtain ⟨b2', o2, rfl, dy, dn⟩ := (HM.out.below BW.out).kind hlt
          generalize (K kk).1 = y1 at cy dy
          generalize (K kk).2 = n1 at cn dn
          have q3 : (y1 == y1) = true := beq_self_eq_true _
          have q5 : (y1 != y1) = false := by rw [bne, q3]; rfl
          have q4 : (n1 == n1) = true := beq_self_eq_true _
          have q6 : (n1 != n1) = false := by rw [bne, q4]; rfl
          go_wp2
          go_quiet (fail)
          go_wp2
          go_roundg (nK - (kk + 1))
          case measure => omega
          case rel => exact ⟨kk + 1, by omega, by omega, by go_num, Lib.hid (below_drewN BW.out _)⟩
        · have hltz : ¬ (kk : Int) < (nK : Int) := by omega
          clear i0 j0
          have X1 := HT1.out.below BW.out
          have X2 := HT2.out.below BW.out
          have i2 := X1.cell (i := 2) rfl
          have i3 := X1.cell (i := 3) rfl
          have i4 := X1.cell (i := 4) rfl
          have i5 := X1.cell (i := 5) rfl
          have i6 := X1.cell (i := 6) rfl
          have i7 := X1.cell (i := 7) rfl
          have i8 := X1.cell (i := 8) rfl
          have j2 := X2.cell (i := 2) rfl
          have j3 := X2.cell (i := 3) rfl
          have j4 := X2.cell (i := 4) rfl
          have j5 := X2.cell (i := 5) rfl
          have j6 := X2.cell (i := 6) rfl
          have j7 := X2.cell (i := 7) rfl
          have j8 := X2.cell (i := 8) rfl
          have i1 := X1.cell (i := 1) rfl
          have j1 := X2.cell (i := 1) rfl
          clear X1 X2
          go_wp2
          go_ret
          exact ⟨rfl, HX.out.trans (BW.out.mono HSz.out)⟩
end Go.Proofs.Ytokofmolbdpklaa
