/- The walk of LevelsOrders. -/
import Derived.Test.YthhmbcelicfopaaN14
import Derived.StillTailTactics
namespace Go.Proofs.Ythhmbcelicfopaa
open Go.RowKit
set_option linter.unusedVariables false
theorem change20_yes (uA : Option Addr) (n uC : Nat) (kA : Option Addr) (nK kC : Nat) (d x3 x4 x5 x6 x7 x8 : Int) (vA : Option Addr) (m vC : Nat) (lA : Option Addr) (mK lC : Nat) (e y3 y4 y5 y6 y7 y8 : Int) (U V : Nat → ByteArray × Int) (K M : Nat → Int × Int) (us vs : ByteArray → Int) (nd ne : Int → Int) (user : ByteArray) (w : World) (hU : Rws w uA n uC 2 (rowU U)) (hK : Rws w kA nK kC 2 (rowK K)) (hV : Rws w vA m vC 2 (rowU V)) (hM : Rws w lA mK lC 2 (rowK M))
    (hu : ∀ x, UserPost U x n d (us x)) (hv : ∀ x, UserPost V x m e (vs x)) (hnd : ∀ k, NeedPost K k nK x3 x4 (nd k)) (hne : ∀ k, NeedPost M k mK y3 y4 (ne k)) (hbk : (nK + mK) * 8 ≤ 140737488355328) (hb : ChOK n m nK mK U V K M us vs nd ne (numF d x3 x4 x5 x6 x7 x8) (numF e y3 y4 y5 y6 y7 y8) user) :
    Calls Try.prog 20 #[.agg (lvc uA n uC kA nK kC d x3 x4 x5 x6 x7 x8).toArray, .agg (lvc vA m vC lA mK lC e y3 y4 y5 y6 y7 y8).toArray, .string user] w fun e' w' => e' = .returned (.int .i64 0) ∧ Below w.heap.size w w' :=
  (change20 uA n uC kA nK kC d x3 x4 x5 x6 x7 x8 vA m vC lA mK lC e y3 y4 y5 y6 y7 y8 U V K M us vs nd ne user w hU hV hK hM hu hv hnd hne hbk).mono fun e' w' h => ⟨h.1.elim And.right (fun h => absurd hb h.1), h.2⟩
set_option maxHeartbeats 64000000 in
theorem orders_walk (uA : Option Addr) (n uC : Nat) (kA : Option Addr) (nK kC : Nat) (d x3 x4 x5 x6 x7 x8 : Int) (vA : Option Addr) (m vC : Nat) (lA : Option Addr) (mK lC : Nat) (e y3 y4 y5 y6 y7 y8 : Int) (U V : Nat → ByteArray × Int) (K M : Nat → Int × Int) (user : ByteArray) (w : World) (hU : Rws w uA n uC 2 (rowU U)) (hK : Rws w kA nK kC 2 (rowK K)) (hV : Rws w vA m vC 2 (rowU V)) (hM : Rws w lA mK lC 2 (rowK M)) (hn : n ≤ 12) (hnK : nK ≤ 12) (hgr : isGreat m mK = false) :
    Calls Try.prog 8 #[.agg (lvc uA n uC kA nK kC d x3 x4 x5 x6 x7 x8).toArray, .agg (lvc vA m vC lA mK lC e y3 y4 y5 y6 y7 y8).toArray, .string user] w fun e' w' => e' = .returned (.bool true) ∧ Below w.heap.size w w' := by
  have HX := Lib.hid (two_boxes w (lvc uA n uC kA nK kC d x3 x4 x5 x6 x7 x8) (lvc vA m vC lA mK lC e y3 y4 y5 y6 y7 y8))
  have HU := Lib.hid (hU.below HX.out.2.2)
  have HV := Lib.hid (hV.below HX.out.2.2)
  have HK := Lib.hid (hK.below HX.out.2.2)
  have HM := Lib.hid (hM.below HX.out.2.2)
  have d1 : decide ((12 : Int) < (n : Int)) = false := by simp; omega
  have d2 : decide ((12 : Int) < (nK : Int)) = false := by simp; omega
  obtain ⟨us, hus⟩ := users_fun U n d
  obtain ⟨vs, hvs⟩ := users_fun V m e
  obtain ⟨nd, hnd⟩ := needs_fun K nK x3 x4
  obtain ⟨ne, hne⟩ := needs_fun M mK y3 y4
  obtain ⟨b, hb⟩ := bool_of (ChOK n m nK mK U V K M us vs nd ne (numF d x3 x4 x5 x6 x7 x8) (numF e y3 y4 y5 y6 y7 y8) user)
  have HO := Lib.hid hus
  have HP := Lib.hid hvs
  have HND := Lib.hid hnd
  have HNE := Lib.hid hne
  have Hb := Lib.hid hb
  have HG2 := Lib.hid (fun w => great9 vA m vC lA mK lC e y3 y4 y5 y6 y7 y8 w)
  rw [hgr] at HG2
  clear hU hK hV hM hus hvs hnd hne hb
  show Calls Try.prog 8 #[.agg #[.slice uA n uC, .slice kA nK kC, .int .i64 d, .int .i64 x3, .int .i64 x4, .int .i64 x5, .int .i64 x6, .int .i64 x7, .int .i64 x8], .agg #[.slice vA m vC, .slice lA mK lC, .int .i64 e, .int .i64 y3, .int .i64 y4, .int .i64 y5, .int .i64 y6, .int .i64 y7, .int .i64 y8], .string user] w _
  obtain ⟨i1, hi1a, hi1b, hi1c, hi1d⟩ := info_parts info55
  obtain ⟨i2, hi2a, hi2b, hi2c, hi2d⟩ := info_parts info61
  have HI1 := Lib.hid (And.intro hi1a (And.intro hi1b (And.intro hi1c hi1d)))
  have HI2 := Lib.hid (And.intro hi2a (And.intro hi2b (And.intro hi2c hi2d)))
  clear hi1a hi1b hi1c hi1d hi2a hi2b hi2c hi2d
  go_enter Try.func8, Try.ntmps8
  go_upto_region 3 with (go_at_call 9; with_reducible refine (HG2.out _).mono ?_; rintro e0 w2 ⟨rfl, hb0⟩; have HB0 := Lib.hid hb0; clear hb0; have T1 := HX.out.1.below HB0.out; have k0 := T1.cell (i := 0) rfl; have k1 := T1.cell (i := 1) rfl; have k2 := T1.cell (i := 2) rfl; have k3 := T1.cell (i := 3) rfl; have k4 := T1.cell (i := 4) rfl; have k5 := T1.cell (i := 5) rfl; have k6 := T1.cell (i := 6) rfl; have k7 := T1.cell (i := 7) rfl; have k8 := T1.cell (i := 8) rfl; clear T1)
  have HT1 := Lib.hid ((HX.out.1.below HB0.out))
  have HT2 := Lib.hid ((HX.out.2.1.below HB0.out))
  have HUa := Lib.hid (HU.out.below HB0.out)
  have HVa := Lib.hid (HV.out.below HB0.out)
  have HKa := Lib.hid (HK.out.below HB0.out)
  have HMa := Lib.hid (HM.out.below HB0.out)
  have HW2 := Lib.hid (HX.out.2.2.trans (HB0.out.mono HX.out.2.2.size))
  have HSz := Lib.hid HW2.out.size
  clear HX HU HV HK HM HB0
  have HU := HUa
  have HV := HVa
  have HK := HKa
  have HM := HMa
  clear HUa HVa HKa HMa
  generalize hb2 : w.heap.size + 1 = b2 at HT2 ⊢
  generalize hb1 : w.heap.size = b1 at HT1 ⊢
  clear hb1 hb2
  clear k0 k1 k2 k3 k4 k5 k6 k7 k8
  have T1 := HT1.out
  have k0 := T1.cell (i := 0) rfl
  have k1 := T1.cell (i := 1) rfl
  have k2 := T1.cell (i := 2) rfl
  have k3 := T1.cell (i := 3) rfl
  have k4 := T1.cell (i := 4) rfl
  have k5 := T1.cell (i := 5) rfl
  have k6 := T1.cell (i := 6) rfl
  have k7 := T1.cell (i := 7) rfl
  have k8 := T1.cell (i := 8) rfl
  clear T1
  have BW0 := Lib.hid (Below.alloc (Below.refl w2.heap.size w2) (Nat.le_refl _) (.cells (lvc none 0 0 none 0 0 d x3 x4 x5 x6 x7 x8).toArray 25))
  have TI0 := Lib.hid (show ∃ A1 c1, TInv (w2.alloc (.cells (lvc none 0 0 none 0 0 d x3 x4 x5 x6 x7 x8).toArray 25)) w2.heap.size w2.heap.size A1 (n - n) c1 none 0 0 d x3 x4 x5 x6 x7 x8 (flat (n - n) (rev n (rowU U))) [] from
    ⟨none, 0, by rw [Nat.sub_self]; exact ⟨blk_new w2 _ 25, ⟨rfl, .inl ⟨rfl, rfl⟩⟩, ⟨rfl, .inl ⟨rfl, rfl⟩⟩, Nat.le_refl _⟩⟩)
  go_upto_region 6 with (fail)
  have HT1a := Lib.hid (HT1.out.alloc (.cells (lvc none 0 0 none 0 0 d x3 x4 x5 x6 x7 x8).toArray 25))
  clear k0 k1 k2 k3 k4 k5 k6 k7 k8
  generalize hwa : (w2.alloc _) = wa at BW0 TI0 HT1a ⊢
  clear hwa
  have k0 := HT1a.out.cell (i := 0) rfl
  go_wp2
  clear k0 HT1a
  go_loopg [8, 9] n (fun gg s8 s9 wr => ∃ (r : Nat) (z : Int), r ≤ n ∧ r ≤ gg ∧ s8 = .int .i64 z ∧ z = (r : Int) - 1 ∧ Hid (Below w2.heap.size w2 wr) ∧ Hid (∃ A1 c1, TInv wr w2.heap.size w2.heap.size A1 (n - r) c1 none 0 0 d x3 x4 x5 x6 x7 x8 (flat (n - r) (rev n (rowU U))) []) ∧ Hid (Apart n (fun k i => (U k).1.toList = (U i).1.toList) r))
  case atStart => exact ⟨n, _, Nat.le_refl _, by omega, rfl, by omega, BW0, TI0, Lib.hid (fun i h1 h2 => absurd h1 (by omega))⟩
  case round =>
    clear BW0 TI0
    obtain ⟨r, z, hr, hg, rfl, hz, BW, TI, AP⟩ := hrel
    by_cases hr0 : r = 0
    · obtain rfl : z = -1 := by omega
      subst hr0
      clear hz hg hr
      obtain ⟨A1, c1, hti⟩ := TI.out
      rw [Nat.sub_zero] at hti
      have HApU := AP
      have k1 := (HT1.out.below BW.out).cell (i := 1) rfl
      have BW0 := BW
      have TI0 := Lib.hid (show ∃ A2 c2, TInv wr w2.heap.size w2.heap.size A1 n c1 A2 (nK - nK) c2 d x3 x4 x5 x6 x7 x8 (flat n (rev n (rowU U))) (flat (nK - nK) (rev nK (rowK K))) from ⟨none, 0, by rw [Nat.sub_self]; exact hti⟩)
      clear hti TI AP BW
      go_wp2
      clear k1
      go_loopg [10, 11] nK (fun gg s10 s11 wr => ∃ (r : Nat) (z : Int), r ≤ nK ∧ r ≤ gg ∧ s10 = .int .i64 z ∧ z = (r : Int) - 1 ∧ Hid (Below w2.heap.size w2 wr) ∧ Hid (∃ A2 c2, TInv wr w2.heap.size w2.heap.size A1 n c1 A2 (nK - r) c2 d x3 x4 x5 x6 x7 x8 (flat n (rev n (rowU U))) (flat (nK - r) (rev nK (rowK K)))) ∧ Hid (Apart nK (fun k i => (K k).1 = (K i).1) r))
      case atStart => exact ⟨nK, _, Nat.le_refl _, by omega, rfl, by omega, BW0, TI0, Lib.hid (fun i h1 h2 => absurd h1 (by omega))⟩
      case round =>
        clear BW0 TI0
        obtain ⟨r, z, hr, hg, rfl, hz, BW, TI, AP⟩ := hrel
        by_cases hr0 : r = 0
        · obtain rfl : z = -1 := by omega
          subst hr0
          clear hz hg hr
          obtain ⟨A2, c2, hti⟩ := TI.out
          rw [Nat.sub_zero] at hti
          have HTa := Lib.hid (HT1.out.below BW.out)
          have HTb := Lib.hid (HT2.out.below BW.out)
          have HTc := Lib.hid hti.ct
          have HUt := Lib.hid (show Rws wr A1 n c1 2 (rowU (rev n U)) from hti.rowsU (by unfold maxLen; omega))
          have HKt := Lib.hid (show Rws wr A2 nK c2 2 (rowK (rev nK K)) from hti.rowsK (by unfold maxLen; omega))
          have HUr := Lib.hid (HU.out.below BW.out)
          have HVr := Lib.hid (HV.out.below BW.out)
          have HKr := Lib.hid (HK.out.below BW.out)
          have HMr := Lib.hid (HM.out.below BW.out)
          have HOr := Lib.hid (fun x => rev_user (HO.out x) HApU.out)
          have HNDr := Lib.hid (fun k => rev_need (HND.out k) AP.out)
          have HbR := Lib.hid (Hb.out.trans rev_ch.symm)
          have HSk := Lib.hid (show (nK + mK) * 8 ≤ 140737488355328 by have := hgr; unfold isGreat at this; simp at this; omega)
          have HSl := Lib.hid (show (nK + nK) * 8 ≤ 140737488355328 by omega)
          clear hti TI
          go_wp2
          refine wp_region_held_drew (S := (fun w' => Blk w' b1 (lvc uA n uC kA nK kC d x3 x4 x5 x6 x7 x8) 25 ∧ Blk w' b2 (lvc vA m vC lA mK lC e y3 y4 y5 y6 y7 y8) 25 ∧ Blk w' w2.heap.size (lvc A1 n c1 A2 nK c2 d x3 x4 x5 x6 x7 x8) 25 ∧ Below wr.heap.size wr w')) (by kernel_rfl) (by first | exact ⟨HTa.out.drew, HTb.out.drew, HTc.out.drew, (Below.refl _ _).drew⟩ | exact ⟨hH0.1.below hb3, hH0.2.1.below hb3, hH0.2.2.1.below hb3, hH0.2.2.2.trans (hb3.mono hH0.2.2.2.size)⟩ | exact hH0) (fun hH0 => ?_)
          refine wpAnyH_take (i := 0) (oi := ({ dst := some 104, op := Op.load 25 (Operand.tmp 7), type := 25, pos := "law.go:110", after := #[], guard := none } : Oper)) (v := ?hv42) rfl (by kernel_rfl) (by kernel_rfl) (by kernel_rfl) (fun _ _ _ h => h) (Or.inl ⟨by rfl, ?hy42⟩) (by assumption) ?hr42
          case hy42 => (intro w hSw; (try dsimp only at hSw); have k0 := hSw.2.2.1.cell (i := 0) rfl; have k1 := hSw.2.2.1.cell (i := 1) rfl; have k2 := hSw.2.2.1.cell (i := 2) rfl; have k3 := hSw.2.2.1.cell (i := 3) rfl; have k4 := hSw.2.2.1.cell (i := 4) rfl; have k5 := hSw.2.2.1.cell (i := 5) rfl; have k6 := hSw.2.2.1.cell (i := 6) rfl; have k7 := hSw.2.2.1.cell (i := 7) rfl; have k8 := hSw.2.2.1.cell (i := 8) rfl; clear hSw; go_simp; (try with_reducible rfl))
          try simp only [Act.put, List.setIfInBounds_toArray, List.set_cons_zero, List.set_cons_succ]
          refine wpAnyH_take (i := 1) (oi := ({ dst := some 105, op := Op.load 25 (Operand.tmp 4), type := 25, pos := "law.go:110", after := #[], guard := none } : Oper)) (v := ?hv43) rfl (by kernel_rfl) (by kernel_rfl) (by kernel_rfl) (fun _ _ _ h => h) (Or.inl ⟨by rfl, ?hy43⟩) (by assumption) ?hr43
          case hy43 => (intro w hSw; (try dsimp only at hSw); have k0 := hSw.2.1.cell (i := 0) rfl; have k1 := hSw.2.1.cell (i := 1) rfl; have k2 := hSw.2.1.cell (i := 2) rfl; have k3 := hSw.2.1.cell (i := 3) rfl; have k4 := hSw.2.1.cell (i := 4) rfl; have k5 := hSw.2.1.cell (i := 5) rfl; have k6 := hSw.2.1.cell (i := 6) rfl; have k7 := hSw.2.1.cell (i := 7) rfl; have k8 := hSw.2.1.cell (i := 8) rfl; clear hSw; go_simp; (try with_reducible rfl))
          try simp only [Act.put, List.setIfInBounds_toArray, List.set_cons_zero, List.set_cons_succ]
          refine wpAnyH_take (i := 2) (oi := ({ dst := some 106, op := Op.move (Operand.tmp 2), type := 9, pos := "law.go:110", after := #[], guard := none } : Oper)) (v := ?hv44) rfl (by kernel_rfl) (by kernel_rfl) (by kernel_rfl) (fun _ _ _ h => h) (Or.inl ⟨by rfl, ?hy44⟩) (by assumption) ?hr44
          case hy44 => (intro w hSw; (try dsimp only at hSw); go_simp; (try with_reducible rfl))
          try simp only [Act.put, List.setIfInBounds_toArray, List.set_cons_zero, List.set_cons_succ]
          refine wpAnyH_take (i := 4) (oi := ({ dst := some 108, op := Op.load 25 (Operand.tmp 3), type := 25, pos := "law.go:110", after := #[], guard := none } : Oper)) (v := ?hv45) rfl (by kernel_rfl) (by kernel_rfl) (by kernel_rfl) (fun _ _ _ h => h) (Or.inl ⟨by rfl, ?hy45⟩) (by assumption) ?hr45
          case hy45 => (intro w hSw; (try dsimp only at hSw); have k0 := hSw.1.cell (i := 0) rfl; have k1 := hSw.1.cell (i := 1) rfl; have k2 := hSw.1.cell (i := 2) rfl; have k3 := hSw.1.cell (i := 3) rfl; have k4 := hSw.1.cell (i := 4) rfl; have k5 := hSw.1.cell (i := 5) rfl; have k6 := hSw.1.cell (i := 6) rfl; have k7 := hSw.1.cell (i := 7) rfl; have k8 := hSw.1.cell (i := 8) rfl; clear hSw; go_simp; (try with_reducible rfl))
          try simp only [Act.put, List.setIfInBounds_toArray, List.set_cons_zero, List.set_cons_succ]
          refine wpAnyH_take (i := 5) (oi := ({ dst := some 109, op := Op.load 25 (Operand.tmp 4), type := 25, pos := "law.go:110", after := #[], guard := none } : Oper)) (v := ?hv46) rfl (by kernel_rfl) (by kernel_rfl) (by kernel_rfl) (fun _ _ _ h => h) (Or.inl ⟨by rfl, ?hy46⟩) (by assumption) ?hr46
          case hy46 => (intro w hSw; (try dsimp only at hSw); have k0 := hSw.2.1.cell (i := 0) rfl; have k1 := hSw.2.1.cell (i := 1) rfl; have k2 := hSw.2.1.cell (i := 2) rfl; have k3 := hSw.2.1.cell (i := 3) rfl; have k4 := hSw.2.1.cell (i := 4) rfl; have k5 := hSw.2.1.cell (i := 5) rfl; have k6 := hSw.2.1.cell (i := 6) rfl; have k7 := hSw.2.1.cell (i := 7) rfl; have k8 := hSw.2.1.cell (i := 8) rfl; clear hSw; go_simp; (try with_reducible rfl))
          try simp only [Act.put, List.setIfInBounds_toArray, List.set_cons_zero, List.set_cons_succ]
          refine wpAnyH_take (i := 6) (oi := ({ dst := some 110, op := Op.move (Operand.tmp 2), type := 9, pos := "law.go:110", after := #[], guard := none } : Oper)) (v := ?hv47) rfl (by kernel_rfl) (by kernel_rfl) (by kernel_rfl) (fun _ _ _ h => h) (Or.inl ⟨by rfl, ?hy47⟩) (by assumption) ?hr47
          case hy47 => (intro w hSw; (try dsimp only at hSw); go_simp; (try with_reducible rfl))
          try simp only [Act.put, List.setIfInBounds_toArray, List.set_cons_zero, List.set_cons_succ]
          refine wpAnyH_ready (rs := [3]) (by kernel_rfl) (by simp) ?_
          refine AllReadyH.cons (o := ({ dst := some 107, op := Op.call { callee := Callee.value (Operand.func 20), args := #[Operand.tmp 104, Operand.tmp 105, Operand.tmp 106], argTypes := #[25, 25, 9] }, type := 46, pos := "law.go:110", after := #[{ on := 0, ground := Ground.data }, { on := 1, ground := Ground.data }, { on := 2, ground := Ground.data }], guard := none } : Oper)) rfl (fun KK hKK => ?_) AllReadyH.nil
          (go_simp; (with_reducible refine (change20_is A1 n c1 A2 nK c2 d x3 x4 x5 x6 x7 x8 vA m vC lA mK lC e y3 y4 y5 y6 y7 y8 (rev n U) V (rev nK K) M us vs nd ne user b _ (HUt.out.below hH0.2.2.2) (HKt.out.below hH0.2.2.2) (HVr.out.below hH0.2.2.2) (HMr.out.below hH0.2.2.2) HOr.out HP.out HNDr.out HNE.out HSk.out HbR.out).mono ?_); rintro e0 w3 ⟨rfl, hb3⟩)
          refine hKK.out _ _ (by first | exact ⟨HTa.out.drew, HTb.out.drew, HTc.out.drew, (Below.refl _ _).drew⟩ | exact ⟨hH0.1.below hb3, hH0.2.1.below hb3, hH0.2.2.1.below hb3, hH0.2.2.2.trans (hb3.mono hH0.2.2.2.size)⟩ | exact hH0) (fun hH1 => ?_)
          clear hKK KK hH0
          try simp only [Act.put, List.setIfInBounds_toArray, List.set_cons_zero, List.set_cons_succ]
          refine wpAnyH_ready (rs := [7]) (by kernel_rfl) (by simp) ?_
          refine AllReadyH.cons (o := ({ dst := some 111, op := Op.call { callee := Callee.value (Operand.func 20), args := #[Operand.tmp 108, Operand.tmp 109, Operand.tmp 110], argTypes := #[25, 25, 9] }, type := 46, pos := "law.go:110", after := #[{ on := 4, ground := Ground.data }, { on := 5, ground := Ground.data }, { on := 6, ground := Ground.data }, { on := 3, ground := Ground.chain }], guard := none } : Oper)) rfl (fun KK hKK => ?_) AllReadyH.nil
          (go_simp; (with_reducible refine (change20_is uA n uC kA nK kC d x3 x4 x5 x6 x7 x8 vA m vC lA mK lC e y3 y4 y5 y6 y7 y8 U V K M us vs nd ne user b _ (HUr.out.below hH1.2.2.2) (HKr.out.below hH1.2.2.2) (HVr.out.below hH1.2.2.2) (HMr.out.below hH1.2.2.2) HO.out HP.out HND.out HNE.out HSk.out Hb.out).mono ?_); rintro e0 w3 ⟨rfl, hb3⟩)
          refine hKK.out _ _ (by first | exact ⟨HTa.out.drew, HTb.out.drew, HTc.out.drew, (Below.refl _ _).drew⟩ | exact ⟨hH1.1.below hb3, hH1.2.1.below hb3, hH1.2.2.1.below hb3, hH1.2.2.2.trans (hb3.mono hH1.2.2.2.size)⟩ | exact hH1) (fun hH2 => ?_)
          clear hKK KK hH1
          try simp only [Act.put, List.setIfInBounds_toArray, List.set_cons_zero, List.set_cons_succ]
          refine wpAnyH_take (i := 8) (oi := ({ dst := some 112, op := Op.binOp BinOp.eql 46 (Operand.tmp 107) (Operand.tmp 111) 46, type := 4, pos := "law.go:110", after := #[{ on := 3, ground := Ground.data }, { on := 7, ground := Ground.data }], guard := none } : Oper)) (v := ?hv48) rfl (by kernel_rfl) (by kernel_rfl) (by kernel_rfl) (fun _ _ _ h => h) (Or.inl ⟨by rfl, ?hy48⟩) (by assumption) ?hr48
          case hy48 => (intro w hSw; (try dsimp only at hSw); go_simp; (try with_reducible rfl))
          try simp only [Act.put, List.setIfInBounds_toArray, List.set_cons_zero, List.set_cons_succ]
          refine wpAnyH_take (i := 9) (oi := ({ dst := some 113, op := Op.move (Operand.tmp 112), type := 4, pos := "law.go:110", after := #[{ on := 8, ground := Ground.data }, { on := 7, ground := Ground.chain }], guard := none } : Oper)) (v := ?hv49) rfl (by kernel_rfl) (by kernel_rfl) (by kernel_rfl) (fun _ _ _ h => h) (Or.inl ⟨by rfl, ?hy49⟩) (by assumption) ?hr49
          case hy49 => (intro w hSw; (try dsimp only at hSw); go_simp; (try with_reducible rfl))
          try simp only [Act.put, List.setIfInBounds_toArray, List.set_cons_zero, List.set_cons_succ]
          refine wpAnyH_take (i := 10) (oi := ({ dst := some 114, op := Op.load 25 (Operand.tmp 3), type := 25, pos := "law.go:110", after := #[{ on := 9, ground := Ground.guard }], guard := some (9, true) } : Oper)) (v := ?hv50) rfl (by kernel_rfl) (by kernel_rfl) (by kernel_rfl) (fun _ _ _ h => h) (Or.inl ⟨by rfl, ?hy50⟩) (by assumption) ?hr50
          case hy50 => (intro w hSw; (try dsimp only at hSw); have k0 := hSw.1.cell (i := 0) rfl; have k1 := hSw.1.cell (i := 1) rfl; have k2 := hSw.1.cell (i := 2) rfl; have k3 := hSw.1.cell (i := 3) rfl; have k4 := hSw.1.cell (i := 4) rfl; have k5 := hSw.1.cell (i := 5) rfl; have k6 := hSw.1.cell (i := 6) rfl; have k7 := hSw.1.cell (i := 7) rfl; have k8 := hSw.1.cell (i := 8) rfl; clear hSw; go_simp; (try with_reducible rfl))
          try simp only [Act.put, List.setIfInBounds_toArray, List.set_cons_zero, List.set_cons_succ]
          refine wpAnyH_take (i := 11) (oi := ({ dst := some 115, op := Op.load 25 (Operand.tmp 7), type := 25, pos := "law.go:110", after := #[{ on := 9, ground := Ground.guard }], guard := some (9, true) } : Oper)) (v := ?hv51) rfl (by kernel_rfl) (by kernel_rfl) (by kernel_rfl) (fun _ _ _ h => h) (Or.inl ⟨by rfl, ?hy51⟩) (by assumption) ?hr51
          case hy51 => (intro w hSw; (try dsimp only at hSw); have k0 := hSw.2.2.1.cell (i := 0) rfl; have k1 := hSw.2.2.1.cell (i := 1) rfl; have k2 := hSw.2.2.1.cell (i := 2) rfl; have k3 := hSw.2.2.1.cell (i := 3) rfl; have k4 := hSw.2.2.1.cell (i := 4) rfl; have k5 := hSw.2.2.1.cell (i := 5) rfl; have k6 := hSw.2.2.1.cell (i := 6) rfl; have k7 := hSw.2.2.1.cell (i := 7) rfl; have k8 := hSw.2.2.1.cell (i := 8) rfl; clear hSw; go_simp; (try with_reducible rfl))
          try simp only [Act.put, List.setIfInBounds_toArray, List.set_cons_zero, List.set_cons_succ]
          refine wpAnyH_take (i := 12) (oi := ({ dst := some 116, op := Op.move (Operand.tmp 2), type := 9, pos := "law.go:110", after := #[{ on := 9, ground := Ground.guard }], guard := some (9, true) } : Oper)) (v := ?hv52) rfl (by kernel_rfl) (by kernel_rfl) (by kernel_rfl) (fun _ _ _ h => h) (Or.inl ⟨by rfl, ?hy52⟩) (by assumption) ?hr52
          case hy52 => (intro w hSw; (try dsimp only at hSw); go_simp; (try with_reducible rfl))
          try simp only [Act.put, List.setIfInBounds_toArray, List.set_cons_zero, List.set_cons_succ]
          refine wpAnyH_ready (rs := [13]) (by kernel_rfl) (by simp) ?_
          refine AllReadyH.cons (o := ({ dst := some 117, op := Op.call { callee := Callee.value (Operand.func 20), args := #[Operand.tmp 114, Operand.tmp 115, Operand.tmp 116], argTypes := #[25, 25, 9] }, type := 46, pos := "law.go:110", after := #[{ on := 10, ground := Ground.data }, { on := 11, ground := Ground.data }, { on := 12, ground := Ground.data }, { on := 9, ground := Ground.chain }, { on := 9, ground := Ground.guard }], guard := some (9, true) } : Oper)) rfl (fun KK hKK => ?_) AllReadyH.nil
          (go_simp; (with_reducible refine (change20_yes uA n uC kA nK kC d x3 x4 x5 x6 x7 x8 A1 n c1 A2 nK c2 d x3 x4 x5 x6 x7 x8 U (rev n U) K (rev nK K) us us nd nd user _ (HUr.out.below hH2.2.2.2) (HKr.out.below hH2.2.2.2) (HUt.out.below hH2.2.2.2) (HKt.out.below hH2.2.2.2) HO.out HOr.out HND.out HNDr.out HSl.out ((ch_refl2 _ _ _ _ _ _ _ _ _ _).1 rfl)).mono ?_); rintro e0 w3 ⟨rfl, hb3⟩)
          refine hKK.out _ _ (by first | exact ⟨HTa.out.drew, HTb.out.drew, HTc.out.drew, (Below.refl _ _).drew⟩ | exact ⟨hH2.1.below hb3, hH2.2.1.below hb3, hH2.2.2.1.below hb3, hH2.2.2.2.trans (hb3.mono hH2.2.2.2.size)⟩ | exact hH2) (fun hH3 => ?_)
          clear hKK KK hH2
          try simp only [Act.put, List.setIfInBounds_toArray, List.set_cons_zero, List.set_cons_succ]
          refine wpAnyH_take (i := 14) (oi := ({ dst := some 118, op := Op.binOp BinOp.eql 46 (Operand.tmp 117) (Operand.const (Value.int IntKind.i64 0)) 46, type := 4, pos := "law.go:110", after := #[{ on := 13, ground := Ground.data }, { on := 9, ground := Ground.guard }], guard := some (9, true) } : Oper)) (v := ?hv53) rfl (by kernel_rfl) (by kernel_rfl) (by kernel_rfl) (fun _ _ _ h => h) (Or.inl ⟨by rfl, ?hy53⟩) (by assumption) ?hr53
          case hy53 => (intro w hSw; (try dsimp only at hSw); go_simp; (try with_reducible rfl))
          try simp only [Act.put, List.setIfInBounds_toArray, List.set_cons_zero, List.set_cons_succ]
          refine wpAnyH_take (i := 15) (oi := ({ dst := some 119, op := Op.pick (Operand.tmp 113) (Operand.tmp 118) (Operand.const (Value.bool false)), type := 4, pos := "law.go:110", after := #[{ on := 9, ground := Ground.data }, { on := 14, ground := Ground.data }], guard := none } : Oper)) (v := ?hv54) rfl (by kernel_rfl) (by kernel_rfl) (by kernel_rfl) (fun _ _ _ h => h) (Or.inl ⟨by rfl, ?hy54⟩) (by assumption) ?hr54
          case hy54 => (intro w hSw; (try dsimp only at hSw); go_simp; (try with_reducible rfl))
          try simp only [Act.put, List.setIfInBounds_toArray, List.set_cons_zero, List.set_cons_succ]
          refine wpAnyH_take (i := 16) (oi := ({ dst := some 120, op := Op.move (Operand.tmp 119), type := 4, pos := "law.go:110", after := #[{ on := 15, ground := Ground.data }, { on := 13, ground := Ground.chain }], guard := none } : Oper)) (v := ?hv55) rfl (by kernel_rfl) (by kernel_rfl) (by kernel_rfl) (fun _ _ _ h => h) (Or.inl ⟨by rfl, ?hy55⟩) (by assumption) ?hr55
          case hy55 => (intro w hSw; (try dsimp only at hSw); go_simp; (try with_reducible rfl))
          try simp only [Act.put, List.setIfInBounds_toArray, List.set_cons_zero, List.set_cons_succ]
          refine wpAnyH_take (i := 17) (oi := ({ dst := some 121, op := Op.load 25 (Operand.tmp 7), type := 25, pos := "law.go:110", after := #[{ on := 16, ground := Ground.guard }], guard := some (16, true) } : Oper)) (v := ?hv56) rfl (by kernel_rfl) (by kernel_rfl) (by kernel_rfl) (fun _ _ _ h => h) (Or.inl ⟨by rfl, ?hy56⟩) (by assumption) ?hr56
          case hy56 => (intro w hSw; (try dsimp only at hSw); have k0 := hSw.2.2.1.cell (i := 0) rfl; have k1 := hSw.2.2.1.cell (i := 1) rfl; have k2 := hSw.2.2.1.cell (i := 2) rfl; have k3 := hSw.2.2.1.cell (i := 3) rfl; have k4 := hSw.2.2.1.cell (i := 4) rfl; have k5 := hSw.2.2.1.cell (i := 5) rfl; have k6 := hSw.2.2.1.cell (i := 6) rfl; have k7 := hSw.2.2.1.cell (i := 7) rfl; have k8 := hSw.2.2.1.cell (i := 8) rfl; clear hSw; go_simp; (try with_reducible rfl))
          try simp only [Act.put, List.setIfInBounds_toArray, List.set_cons_zero, List.set_cons_succ]
          refine wpAnyH_take (i := 18) (oi := ({ dst := some 122, op := Op.move (Operand.tmp 2), type := 9, pos := "law.go:110", after := #[{ on := 16, ground := Ground.guard }], guard := some (16, true) } : Oper)) (v := ?hv57) rfl (by kernel_rfl) (by kernel_rfl) (by kernel_rfl) (fun _ _ _ h => h) (Or.inl ⟨by rfl, ?hy57⟩) (by assumption) ?hr57
          case hy57 => (intro w hSw; (try dsimp only at hSw); go_simp; (try with_reducible rfl))
          try simp only [Act.put, List.setIfInBounds_toArray, List.set_cons_zero, List.set_cons_succ]
          refine wpAnyH_take (i := 20) (oi := ({ dst := some 124, op := Op.load 25 (Operand.tmp 3), type := 25, pos := "law.go:110", after := #[{ on := 16, ground := Ground.guard }], guard := some (16, true) } : Oper)) (v := ?hv58) rfl (by kernel_rfl) (by kernel_rfl) (by kernel_rfl) (fun _ _ _ h => h) (Or.inl ⟨by rfl, ?hy58⟩) (by assumption) ?hr58
          case hy58 => (intro w hSw; (try dsimp only at hSw); have k0 := hSw.1.cell (i := 0) rfl; have k1 := hSw.1.cell (i := 1) rfl; have k2 := hSw.1.cell (i := 2) rfl; have k3 := hSw.1.cell (i := 3) rfl; have k4 := hSw.1.cell (i := 4) rfl; have k5 := hSw.1.cell (i := 5) rfl; have k6 := hSw.1.cell (i := 6) rfl; have k7 := hSw.1.cell (i := 7) rfl; have k8 := hSw.1.cell (i := 8) rfl; clear hSw; go_simp; (try with_reducible rfl))
          try simp only [Act.put, List.setIfInBounds_toArray, List.set_cons_zero, List.set_cons_succ]
          refine wpAnyH_take (i := 21) (oi := ({ dst := some 125, op := Op.move (Operand.tmp 2), type := 9, pos := "law.go:110", after := #[{ on := 16, ground := Ground.guard }], guard := some (16, true) } : Oper)) (v := ?hv59) rfl (by kernel_rfl) (by kernel_rfl) (by kernel_rfl) (fun _ _ _ h => h) (Or.inl ⟨by rfl, ?hy59⟩) (by assumption) ?hr59
          case hy59 => (intro w hSw; (try dsimp only at hSw); go_simp; (try with_reducible rfl))
          try simp only [Act.put, List.setIfInBounds_toArray, List.set_cons_zero, List.set_cons_succ]
          refine wpAnyH_ready (rs := [19]) (by kernel_rfl) (by simp) ?_
          refine AllReadyH.cons (o := ({ dst := some 123, op := Op.call { callee := Callee.value (Operand.func 11), args := #[Operand.tmp 121, Operand.tmp 122], argTypes := #[25, 9] }, type := 3, pos := "law.go:110", after := #[{ on := 17, ground := Ground.data }, { on := 18, ground := Ground.data }, { on := 16, ground := Ground.chain }, { on := 16, ground := Ground.guard }], guard := some (16, true) } : Oper)) rfl (fun KK hKK => ?_) AllReadyH.nil
          (go_simp; (with_reducible refine (user21_is A1 n c1 A2 nK c2 d x3 x4 x5 x6 x7 x8 (rev n U) user (us user) _ (HUt.out.below hH3.2.2.2) (HOr.out user)).mono ?_); rintro e0 w3 ⟨rfl, hb3⟩)
          refine hKK.out _ _ (by first | exact ⟨HTa.out.drew, HTb.out.drew, HTc.out.drew, (Below.refl _ _).drew⟩ | exact ⟨hH3.1.below hb3, hH3.2.1.below hb3, hH3.2.2.1.below hb3, hH3.2.2.2.trans (hb3.mono hH3.2.2.2.size)⟩ | exact hH3) (fun hH4 => ?_)
          clear hKK KK hH3
          try simp only [Act.put, List.setIfInBounds_toArray, List.set_cons_zero, List.set_cons_succ]
          refine wpAnyH_ready (rs := [22]) (by kernel_rfl) (by simp) ?_
          refine AllReadyH.cons (o := ({ dst := some 126, op := Op.call { callee := Callee.value (Operand.func 11), args := #[Operand.tmp 124, Operand.tmp 125], argTypes := #[25, 9] }, type := 3, pos := "law.go:110", after := #[{ on := 20, ground := Ground.data }, { on := 21, ground := Ground.data }, { on := 19, ground := Ground.chain }, { on := 16, ground := Ground.guard }], guard := some (16, true) } : Oper)) rfl (fun KK hKK => ?_) AllReadyH.nil
          (go_simp; (with_reducible refine (user21_is uA n uC kA nK kC d x3 x4 x5 x6 x7 x8 U user (us user) _ (HUr.out.below hH4.2.2.2) (HO.out user)).mono ?_); rintro e0 w3 ⟨rfl, hb3⟩)
          refine hKK.out _ _ (by first | exact ⟨HTa.out.drew, HTb.out.drew, HTc.out.drew, (Below.refl _ _).drew⟩ | exact ⟨hH4.1.below hb3, hH4.2.1.below hb3, hH4.2.2.1.below hb3, hH4.2.2.2.trans (hb3.mono hH4.2.2.2.size)⟩ | exact hH4) (fun hH5 => ?_)
          clear hKK KK hH4
          try simp only [Act.put, List.setIfInBounds_toArray, List.set_cons_zero, List.set_cons_succ]
          refine wpAnyH_take (i := 23) (oi := ({ dst := some 127, op := Op.binOp BinOp.eql 3 (Operand.tmp 123) (Operand.tmp 126) 3, type := 4, pos := "law.go:110", after := #[{ on := 19, ground := Ground.data }, { on := 22, ground := Ground.data }, { on := 16, ground := Ground.guard }], guard := some (16, true) } : Oper)) (v := ?hv60) rfl (by kernel_rfl) (by kernel_rfl) (by kernel_rfl) (fun _ _ _ h => h) (Or.inl ⟨by rfl, ?hy60⟩) (by assumption) ?hr60
          case hy60 => (intro w hSw; (try dsimp only at hSw); go_simp; (try with_reducible rfl))
          try simp only [Act.put, List.setIfInBounds_toArray, List.set_cons_zero, List.set_cons_succ]
          refine wpAnyH_take (i := 24) (oi := ({ dst := some 128, op := Op.pick (Operand.tmp 120) (Operand.tmp 127) (Operand.const (Value.bool false)), type := 4, pos := "law.go:110", after := #[{ on := 16, ground := Ground.data }, { on := 23, ground := Ground.data }], guard := none } : Oper)) (v := ?hv61) rfl (by kernel_rfl) (by kernel_rfl) (by kernel_rfl) (fun _ _ _ h => h) (Or.inl ⟨by rfl, ?hy61⟩) (by assumption) ?hr61
          case hy61 => (intro w hSw; (try dsimp only at hSw); go_simp; (try with_reducible rfl))
          try simp only [Act.put, List.setIfInBounds_toArray, List.set_cons_zero, List.set_cons_succ]
          refine wpAnyH_take (i := 25) (oi := ({ dst := some 129, op := Op.move (Operand.tmp 128), type := 4, pos := "law.go:110", after := #[{ on := 24, ground := Ground.data }, { on := 22, ground := Ground.chain }], guard := none } : Oper)) (v := ?hv62) rfl (by kernel_rfl) (by kernel_rfl) (by kernel_rfl) (fun _ _ _ h => h) (Or.inl ⟨by rfl, ?hy62⟩) (by assumption) ?hr62
          case hy62 => (intro w hSw; (try dsimp only at hSw); go_simp; (try with_reducible rfl))
          try simp only [Act.put, List.setIfInBounds_toArray, List.set_cons_zero, List.set_cons_succ]
          refine wpAnyH_ready (rs := [26]) (by kernel_rfl) (by simp) ?_
          refine AllReadyH.cons (o := ({ dst := some 130, op := Op.call { callee := Callee.value (Operand.func 10), args := #[], argTypes := #[] }, type := 4, pos := "law.go:110", after := #[{ on := 25, ground := Ground.chain }, { on := 25, ground := Ground.guard }], guard := some (25, true) } : Oper)) rfl (fun KK hKK => ?_) AllReadyH.nil
          (go_simp; (with_reducible refine (awake10 _).mono ?_); rintro e0 w3 ⟨rfl, hb3⟩)
          refine hKK.out _ _ (by first | exact ⟨HTa.out.drew, HTb.out.drew, HTc.out.drew, (Below.refl _ _).drew⟩ | exact ⟨hH5.1.below hb3, hH5.2.1.below hb3, hH5.2.2.1.below hb3, hH5.2.2.2.trans (hb3.mono hH5.2.2.2.size)⟩ | exact hH5) (fun hH6 => ?_)
          clear hKK KK hH5
          try simp only [Act.put, List.setIfInBounds_toArray, List.set_cons_zero, List.set_cons_succ]
          refine wpAnyH_take (i := 27) (oi := ({ dst := some 131, op := Op.pick (Operand.tmp 129) (Operand.tmp 130) (Operand.const (Value.bool false)), type := 4, pos := "law.go:110", after := #[{ on := 25, ground := Ground.data }, { on := 26, ground := Ground.data }], guard := none } : Oper)) (v := ?hv63) rfl (by kernel_rfl) (by kernel_rfl) (by kernel_rfl) (fun _ _ _ h => h) (Or.inl ⟨by rfl, ?hy63⟩) (by assumption) ?hr63
          case hy63 => (intro w hSw; (try dsimp only at hSw); go_simp; (try with_reducible rfl))
          try simp only [Act.put, List.setIfInBounds_toArray, List.set_cons_zero, List.set_cons_succ]
          refine wpAnyH_take (i := 28) (oi := ({ dst := some 6, op := Op.assign (Operand.tmp 131), type := 4, pos := "law.go:110", after := #[{ on := 27, ground := Ground.data }, { on := 26, ground := Ground.chain }, { on := 0, ground := Ground.phase }, { on := 1, ground := Ground.phase }, { on := 2, ground := Ground.phase }, { on := 3, ground := Ground.phase }, { on := 4, ground := Ground.phase }, { on := 5, ground := Ground.phase }, { on := 6, ground := Ground.phase }, { on := 7, ground := Ground.phase }, { on := 8, ground := Ground.phase }, { on := 9, ground := Ground.phase }, { on := 10, ground := Ground.phase }, { on := 11, ground := Ground.phase }, { on := 12, ground := Ground.phase }, { on := 13, ground := Ground.phase }, { on := 14, ground := Ground.phase }, { on := 15, ground := Ground.phase }, { on := 16, ground := Ground.phase }, { on := 17, ground := Ground.phase }, { on := 18, ground := Ground.phase }, { on := 19, ground := Ground.phase }, { on := 20, ground := Ground.phase }, { on := 21, ground := Ground.phase }, { on := 22, ground := Ground.phase }, { on := 23, ground := Ground.phase }, { on := 24, ground := Ground.phase }, { on := 25, ground := Ground.phase }, { on := 26, ground := Ground.phase }, { on := 27, ground := Ground.phase }], guard := none } : Oper)) (v := ?hv64) rfl (by kernel_rfl) (by kernel_rfl) (by kernel_rfl) (fun _ _ _ h => h) (Or.inl ⟨by rfl, ?hy64⟩) (by assumption) ?hr64
          case hy64 => (intro w hSw; (try dsimp only at hSw); go_simp; (try with_reducible rfl))
          try simp only [Act.put, List.setIfInBounds_toArray, List.set_cons_zero, List.set_cons_succ]
          refine wpAnyH_done (by kernel_rfl) ?_ _
          have hBl := hH6.2.2.2
          clear hH6
          go_wp2
          go_ret
          exact ⟨rfl, HW2.out.trans ((BW.out.trans (hBl.mono BW.out.size)).mono HSz.out)⟩
        · obtain ⟨i, rfl⟩ : ∃ i, r = i + 1 := ⟨r - 1, by omega⟩
          obtain rfl : z = (i : Int) := by omega
          have hi0 : (0 : Int) ≤ (i : Int) := by omega
          have hi1 : i < nK := by omega
          have hi1z : (i : Int) < (nK : Int) := by omega
          clear hr0 hz
          go_wp2
          go_loopg [11] i (fun gg2 s11 wi => ∃ k : Nat, k ≤ i ∧ i - k ≤ gg2 ∧ s11 = .int .i64 k ∧ Hid (Below wr.heap.size wr wi) ∧ Hid (∀ j, j < k → ¬ (fun k i => (K k).1 = (K i).1) j i))
          case atStart => exact ⟨0, Nat.zero_le _, by omega, rfl, Lib.hid (Below.refl _ wr), Lib.hid (fun j hj => absurd hj (Nat.not_lt_zero _))⟩
          case round =>
            obtain ⟨k, hk, hg2, rfl, BI, NE⟩ := hrel
            have HBx := Lib.hid (BW.out.trans (BI.out.mono BW.out.size))
            have k0 := (HT1.out.below HBx.out).cell (i := 1) rfl
            obtain ⟨g1, o1, rfl, cy, cn⟩ := (HK.out.below HBx.out).kind hi1
            by_cases hlt : k < i
            · have hltz : (k : Int) < (i : Int) := by omega
              have hltn : (k : Int) < (nK : Int) := by omega
              obtain ⟨g2, o2, e2, dy, dn⟩ := (HK.out.below HBx.out).kind (show k < nK by omega)
              cases e2
              have HN := Lib.hid (show (fun k i => (K k).1 = (K i).1) k i = ((K k).1 = (K i).1) from rfl)
              generalize (K k).1 = y1 at dy HN
              generalize (K i).1 = y2 at cy HN
              cases q : (y1 == y2) with
              | true =>
                go_wp2
                go_quiet (fail)
                go_wp2_with (go_at_call 10; refine (awake10 _).mono ?_; rintro e0 w9 ⟨rfl, hb0⟩; have HB9 := Lib.hid ((below_drewN HBx.out _).trans (hb0.mono (Nat.le_trans HBx.out.size (by simp)))); clear hb0)
                go_ret
                exact ⟨rfl, HW2.out.trans (HB9.out.mono HSz.out)⟩
              | false =>
                have HF := Lib.hid (show ¬ (fun k i => (K k).1 = (K i).1) k i by rw [HN.out]; exact fun e => by rw [e] at q; simp at q)
                go_wp2
                go_quiet (fail)
                go_wp2
                go_roundg (i - (k + 1))
                case measure => omega
                case rel =>
                  refine ⟨k + 1, by omega, by omega, by go_num, Lib.hid (below_drewN BI.out _), Lib.hid (fun j hj => ?_)⟩
                  by_cases e : j = k
                  · subst e; exact HF.out
                  · exact NE.out j (by omega)
            · have hltz : ¬ (k : Int) < (i : Int) := by omega
              obtain rfl : i = k := by omega
              have HAP := Lib.hid (show Apart nK (fun k i => (K k).1 = (K i).1) i from fun j h1 h2 => by
                by_cases e : j = i
                · subst e; exact NE.out
                · exact AP.out j (by omega) h2)
              obtain ⟨A2, c2, hti⟩ := TI.out
              have hti2 := hti.below BI.out
              have HTi := Lib.hid hti2
              have t0 := hti2.ct.cell (i := 1) rfl
              have tf := hti2.ct.free 1
              have HRow := Lib.hid (show rowK K i = [.int .i64 (K i).1, .int .i64 (K i).2] from rfl)
              have HC := Lib.hid (fun (w : World) (hb : Below w2.heap.size w2 w) => show w.cell? ⟨g1, o1 + i * 2, none⟩ = some (.int .i64 (K i).1) ∧ w.cell? ⟨g1, o1 + i * 2 + 1, none⟩ = some (.int .i64 (K i).2) from by
                obtain ⟨g', o', e', h1, h2⟩ := (HK.out.below hb).kind hi1
                cases e'
                exact ⟨h1, h2⟩)
              generalize (K i).1 = y2 at HC HRow
              generalize (K i).2 = n2 at HC HRow
              clear hti hti2 TI AP NE cy cn t0 tf
              go_wp2
              have HTd := Lib.hid (HTi.out.below (Below.drew (Below.refl _ wr)))
              have HS1 := Lib.hid (show (nK - (i + 1)) + 1 ≤ 12 by omega)
              clear BI
              refine wp_region_held_drew (S := (fun w' => Below w2.heap.size w2 w')) (by kernel_rfl) (HBx.out.drew) (fun hH0 => ?_)
              refine wpAnyH_take (i := 0) (oi := ({ dst := some 94, op := Op.fieldAddr 25 (Operand.tmp 7) 1, type := 0, pos := "law.go:108", after := #[], guard := none } : Oper)) (v := ?hv65) rfl (by kernel_rfl) (by kernel_rfl) (by kernel_rfl) (fun _ _ _ h => h) (Or.inl ⟨by rfl, ?hy65⟩) (by assumption) ?hr65
              case hy65 => (intro w hSw; (try dsimp only at hSw); go_simp; (try with_reducible rfl))
              try simp only [Act.put, List.setIfInBounds_toArray, List.set_cons_zero, List.set_cons_succ]
              refine wpAnyH_take (i := 2) (oi := ({ dst := some 96, op := Op.fieldAddr 25 (Operand.tmp 3) 1, type := 0, pos := "law.go:108", after := #[], guard := none } : Oper)) (v := ?hv66) rfl (by kernel_rfl) (by kernel_rfl) (by kernel_rfl) (fun _ _ _ h => h) (Or.inl ⟨by rfl, ?hy66⟩) (by assumption) ?hr66
              case hy66 => (intro w hSw; (try dsimp only at hSw); go_simp; (try with_reducible rfl))
              try simp only [Act.put, List.setIfInBounds_toArray, List.set_cons_zero, List.set_cons_succ]
              refine wpAnyH_take (i := 3) (oi := ({ dst := some 97, op := Op.load 23 (Operand.tmp 96), type := 23, pos := "law.go:108", after := #[{ on := 2, ground := Ground.data }], guard := none } : Oper)) (v := ?hv67) rfl (by kernel_rfl) (by kernel_rfl) (by kernel_rfl) (fun _ _ _ h => h) (Or.inl ⟨by rfl, ?hy67⟩) (by assumption) ?hr67
              case hy67 => (intro w hSw; (try dsimp only at hSw); have k0 := (HT1.out.below hSw).cell (i := 1) rfl; clear hSw; go_simp; (try with_reducible rfl))
              try simp only [Act.put, List.setIfInBounds_toArray, List.set_cons_zero, List.set_cons_succ]
              refine wpAnyH_take (i := 4) (oi := ({ dst := some 98, op := Op.move (Operand.tmp 10), type := 3, pos := "law.go:108", after := #[], guard := none } : Oper)) (v := ?hv68) rfl (by kernel_rfl) (by kernel_rfl) (by kernel_rfl) (fun _ _ _ h => h) (Or.inl ⟨by rfl, ?hy68⟩) (by assumption) ?hr68
              case hy68 => (intro w hSw; (try dsimp only at hSw); go_simp; (try with_reducible rfl))
              try simp only [Act.put, List.setIfInBounds_toArray, List.set_cons_zero, List.set_cons_succ]
              refine wpAnyH_take (i := 5) (oi := ({ dst := some 99, op := Op.indexAddr 23 (Operand.tmp 97) (Operand.tmp 98), type := 0, pos := "law.go:108", after := #[{ on := 3, ground := Ground.data }, { on := 4, ground := Ground.data }], guard := none } : Oper)) (v := ?hv69) rfl (by kernel_rfl) (by kernel_rfl) (by kernel_rfl) (fun _ _ _ h => h) (Or.inl ⟨by rfl, ?hy69⟩) (by assumption) ?hr69
              case hy69 => (intro w hSw; (try dsimp only at hSw); go_simp; (try with_reducible rfl))
              try simp only [Act.put, List.setIfInBounds_toArray, List.set_cons_zero, List.set_cons_succ]
              refine wpAnyH_take (i := 6) (oi := ({ dst := some 100, op := Op.load 54 (Operand.tmp 99), type := 54, pos := "law.go:108", after := #[{ on := 5, ground := Ground.data }], guard := none } : Oper)) (v := ?hv70) rfl (by kernel_rfl) (by kernel_rfl) (by kernel_rfl) (fun _ _ _ h => h) (Or.inl ⟨by rfl, ?hy70⟩) (by assumption) ?hr70
              case hy70 => (intro w hSw; (try dsimp only at hSw); have cy := (HC.out _ hSw).1; have cn := (HC.out _ hSw).2; clear hSw; go_simp; (try with_reducible rfl))
              try simp only [Act.put, List.setIfInBounds_toArray, List.set_cons_zero, List.set_cons_succ]
              refine wpAnyH_ready (rs := [1, 7]) (by kernel_rfl) (by simp) ?_
              refine AllReadyH.cons (o := ({ dst := some 95, op := Op.load 23 (Operand.tmp 94), type := 23, pos := "law.go:108", after := #[{ on := 0, ground := Ground.data }], guard := none } : Oper)) rfl (fun KK hKK => ?_) ?_
              · (have t0x := HTd.out.ct.cell (i := 1) rfl; go_simp)
                refine hKK.out _ _ (hH0) (fun hH1 => ?_)
                clear hKK KK
                try simp only [Act.put, List.setIfInBounds_toArray, List.set_cons_zero, List.set_cons_succ]
                refine wpAnyH_ready (rs := [7]) (by kernel_rfl) (by simp) ?_
                refine AllReadyH.cons (o := ({ dst := some 101, op := Op.buildSlice 23 1 #[(0, Operand.tmp 100)], type := 23, pos := "law.go:108", after := #[{ on := 6, ground := Ground.data }], guard := none } : Oper)) rfl (fun KK hKK => ?_) AllReadyH.nil
                (go_simp; have hw1 := Below.alloc (Below.refl wr.drew.heap.size wr.drew) (Nat.le_refl _) (.cells #[.int .i64 y2, .int .i64 n2] 54); have HV1 := Lib.hid (HTd.out.below hw1); have HN := Lib.hid (show Blk (wr.drew.alloc (.cells #[.int .i64 y2, .int .i64 n2] 54)) wr.heap.size [.int .i64 y2, .int .i64 n2] 54 from blk_new wr.drew _ 54); clear hw1)
                refine hKK.out _ _ (hH1.alloc hH1.size _) (fun hH2 => ?_)
                clear hKK KK
                try simp only [Act.put, List.setIfInBounds_toArray, List.set_cons_zero, List.set_cons_succ]
                refine wpAnyH_ready (rs := [8]) (by kernel_rfl) (by simp) ?_
                refine AllReadyH.cons (o := ({ dst := some 102, op := Op.call { callee := Callee.builtin Builtin.append, args := #[Operand.tmp 95, Operand.tmp 101], argTypes := #[23, 23] }, type := 23, pos := "law.go:108", after := #[{ on := 1, ground := Ground.data }, { on := 7, ground := Ground.data }], guard := none } : Oper)) rfl (fun KK hKK => ?_) AllReadyH.nil
                (refine step_append_any _ (by rfl) _ _ _ (by rfl) w2.heap.size 54 i2 _ 2 16 Try.underlying23 HI2.out.1 HI2.out.2.1 HI2.out.2.2.1 HI2.out.2.2.2 rfl (by decide) (.slice A2 (nK - (i + 1)) c2) (nK - (i + 1)) _ (by rfl) (HV1.out.o2) (some ⟨wr.heap.size, 0, none⟩) 1 1 [.int .i64 y2, .int .i64 n2] (by rfl) ⟨rfl, (fun h => by cases h), .inr ⟨_, _, rfl, HN.out.lt, fun j u hu => by rw [Nat.zero_add]; exact HN.out.cell hu⟩, fun u hu => by simp at hu; rcases hu with rfl | rfl <;> rfl⟩ (by have := HS1.out; unfold maxLen; omega) (by have := HS1.out; omega) (HV1.out.hS) ?_; intro v3 w3 hgr; obtain ⟨A3, c3, rfl, hp, hsz, hb3, hbel⟩ := HV1.out.pushed2 hgr; have HP3 := Lib.hid hp; have hg2 := Below.grown (Below.refl w2.heap.size _) hgr.grow (HV1.out.hS) (fun q hq => (HV1.out.o2.lt q hq).1); have ja1 := hb3.cell (i := 1) rfl; have ja2 := hb3.free 1; clear hp hsz hb3 hbel hgr)
                refine hKK.out _ _ (hH2.trans hg2) (fun hH3 => ?_)
                clear hKK KK
                try simp only [Act.put, List.setIfInBounds_toArray, List.set_cons_zero, List.set_cons_succ]
                refine wpAnyH_take (i := 9) (oi := ({ dst := some 103, op := Op.fieldAddr 25 (Operand.tmp 7) 1, type := 0, pos := "law.go:108", after := #[{ on := 0, ground := Ground.phase }, { on := 1, ground := Ground.phase }, { on := 2, ground := Ground.phase }, { on := 3, ground := Ground.phase }, { on := 4, ground := Ground.phase }, { on := 5, ground := Ground.phase }, { on := 6, ground := Ground.phase }, { on := 7, ground := Ground.phase }, { on := 8, ground := Ground.phase }], guard := none } : Oper)) (v := ?hv71) rfl (by kernel_rfl) (by kernel_rfl) (by kernel_rfl) (fun _ _ _ h => h) (Or.inl ⟨by rfl, ?hy71⟩) (by assumption) ?hr71
                case hy71 => (intro w hSw; (try dsimp only at hSw); go_simp; (try with_reducible rfl))
                try simp only [Act.put, List.setIfInBounds_toArray, List.set_cons_zero, List.set_cons_succ]
                refine wpAnyH_ready (rs := [10]) (by kernel_rfl) (by simp) ?_
                refine AllReadyH.cons (o := ({ dst := none, op := Op.store 23 (Operand.tmp 103) (Operand.tmp 102), type := 0, pos := "law.go:108", after := #[{ on := 9, ground := Ground.data }, { on := 8, ground := Ground.data }, { on := 8, ground := Ground.chain }, { on := 0, ground := Ground.phase }, { on := 1, ground := Ground.phase }, { on := 2, ground := Ground.phase }, { on := 3, ground := Ground.phase }, { on := 4, ground := Ground.phase }, { on := 5, ground := Ground.phase }, { on := 6, ground := Ground.phase }, { on := 7, ground := Ground.phase }, { on := 8, ground := Ground.phase }], guard := none } : Oper)) rfl (fun KK hKK => ?_) AllReadyH.nil
                go_simp
                refine hKK.out _ _ (hH3.setCell (Nat.le_refl _) _) (fun hH4 => ?_)
                clear hKK KK
                try simp only [Act.put, List.setIfInBounds_toArray, List.set_cons_zero, List.set_cons_succ]
                refine wpAnyH_done (by kernel_rfl) ?_ _
                go_wp2
                go_roundg i
                case measure => omega
                case rel =>
                  have e1 : nK - i = nK - (i + 1) + 1 := by omega
                  exact ⟨i, _, by omega, by omega, by go_num, rfl, Lib.hid hH4, Lib.hid ⟨A3, c3, by rw [flat_rev_succ _ _ _ hi1, HRow.out, e1]; exact HP3.out⟩, HAP⟩
              refine AllReadyH.cons (o := ({ dst := some 101, op := Op.buildSlice 23 1 #[(0, Operand.tmp 100)], type := 23, pos := "law.go:108", after := #[{ on := 6, ground := Ground.data }], guard := none } : Oper)) rfl (fun KK hKK => ?_) AllReadyH.nil
              (go_simp; have hw1 := Below.alloc (Below.refl wr.drew.heap.size wr.drew) (Nat.le_refl _) (.cells #[.int .i64 y2, .int .i64 n2] 54); have HV1 := Lib.hid (HTd.out.below hw1); have HN := Lib.hid (show Blk (wr.drew.alloc (.cells #[.int .i64 y2, .int .i64 n2] 54)) wr.heap.size [.int .i64 y2, .int .i64 n2] 54 from blk_new wr.drew _ 54); clear hw1)
              refine hKK.out _ _ (hH0.alloc hH0.size _) (fun hH1 => ?_)
              clear hKK KK
              try simp only [Act.put, List.setIfInBounds_toArray, List.set_cons_zero, List.set_cons_succ]
              refine wpAnyH_ready (rs := [1]) (by kernel_rfl) (by simp) ?_
              refine AllReadyH.cons (o := ({ dst := some 95, op := Op.load 23 (Operand.tmp 94), type := 23, pos := "law.go:108", after := #[{ on := 0, ground := Ground.data }], guard := none } : Oper)) rfl (fun KK hKK => ?_) AllReadyH.nil
              (have t0x := (HTi.out.ct.alloc (.cells #[.int .i64 y2, .int .i64 n2] 54)).cell (i := 1) rfl; go_simp)
              refine hKK.out _ _ (hH1) (fun hH2 => ?_)
              clear hKK KK
              try simp only [Act.put, List.setIfInBounds_toArray, List.set_cons_zero, List.set_cons_succ]
              refine wpAnyH_ready (rs := [8]) (by kernel_rfl) (by simp) ?_
              refine AllReadyH.cons (o := ({ dst := some 102, op := Op.call { callee := Callee.builtin Builtin.append, args := #[Operand.tmp 95, Operand.tmp 101], argTypes := #[23, 23] }, type := 23, pos := "law.go:108", after := #[{ on := 1, ground := Ground.data }, { on := 7, ground := Ground.data }], guard := none } : Oper)) rfl (fun KK hKK => ?_) AllReadyH.nil
              (refine step_append_any _ (by rfl) _ _ _ (by rfl) w2.heap.size 54 i2 _ 2 16 Try.underlying23 HI2.out.1 HI2.out.2.1 HI2.out.2.2.1 HI2.out.2.2.2 rfl (by decide) (.slice A2 (nK - (i + 1)) c2) (nK - (i + 1)) _ (by rfl) (HV1.out.o2) (some ⟨wr.heap.size, 0, none⟩) 1 1 [.int .i64 y2, .int .i64 n2] (by rfl) ⟨rfl, (fun h => by cases h), .inr ⟨_, _, rfl, HN.out.lt, fun j u hu => by rw [Nat.zero_add]; exact HN.out.cell hu⟩, fun u hu => by simp at hu; rcases hu with rfl | rfl <;> rfl⟩ (by have := HS1.out; unfold maxLen; omega) (by have := HS1.out; omega) (HV1.out.hS) ?_; intro v3 w3 hgr; obtain ⟨A3, c3, rfl, hp, hsz, hb3, hbel⟩ := HV1.out.pushed2 hgr; have HP3 := Lib.hid hp; have hg2 := Below.grown (Below.refl w2.heap.size _) hgr.grow (HV1.out.hS) (fun q hq => (HV1.out.o2.lt q hq).1); have ja1 := hb3.cell (i := 1) rfl; have ja2 := hb3.free 1; clear hp hsz hb3 hbel hgr)
              refine hKK.out _ _ (hH2.trans hg2) (fun hH3 => ?_)
              clear hKK KK
              try simp only [Act.put, List.setIfInBounds_toArray, List.set_cons_zero, List.set_cons_succ]
              refine wpAnyH_take (i := 9) (oi := ({ dst := some 103, op := Op.fieldAddr 25 (Operand.tmp 7) 1, type := 0, pos := "law.go:108", after := #[{ on := 0, ground := Ground.phase }, { on := 1, ground := Ground.phase }, { on := 2, ground := Ground.phase }, { on := 3, ground := Ground.phase }, { on := 4, ground := Ground.phase }, { on := 5, ground := Ground.phase }, { on := 6, ground := Ground.phase }, { on := 7, ground := Ground.phase }, { on := 8, ground := Ground.phase }], guard := none } : Oper)) (v := ?hv72) rfl (by kernel_rfl) (by kernel_rfl) (by kernel_rfl) (fun _ _ _ h => h) (Or.inl ⟨by rfl, ?hy72⟩) (by assumption) ?hr72
              case hy72 => (intro w hSw; (try dsimp only at hSw); go_simp; (try with_reducible rfl))
              try simp only [Act.put, List.setIfInBounds_toArray, List.set_cons_zero, List.set_cons_succ]
              refine wpAnyH_ready (rs := [10]) (by kernel_rfl) (by simp) ?_
              refine AllReadyH.cons (o := ({ dst := none, op := Op.store 23 (Operand.tmp 103) (Operand.tmp 102), type := 0, pos := "law.go:108", after := #[{ on := 9, ground := Ground.data }, { on := 8, ground := Ground.data }, { on := 8, ground := Ground.chain }, { on := 0, ground := Ground.phase }, { on := 1, ground := Ground.phase }, { on := 2, ground := Ground.phase }, { on := 3, ground := Ground.phase }, { on := 4, ground := Ground.phase }, { on := 5, ground := Ground.phase }, { on := 6, ground := Ground.phase }, { on := 7, ground := Ground.phase }, { on := 8, ground := Ground.phase }], guard := none } : Oper)) rfl (fun KK hKK => ?_) AllReadyH.nil
              go_simp
              refine hKK.out _ _ (hH3.setCell (Nat.le_refl _) _) (fun hH4 => ?_)
              clear hKK KK
              try simp only [Act.put, List.setIfInBounds_toArray, List.set_cons_zero, List.set_cons_succ]
              refine wpAnyH_done (by kernel_rfl) ?_ _
              go_wp2
              go_roundg i
              case measure => omega
              case rel =>
                have e1 : nK - i = nK - (i + 1) + 1 := by omega
                exact ⟨i, _, by omega, by omega, by go_num, rfl, Lib.hid hH4, Lib.hid ⟨A3, c3, by rw [flat_rev_succ _ _ _ hi1, HRow.out, e1]; exact HP3.out⟩, HAP⟩

    · obtain ⟨i, rfl⟩ : ∃ i, r = i + 1 := ⟨r - 1, by omega⟩
      obtain rfl : z = (i : Int) := by omega
      have hi0 : (0 : Int) ≤ (i : Int) := by omega
      have hi1 : i < n := by omega
      have hi1z : (i : Int) < (n : Int) := by omega
      clear hr0 hz
      go_wp2
      go_loopg [9] i (fun gg2 s9 wi => ∃ k : Nat, k ≤ i ∧ i - k ≤ gg2 ∧ s9 = .int .i64 k ∧ Hid (Below wr.heap.size wr wi) ∧ Hid (∀ j, j < k → ¬ (fun k i => (U k).1.toList = (U i).1.toList) j i))
      case atStart => exact ⟨0, Nat.zero_le _, by omega, rfl, Lib.hid (Below.refl _ wr), Lib.hid (fun j hj => absurd hj (Nat.not_lt_zero _))⟩
      case round =>
        obtain ⟨k, hk, hg2, rfl, BI, NE⟩ := hrel
        have HBx := Lib.hid (BW.out.trans (BI.out.mono BW.out.size))
        have k0 := (HT1.out.below HBx.out).cell (i := 0) rfl
        obtain ⟨g1, o1, rfl, cy, cn⟩ := (HU.out.below HBx.out).user hi1
        by_cases hlt : k < i
        · have hltz : (k : Int) < (i : Int) := by omega
          have hltn : (k : Int) < (n : Int) := by omega
          obtain ⟨g2, o2, e2, dy, dn⟩ := (HU.out.below HBx.out).user (show k < n by omega)
          cases e2
          have HN := Lib.hid (show (fun k i => (U k).1.toList = (U i).1.toList) k i = ((U k).1.toList = (U i).1.toList) from rfl)
          generalize (U k).1 = y1 at dy HN
          generalize (U i).1 = y2 at cy HN
          cases q : (y1.toList == y2.toList) with
          | true =>
            go_wp2
            go_quiet (fail)
            go_wp2_with (go_at_call 10; refine (awake10 _).mono ?_; rintro e0 w9 ⟨rfl, hb0⟩; have HB9 := Lib.hid ((below_drewN HBx.out _).trans (hb0.mono (Nat.le_trans HBx.out.size (by simp)))); clear hb0)
            go_ret
            exact ⟨rfl, HW2.out.trans (HB9.out.mono HSz.out)⟩
          | false =>
            have HF := Lib.hid (show ¬ (fun k i => (U k).1.toList = (U i).1.toList) k i by rw [HN.out]; exact fun e => by rw [e] at q; simp at q)
            go_wp2
            go_quiet (fail)
            go_wp2
            go_roundg (i - (k + 1))
            case measure => omega
            case rel =>
              refine ⟨k + 1, by omega, by omega, by go_num, Lib.hid (below_drewN BI.out _), Lib.hid (fun j hj => ?_)⟩
              by_cases e : j = k
              · subst e; exact HF.out
              · exact NE.out j (by omega)
        · have hltz : ¬ (k : Int) < (i : Int) := by omega
          obtain rfl : i = k := by omega
          have HAP := Lib.hid (show Apart n (fun k i => (U k).1.toList = (U i).1.toList) i from fun j h1 h2 => by
            by_cases e : j = i
            · subst e; exact NE.out
            · exact AP.out j (by omega) h2)
          obtain ⟨A1, c1, hti⟩ := TI.out
          have hti2 := hti.below BI.out
          have HTi := Lib.hid hti2
          have t0 := hti2.ct.cell (i := 0) rfl
          have tf := hti2.ct.free 0
          have HRow := Lib.hid (show rowU U i = [.string (U i).1, .int .i64 (U i).2] from rfl)
          have HC := Lib.hid (fun (w : World) (hb : Below w2.heap.size w2 w) => show w.cell? ⟨g1, o1 + i * 2, none⟩ = some (.string (U i).1) ∧ w.cell? ⟨g1, o1 + i * 2 + 1, none⟩ = some (.int .i64 (U i).2) from by
            obtain ⟨g', o', e', h1, h2⟩ := (HU.out.below hb).user hi1
            cases e'
            exact ⟨h1, h2⟩)
          generalize (U i).1 = y2 at HC HRow
          generalize (U i).2 = n2 at HC HRow
          clear hti hti2 TI AP NE cy cn t0 tf
          go_wp2
          have HTd := Lib.hid (HTi.out.below (Below.drew (Below.refl _ wr)))
          have HS1 := Lib.hid (show (n - (i + 1)) + 1 ≤ 12 by omega)
          clear BI
          refine wp_region_held_drew (S := (fun w' => Below w2.heap.size w2 w')) (by kernel_rfl) (HBx.out.drew) (fun hH0 => ?_)
          refine wpAnyH_take (i := 0) (oi := ({ dst := some 57, op := Op.fieldAddr 25 (Operand.tmp 7) 0, type := 0, pos := "law.go:100", after := #[], guard := none } : Oper)) (v := ?hv73) rfl (by kernel_rfl) (by kernel_rfl) (by kernel_rfl) (fun _ _ _ h => h) (Or.inl ⟨by rfl, ?hy73⟩) (by assumption) ?hr73
          case hy73 => (intro w hSw; (try dsimp only at hSw); go_simp; (try with_reducible rfl))
          try simp only [Act.put, List.setIfInBounds_toArray, List.set_cons_zero, List.set_cons_succ]
          refine wpAnyH_take (i := 2) (oi := ({ dst := some 59, op := Op.fieldAddr 25 (Operand.tmp 3) 0, type := 0, pos := "law.go:100", after := #[], guard := none } : Oper)) (v := ?hv74) rfl (by kernel_rfl) (by kernel_rfl) (by kernel_rfl) (fun _ _ _ h => h) (Or.inl ⟨by rfl, ?hy74⟩) (by assumption) ?hr74
          case hy74 => (intro w hSw; (try dsimp only at hSw); go_simp; (try with_reducible rfl))
          try simp only [Act.put, List.setIfInBounds_toArray, List.set_cons_zero, List.set_cons_succ]
          refine wpAnyH_take (i := 3) (oi := ({ dst := some 60, op := Op.load 22 (Operand.tmp 59), type := 22, pos := "law.go:100", after := #[{ on := 2, ground := Ground.data }], guard := none } : Oper)) (v := ?hv75) rfl (by kernel_rfl) (by kernel_rfl) (by kernel_rfl) (fun _ _ _ h => h) (Or.inl ⟨by rfl, ?hy75⟩) (by assumption) ?hr75
          case hy75 => (intro w hSw; (try dsimp only at hSw); have k0 := (HT1.out.below hSw).cell (i := 0) rfl; clear hSw; go_simp; (try with_reducible rfl))
          try simp only [Act.put, List.setIfInBounds_toArray, List.set_cons_zero, List.set_cons_succ]
          refine wpAnyH_take (i := 4) (oi := ({ dst := some 61, op := Op.move (Operand.tmp 8), type := 3, pos := "law.go:100", after := #[], guard := none } : Oper)) (v := ?hv76) rfl (by kernel_rfl) (by kernel_rfl) (by kernel_rfl) (fun _ _ _ h => h) (Or.inl ⟨by rfl, ?hy76⟩) (by assumption) ?hr76
          case hy76 => (intro w hSw; (try dsimp only at hSw); go_simp; (try with_reducible rfl))
          try simp only [Act.put, List.setIfInBounds_toArray, List.set_cons_zero, List.set_cons_succ]
          refine wpAnyH_take (i := 5) (oi := ({ dst := some 62, op := Op.indexAddr 22 (Operand.tmp 60) (Operand.tmp 61), type := 0, pos := "law.go:100", after := #[{ on := 3, ground := Ground.data }, { on := 4, ground := Ground.data }], guard := none } : Oper)) (v := ?hv77) rfl (by kernel_rfl) (by kernel_rfl) (by kernel_rfl) (fun _ _ _ h => h) (Or.inl ⟨by rfl, ?hy77⟩) (by assumption) ?hr77
          case hy77 => (intro w hSw; (try dsimp only at hSw); go_simp; (try with_reducible rfl))
          try simp only [Act.put, List.setIfInBounds_toArray, List.set_cons_zero, List.set_cons_succ]
          refine wpAnyH_take (i := 6) (oi := ({ dst := some 63, op := Op.load 51 (Operand.tmp 62), type := 51, pos := "law.go:100", after := #[{ on := 5, ground := Ground.data }], guard := none } : Oper)) (v := ?hv78) rfl (by kernel_rfl) (by kernel_rfl) (by kernel_rfl) (fun _ _ _ h => h) (Or.inl ⟨by rfl, ?hy78⟩) (by assumption) ?hr78
          case hy78 => (intro w hSw; (try dsimp only at hSw); have cy := (HC.out _ hSw).1; have cn := (HC.out _ hSw).2; clear hSw; go_simp; (try with_reducible rfl))
          try simp only [Act.put, List.setIfInBounds_toArray, List.set_cons_zero, List.set_cons_succ]
          refine wpAnyH_ready (rs := [1, 7]) (by kernel_rfl) (by simp) ?_
          refine AllReadyH.cons (o := ({ dst := some 58, op := Op.load 22 (Operand.tmp 57), type := 22, pos := "law.go:100", after := #[{ on := 0, ground := Ground.data }], guard := none } : Oper)) rfl (fun KK hKK => ?_) ?_
          · (have t0x := HTd.out.ct.cell (i := 0) rfl; go_simp)
            refine hKK.out _ _ (hH0) (fun hH1 => ?_)
            clear hKK KK
            try simp only [Act.put, List.setIfInBounds_toArray, List.set_cons_zero, List.set_cons_succ]
            refine wpAnyH_ready (rs := [7]) (by kernel_rfl) (by simp) ?_
            refine AllReadyH.cons (o := ({ dst := some 64, op := Op.buildSlice 22 1 #[(0, Operand.tmp 63)], type := 22, pos := "law.go:100", after := #[{ on := 6, ground := Ground.data }], guard := none } : Oper)) rfl (fun KK hKK => ?_) AllReadyH.nil
            (go_simp; have hw1 := Below.alloc (Below.refl wr.drew.heap.size wr.drew) (Nat.le_refl _) (.cells #[.string y2, .int .i64 n2] 51); have HV1 := Lib.hid (HTd.out.below hw1); have HN := Lib.hid (show Blk (wr.drew.alloc (.cells #[.string y2, .int .i64 n2] 51)) wr.heap.size [.string y2, .int .i64 n2] 51 from blk_new wr.drew _ 51); clear hw1)
            refine hKK.out _ _ (hH1.alloc hH1.size _) (fun hH2 => ?_)
            clear hKK KK
            try simp only [Act.put, List.setIfInBounds_toArray, List.set_cons_zero, List.set_cons_succ]
            refine wpAnyH_ready (rs := [8]) (by kernel_rfl) (by simp) ?_
            refine AllReadyH.cons (o := ({ dst := some 65, op := Op.call { callee := Callee.builtin Builtin.append, args := #[Operand.tmp 58, Operand.tmp 64], argTypes := #[22, 22] }, type := 22, pos := "law.go:100", after := #[{ on := 1, ground := Ground.data }, { on := 7, ground := Ground.data }], guard := none } : Oper)) rfl (fun KK hKK => ?_) AllReadyH.nil
            (refine step_append_any _ (by rfl) _ _ _ (by rfl) w2.heap.size 51 i1 _ 2 24 Try.underlying22 HI1.out.1 HI1.out.2.1 HI1.out.2.2.1 HI1.out.2.2.2 rfl (by decide) (.slice A1 (n - (i + 1)) c1) (n - (i + 1)) _ (by rfl) (HV1.out.o1) (some ⟨wr.heap.size, 0, none⟩) 1 1 [.string y2, .int .i64 n2] (by rfl) ⟨rfl, (fun h => by cases h), .inr ⟨_, _, rfl, HN.out.lt, fun j u hu => by rw [Nat.zero_add]; exact HN.out.cell hu⟩, fun u hu => by simp at hu; rcases hu with rfl | rfl <;> rfl⟩ (by have := HS1.out; unfold maxLen; omega) (by have := HS1.out; omega) (HV1.out.hS) ?_; intro v3 w3 hgr; obtain ⟨A3, c3, rfl, hp, hsz, hb3, hbel⟩ := HV1.out.pushed1 hgr; have HP3 := Lib.hid hp; have hg2 := Below.grown (Below.refl w2.heap.size _) hgr.grow (HV1.out.hS) (fun q hq => (HV1.out.o1.lt q hq).1); have ja1 := hb3.cell (i := 0) rfl; have ja2 := hb3.free 0; clear hp hsz hb3 hbel hgr)
            refine hKK.out _ _ (hH2.trans hg2) (fun hH3 => ?_)
            clear hKK KK
            try simp only [Act.put, List.setIfInBounds_toArray, List.set_cons_zero, List.set_cons_succ]
            refine wpAnyH_take (i := 9) (oi := ({ dst := some 66, op := Op.fieldAddr 25 (Operand.tmp 7) 0, type := 0, pos := "law.go:100", after := #[{ on := 0, ground := Ground.phase }, { on := 1, ground := Ground.phase }, { on := 2, ground := Ground.phase }, { on := 3, ground := Ground.phase }, { on := 4, ground := Ground.phase }, { on := 5, ground := Ground.phase }, { on := 6, ground := Ground.phase }, { on := 7, ground := Ground.phase }, { on := 8, ground := Ground.phase }], guard := none } : Oper)) (v := ?hv79) rfl (by kernel_rfl) (by kernel_rfl) (by kernel_rfl) (fun _ _ _ h => h) (Or.inl ⟨by rfl, ?hy79⟩) (by assumption) ?hr79
            case hy79 => (intro w hSw; (try dsimp only at hSw); go_simp; (try with_reducible rfl))
            try simp only [Act.put, List.setIfInBounds_toArray, List.set_cons_zero, List.set_cons_succ]
            refine wpAnyH_ready (rs := [10]) (by kernel_rfl) (by simp) ?_
            refine AllReadyH.cons (o := ({ dst := none, op := Op.store 22 (Operand.tmp 66) (Operand.tmp 65), type := 0, pos := "law.go:100", after := #[{ on := 9, ground := Ground.data }, { on := 8, ground := Ground.data }, { on := 8, ground := Ground.chain }, { on := 0, ground := Ground.phase }, { on := 1, ground := Ground.phase }, { on := 2, ground := Ground.phase }, { on := 3, ground := Ground.phase }, { on := 4, ground := Ground.phase }, { on := 5, ground := Ground.phase }, { on := 6, ground := Ground.phase }, { on := 7, ground := Ground.phase }, { on := 8, ground := Ground.phase }], guard := none } : Oper)) rfl (fun KK hKK => ?_) AllReadyH.nil
            go_simp
            refine hKK.out _ _ (hH3.setCell (Nat.le_refl _) _) (fun hH4 => ?_)
            clear hKK KK
            try simp only [Act.put, List.setIfInBounds_toArray, List.set_cons_zero, List.set_cons_succ]
            refine wpAnyH_done (by kernel_rfl) ?_ _
            go_wp2
            go_roundg i
            case measure => omega
            case rel =>
              have e1 : n - i = n - (i + 1) + 1 := by omega
              exact ⟨i, _, by omega, by omega, by go_num, rfl, Lib.hid hH4, Lib.hid ⟨A3, c3, by rw [flat_rev_succ _ _ _ hi1, HRow.out, e1]; exact HP3.out⟩, HAP⟩
          refine AllReadyH.cons (o := ({ dst := some 64, op := Op.buildSlice 22 1 #[(0, Operand.tmp 63)], type := 22, pos := "law.go:100", after := #[{ on := 6, ground := Ground.data }], guard := none } : Oper)) rfl (fun KK hKK => ?_) AllReadyH.nil
          (go_simp; have hw1 := Below.alloc (Below.refl wr.drew.heap.size wr.drew) (Nat.le_refl _) (.cells #[.string y2, .int .i64 n2] 51); have HV1 := Lib.hid (HTd.out.below hw1); have HN := Lib.hid (show Blk (wr.drew.alloc (.cells #[.string y2, .int .i64 n2] 51)) wr.heap.size [.string y2, .int .i64 n2] 51 from blk_new wr.drew _ 51); clear hw1)
          refine hKK.out _ _ (hH0.alloc hH0.size _) (fun hH1 => ?_)
          clear hKK KK
          try simp only [Act.put, List.setIfInBounds_toArray, List.set_cons_zero, List.set_cons_succ]
          refine wpAnyH_ready (rs := [1]) (by kernel_rfl) (by simp) ?_
          refine AllReadyH.cons (o := ({ dst := some 58, op := Op.load 22 (Operand.tmp 57), type := 22, pos := "law.go:100", after := #[{ on := 0, ground := Ground.data }], guard := none } : Oper)) rfl (fun KK hKK => ?_) AllReadyH.nil
          (have t0x := (HTi.out.ct.alloc (.cells #[.string y2, .int .i64 n2] 51)).cell (i := 0) rfl; go_simp)
          refine hKK.out _ _ (hH1) (fun hH2 => ?_)
          clear hKK KK
          try simp only [Act.put, List.setIfInBounds_toArray, List.set_cons_zero, List.set_cons_succ]
          refine wpAnyH_ready (rs := [8]) (by kernel_rfl) (by simp) ?_
          refine AllReadyH.cons (o := ({ dst := some 65, op := Op.call { callee := Callee.builtin Builtin.append, args := #[Operand.tmp 58, Operand.tmp 64], argTypes := #[22, 22] }, type := 22, pos := "law.go:100", after := #[{ on := 1, ground := Ground.data }, { on := 7, ground := Ground.data }], guard := none } : Oper)) rfl (fun KK hKK => ?_) AllReadyH.nil
          (refine step_append_any _ (by rfl) _ _ _ (by rfl) w2.heap.size 51 i1 _ 2 24 Try.underlying22 HI1.out.1 HI1.out.2.1 HI1.out.2.2.1 HI1.out.2.2.2 rfl (by decide) (.slice A1 (n - (i + 1)) c1) (n - (i + 1)) _ (by rfl) (HV1.out.o1) (some ⟨wr.heap.size, 0, none⟩) 1 1 [.string y2, .int .i64 n2] (by rfl) ⟨rfl, (fun h => by cases h), .inr ⟨_, _, rfl, HN.out.lt, fun j u hu => by rw [Nat.zero_add]; exact HN.out.cell hu⟩, fun u hu => by simp at hu; rcases hu with rfl | rfl <;> rfl⟩ (by have := HS1.out; unfold maxLen; omega) (by have := HS1.out; omega) (HV1.out.hS) ?_; intro v3 w3 hgr; obtain ⟨A3, c3, rfl, hp, hsz, hb3, hbel⟩ := HV1.out.pushed1 hgr; have HP3 := Lib.hid hp; have hg2 := Below.grown (Below.refl w2.heap.size _) hgr.grow (HV1.out.hS) (fun q hq => (HV1.out.o1.lt q hq).1); have ja1 := hb3.cell (i := 0) rfl; have ja2 := hb3.free 0; clear hp hsz hb3 hbel hgr)
          refine hKK.out _ _ (hH2.trans hg2) (fun hH3 => ?_)
          clear hKK KK
          try simp only [Act.put, List.setIfInBounds_toArray, List.set_cons_zero, List.set_cons_succ]
          refine wpAnyH_take (i := 9) (oi := ({ dst := some 66, op := Op.fieldAddr 25 (Operand.tmp 7) 0, type := 0, pos := "law.go:100", after := #[{ on := 0, ground := Ground.phase }, { on := 1, ground := Ground.phase }, { on := 2, ground := Ground.phase }, { on := 3, ground := Ground.phase }, { on := 4, ground := Ground.phase }, { on := 5, ground := Ground.phase }, { on := 6, ground := Ground.phase }, { on := 7, ground := Ground.phase }, { on := 8, ground := Ground.phase }], guard := none } : Oper)) (v := ?hv80) rfl (by kernel_rfl) (by kernel_rfl) (by kernel_rfl) (fun _ _ _ h => h) (Or.inl ⟨by rfl, ?hy80⟩) (by assumption) ?hr80
          case hy80 => (intro w hSw; (try dsimp only at hSw); go_simp; (try with_reducible rfl))
          try simp only [Act.put, List.setIfInBounds_toArray, List.set_cons_zero, List.set_cons_succ]
          refine wpAnyH_ready (rs := [10]) (by kernel_rfl) (by simp) ?_
          refine AllReadyH.cons (o := ({ dst := none, op := Op.store 22 (Operand.tmp 66) (Operand.tmp 65), type := 0, pos := "law.go:100", after := #[{ on := 9, ground := Ground.data }, { on := 8, ground := Ground.data }, { on := 8, ground := Ground.chain }, { on := 0, ground := Ground.phase }, { on := 1, ground := Ground.phase }, { on := 2, ground := Ground.phase }, { on := 3, ground := Ground.phase }, { on := 4, ground := Ground.phase }, { on := 5, ground := Ground.phase }, { on := 6, ground := Ground.phase }, { on := 7, ground := Ground.phase }, { on := 8, ground := Ground.phase }], guard := none } : Oper)) rfl (fun KK hKK => ?_) AllReadyH.nil
          go_simp
          refine hKK.out _ _ (hH3.setCell (Nat.le_refl _) _) (fun hH4 => ?_)
          clear hKK KK
          try simp only [Act.put, List.setIfInBounds_toArray, List.set_cons_zero, List.set_cons_succ]
          refine wpAnyH_done (by kernel_rfl) ?_ _
          go_wp2
          go_roundg i
          case measure => omega
          case rel =>
            have e1 : n - i = n - (i + 1) + 1 := by omega
            exact ⟨i, _, by omega, by omega, by go_num, rfl, Lib.hid hH4, Lib.hid ⟨A3, c3, by rw [flat_rev_succ _ _ _ hi1, HRow.out, e1]; exact HP3.out⟩, HAP⟩

end Go.Proofs.Ythhmbcelicfopaa
