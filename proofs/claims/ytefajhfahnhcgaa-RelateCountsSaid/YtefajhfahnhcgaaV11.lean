/- Relations: Valid. Bound: at most 900000 events. -/
import Derived.Test.YtefajhfahnhcgaaV10
namespace Go.Proofs.Ytefajhfahnhcgaa
open Go Go.RowKit
set_option linter.unusedVariables false
set_option linter.unusedSimpArgs false

theorem load_mid_g {P : Program} {ops : Array Oper} {rest : List Oper} {op : Oper} {a : Act} {w : World} {Q : Exit → Act → World → Prop} (hw : Region.wanted op (yielded ops a.tmps) = true) (ty : TypeId) (x : Operand) (ho : op.op = .load ty x)
    (b o : Nat) (hx : a.eval x = .pointer (some ⟨b, o, none⟩)) (cs : List Value) (d : TypeDesc) (hc : w.rangeAt b o cs)
    (hu : P.underlying ty = some d) (hd : d.isRow = true) (hi : (P.info? ty).map (·.size) = some cs.length)
    (h : wpList P ops Q rest (a.put op.dst (.agg cs.toArray)) w) : wpList P ops Q (op :: rest) a w :=
  wpList_step fun K hK => by
    rw [if_pos hw]
    exact wp_load_mid ty x ho b o hx cs d hc hu hd hi (hK _ _ h)
theorem field60 (a b : Int) (w : World) : (Instr.field 60 (.agg #[.int .i64 a, .int .i64 b]) 0).run Try.prog w = .ok (.int .i64 a) w := by kernel_rfl
set_option maxRecDepth 100000 in
set_option maxHeartbeats 16000000 in
theorem valid22 (A : Option Addr) (n c b off : Nat) (E : Nat → Me) (y : Me) (w : World) (h : Evm w A n E) (hA : 0 < n → A = some ⟨b, off, none⟩) (hf : Fits y) (hn : n ≤ 900000) : Calls Try.prog 22 #[.slice A n c, .agg y.cs.toArray] w fun r w' => r = .returned (.int .i64 (valM E n y)) ∧ Below w.heap.size w w' := by
  have BA := Lib.hid ((Below.refl w.heap.size w).alloc (Nat.le_refl _) (.cells y.cs.toArray 34))
  have HAy := Lib.hid (at_box w y hf)
  have HR := Lib.hid (relationOf26 w.heap.size 0 y _ HAy.out)
  have HP := Lib.hid (fun u (hb : Below w.heap.size w u) => present28 A n c b off E u (h.below hb) hA hn)
  have HV := Lib.hid (show valM E n y = if relK y = 0 then 0 else match gt E n (relI y) with
    | none => 5
    | some t => if ¬ (E t).kd = 11 then 1 else if relK y = 2 ∧ relK (E t) = 2 then 1 else if relK y = 3 ∧ ¬ y.sd.toList = (E t).sd.toList then 18 else if relK y = 4 ∧ (onc E n).any (fun i => dup (E i) y) = true then 4 else 0 from rfl)
  have HZ := Lib.hid (fun h1 => relI_zero (y := y) h1)
  have HFd := Lib.hid (fd_gt E (relI y) n)
  have HTt := Lib.hid (fun t (h1 : gt E n (relI y) = some t) => (gt_lt h1).1)
  have HA2 := Lib.hid hA
  have H := Lib.hid h
  unfold PesP at HP
  generalize valM E n y = vm at HV ⊢
  generalize relK y = rk at HR HV HZ
  generalize relI y = ri at HR HV HZ HFd HTt
  clear h hA
  go_enter Try.func22, Try.ntmps22
  go_upto_region 2 with (first
    | (go_at_call 26; (with_reducible refine HR.out.mono ?_); rintro r w1 ⟨rfl, hb⟩; have B1 := Lib.hid (BA.out.trans (hb.mono BA.out.size)); have Y1 := Lib.hid (HAy.out.below hb); clear hb)
    | (refine store_mid_as rfl 60 _ _ rfl w1.heap.size 0 #[.int .i64 rk, .int .i64 ri] rfl rfl (Blk.there (n := 2) (blk_new w1 (relC 0 0) 60) (by decide)) size60 (by simp [Value.oneCell']) ?_; intro w4 hw4; have X4 := Lib.hid (show Blk w4 w1.heap.size (relC rk ri) 60 by rw [hw4]; exact blk_alloc_set w1 (relC 0 0) (relC rk ri) 60 rfl); have C4 := Lib.hid (show Below w1.heap.size w1 w4 by rw [hw4]; exact below_setRow ((Below.refl _ _).alloc (Nat.le_refl _) _) (Nat.le_refl _) _ _); have B4 := Lib.hid (B1.out.trans (C4.out.mono B1.out.size)); have Y4 := Lib.hid (Y1.out.below C4.out); clear hw4)
    | fail)
  generalize w1.heap.size = t5 at X4 C4 ⊢
  clear C4 Y1 B1 HAy HR
  have q0 := X4.out.cell (i := 0) rfl
  have q1 := X4.out.cell (i := 1) rfl
  by_cases c0 : rk = 0
  · obtain rfl := HZ.out c0
    subst c0
    have HVz := Lib.hid (HV.out.trans (if_pos rfl))
    clear HV HFd HTt
    go_wp2_with (first
      | (refine wpList_load_mid rfl 60 _ rfl t5 0 rfl (relC 0 0) _ X4.out.range Try.underlying60 rfl size60 ?_)
      | go_in)
    go_ret
    exact ⟨ret_i HVz.out.symm, B4.out⟩
  · have z0 : (rk == 0) = false := beq_eq_false_iff_ne.2 c0
    have HV1 := Lib.hid (HV.out.trans (if_neg c0))
    clear HV
    have HP4 := Lib.hid (HP.out w4 B4.out)
    have HFn := Lib.hid (fun (A' : Option Addr) (c' : Nat) (u : World) (hp : Pes u A' (onc E n).length c' b off E (onc E n)) => find29 A' (onc E n).length c' b off E (onc E n) ri u hp)
    rw [HFd.out] at HFn
    clear HP HFd
    cases hg : gt E n ri with
    | none =>
      rw [hg] at HFn HV1
      clear hg HTt
      simp only [pvO] at HFn
      go_wp2_with (first
        | (refine wpList_load_mid rfl 60 _ rfl t5 0 rfl (relC rk ri) _ X4.out.range Try.underlying60 rfl size60 ?_)
        | (go_at_call 28; (with_reducible refine HP4.out.mono ?_); rintro r w6 ⟨A', c', rfl, hp, hb⟩; have PE := Lib.hid hp; have X6 := Lib.hid (X4.out.below hb); have B6 := Lib.hid (B4.out.trans (hb.mono B4.out.size)); have p1 := X6.out.cell (i := 1) rfl; clear hp hb q0 q1)
        | (go_at_call 29; (with_reducible refine (HFn.out _ _ _ PE.out).mono ?_); rintro r w7 ⟨rfl, rfl⟩)
        | go_in)
      go_ret
      exact ⟨ret_i HV1.out.symm, B6.out⟩
    | some t =>
      have htn := HTt.out t hg
      rw [hg] at HFn HV1
      clear hg HTt
      simp only [pvO, pv] at HFn
      go_upto_region 6 with (first
        | (refine wpList_load_mid rfl 60 _ rfl t5 0 rfl (relC rk ri) _ X4.out.range Try.underlying60 rfl size60 ?_)
        | (go_at_call 28; (with_reducible refine HP4.out.mono ?_); rintro r w6 ⟨A', c', rfl, hp, hb⟩; have PE := Lib.hid hp; have X6 := Lib.hid (X4.out.below hb); have Y6 := Lib.hid (Y4.out.below hb); have B6 := Lib.hid (B4.out.trans (hb.mono B4.out.size)); have p1 := X6.out.cell (i := 1) rfl; clear hp hb q0 q1)
        | (go_at_call 29; (with_reducible refine (HFn.out _ _ _ PE.out).mono ?_); rintro r w7 ⟨rfl, rfl⟩)
        | fail)
      have p0 := X6.out.cell (i := 0) rfl
      obtain ⟨b1, o1, e1, hat⟩ := (H.out.below B6.out).get htn
      rw [HA2.out (by omega)] at e1
      cases e1
      have HTa := Lib.hid hat
      have t3 := hat.k3
      have HRt := Lib.hid (relationOf26 b (off + t * 29) (E t) w7 hat)
      have HV2 : Hid (vm = if ¬ (E t).kd = 11 then 1 else if rk = 2 ∧ relK (E t) = 2 then 1 else if rk = 3 ∧ ¬ y.sd.toList = (E t).sd.toList then 18 else if rk = 4 ∧ (onc E n).any (fun i => dup (E i) y) = true then 4 else 0) := Lib.hid HV1.out
      clear hat HV1 HP4 HFn X4 Y4
      generalize (E t).kd = kd at t3 HV2
      by_cases c1 : kd = 11
      · have z1 : (kd != 11) = false := by simp [c1]
        have HV3 := Lib.hid (HV2.out.trans (if_neg (fun h => h c1)))
        clear HV2
        by_cases c2 : rk = 2
        · have z2 : (rk == 2) = true := beq_iff_eq.2 c2
          by_cases c3 : relK (E t) = 2
          · have z3 : (relK (E t) == 2) = true := beq_iff_eq.2 c3
            have HVz := Lib.hid (HV3.out.trans (if_pos ⟨c2, c3⟩))
            clear HV3
            generalize relK (E t) = tk at HRt c3 z3
            have hfl := field60
            go_wp2_with (first
              | (go_at_call 26; (with_reducible refine HRt.out.mono ?_); rintro r w8 ⟨rfl, hb⟩; have B8 := Lib.hid (B6.out.trans (hb.mono B6.out.size)); clear hb)
              | go_in)
            go_ret
            exact ⟨ret_i HVz.out.symm, B8.out⟩
          · have z3 : (relK (E t) == 2) = false := beq_eq_false_iff_ne.2 c3
            have HVz := Lib.hid (HV3.out.trans ((if_neg (fun h => c3 h.2)).trans ((if_neg (fun h => by rw [c2] at h; exact absurd h.1 (by decide))).trans (if_neg (fun h => by rw [c2] at h; exact absurd h.1 (by decide))))))
            clear HV3
            subst c2
            generalize relK (E t) = tk at HRt c3 z3
            have hfl := field60
            go_upto_region 11 with (first
              | (go_at_call 26; (with_reducible refine HRt.out.mono ?_); rintro r w8 ⟨rfl, hb⟩; have C8 := Lib.hid hb; have B8 := Lib.hid (B6.out.trans (hb.mono B6.out.size)); have X8 := Lib.hid (X6.out.below hb); clear hb)
              | fail)
            have s0 := X8.out.cell (i := 0) rfl
            have Y8 := Lib.hid (Y6.out.below C8.out)
            have T8 := Lib.hid (HTa.out.below C8.out)
            have y2 := Y8.out.k2
            have t2 := T8.out.k2
            clear p0 p1 t3
            go_quiet (fail)
            generalize hwd : World.drewN w8 _ = wd
            have s0 : wd.cell? ⟨t5, 0, none⟩ = some (.int .i64 2) := by rw [← hwd]; exact s0
            have BD := Lib.hid (show Below w.heap.size w wd by rw [← hwd]; exact bel_dn B8.out _)
            clear hwd
            go_wp2
            go_ret
            exact ⟨ret_i HVz.out.symm, BD.out⟩
        · have z2 : (rk == 2) = false := beq_eq_false_iff_ne.2 c2
          have HV4 := Lib.hid (HV3.out.trans (if_neg (fun h => c2 h.1)))
          clear HV3 HRt
          by_cases c4 : rk = 3
          · subst c4
            by_cases c5 : y.sd.toList = (E t).sd.toList
            · have z5 : (y.sd.toList == (E t).sd.toList) = true := beq_iff_eq.2 c5
              have z6 : (y.sd.toList != (E t).sd.toList) = false := by simp [c5]
              have HVz := Lib.hid (HV4.out.trans ((if_neg (fun h => h.2 c5)).trans (if_neg (fun h => absurd h.1 (by decide)))))
              clear HV4
              have y2 := Y6.out.k2
              have t2 := HTa.out.k2
              go_upto_region 11 with (fail)
              clear t3
              go_quiet (fail)
              generalize hwd : World.drewN w7 _ = wd
              have XD := Lib.hid (show Blk wd t5 (relC 3 ri) 60 by rw [← hwd]; exact X6.out.below (bel_dn (Below.refl _ _) _))
              have BD := Lib.hid (show Below w.heap.size w wd by rw [← hwd]; exact bel_dn B6.out _)
              have YD := Lib.hid (show At wd w.heap.size 0 y by rw [← hwd]; exact Y6.out.below (bel_dn (Below.refl _ _) _))
              have PD := Lib.hid (show Pes wd A' (onc E n).length c' b off E (onc E n) by rw [← hwd]; exact PE.out.below (bel_dn (Below.refl _ _) _))
              clear hwd p0 p1
              have p0 := XD.out.cell (i := 0) rfl
              go_wp2
              go_ret
              exact ⟨ret_i HVz.out.symm, BD.out⟩
            · have z5 : (y.sd.toList == (E t).sd.toList) = false := beq_eq_false_iff_ne.2 c5
              have z6 : (y.sd.toList != (E t).sd.toList) = true := by simp [c5]
              have HVz := Lib.hid (HV4.out.trans (if_pos ⟨rfl, c5⟩))
              clear HV4
              have y2 := Y6.out.k2
              have t2 := HTa.out.k2
              go_upto_region 11 with (fail)
              clear t3
              go_quiet (fail)
              generalize hwd : World.drewN w7 _ = wd
              have XD := Lib.hid (show Blk wd t5 (relC 3 ri) 60 by rw [← hwd]; exact X6.out.below (bel_dn (Below.refl _ _) _))
              have BD := Lib.hid (show Below w.heap.size w wd by rw [← hwd]; exact bel_dn B6.out _)
              have YD := Lib.hid (show At wd w.heap.size 0 y by rw [← hwd]; exact Y6.out.below (bel_dn (Below.refl _ _) _))
              have PD := Lib.hid (show Pes wd A' (onc E n).length c' b off E (onc E n) by rw [← hwd]; exact PE.out.below (bel_dn (Below.refl _ _) _))
              clear hwd p0 p1
              have p0 := XD.out.cell (i := 0) rfl
              go_wp2
              go_ret
              exact ⟨ret_i HVz.out.symm, BD.out⟩
          · have z4 : (rk == 3) = false := beq_eq_false_iff_ne.2 c4
            have HV5 := Lib.hid (HV4.out.trans (if_neg (fun h => c4 h.1)))
            clear HV4
            by_cases c6 : rk = 4
            · subst c6
              have HAn := Lib.hid (fun u (hp : Pes u A' (onc E n).length c' b off E (onc E n)) => reacted39 A' (onc E n).length c' b off E (onc E n) y u hp hf)
              have y2 := Y6.out.k2
              have t2 := HTa.out.k2
              go_upto_region 11 with (fail)
              clear t3
              go_quiet (fail)
              generalize hwd : World.drewN w7 _ = wd
              have XD := Lib.hid (show Blk wd t5 (relC 4 ri) 60 by rw [← hwd]; exact X6.out.below (bel_dn (Below.refl _ _) _))
              have BD := Lib.hid (show Below w.heap.size w wd by rw [← hwd]; exact bel_dn B6.out _)
              have YD := Lib.hid (show At wd w.heap.size 0 y by rw [← hwd]; exact Y6.out.below (bel_dn (Below.refl _ _) _))
              have PD := Lib.hid (show Pes wd A' (onc E n).length c' b off E (onc E n) by rw [← hwd]; exact PE.out.below (bel_dn (Below.refl _ _) _))
              clear hwd p0 p1
              have p0 := XD.out.cell (i := 0) rfl
              have HRg := Lib.hid YD.out.rng
              have HCn := Lib.hid (HAn.out wd PD.out)
              cases ha : (onc E n).any (fun i => dup (E i) y) with
              | true =>
                rw [ha] at HCn HV5
                have HVz := Lib.hid (HV5.out.trans (if_pos ⟨rfl, rfl⟩))
                clear ha HV5 HAn
                go_wp2_with (first
                  | (refine load_mid_g (by rfl) 34 _ rfl w.heap.size 0 rfl y.cs _ HRg.out Try.underlying34 rfl (size34l hf.len) ?_)
                  | (go_at_call 39; (with_reducible refine HCn.out.mono ?_); rintro r w9 ⟨rfl, hb⟩; have B9 := Lib.hid (BD.out.trans (hb.mono BD.out.size)); clear hb)
                  | go_in)
                go_ret
                exact ⟨ret_i HVz.out.symm, B9.out⟩
              | false =>
                rw [ha] at HCn HV5
                have HVz := Lib.hid (HV5.out.trans (if_neg (fun h => absurd h.2 (by decide))))
                clear ha HV5 HAn
                go_wp2_with (first
                  | (refine load_mid_g (by rfl) 34 _ rfl w.heap.size 0 rfl y.cs _ HRg.out Try.underlying34 rfl (size34l hf.len) ?_)
                  | (go_at_call 39; (with_reducible refine HCn.out.mono ?_); rintro r w9 ⟨rfl, hb⟩; have B9 := Lib.hid (BD.out.trans (hb.mono BD.out.size)); clear hb)
                  | go_in)
                go_ret
                exact ⟨ret_i HVz.out.symm, B9.out⟩
            · have z6 : (rk == 4) = false := beq_eq_false_iff_ne.2 c6
              have HVz := Lib.hid (HV5.out.trans (if_neg (fun h => c6 h.1)))
              clear HV5
              have y2 := Y6.out.k2
              have t2 := HTa.out.k2
              go_upto_region 11 with (fail)
              clear t3
              go_quiet (fail)
              generalize hwd : World.drewN w7 _ = wd
              have XD := Lib.hid (show Blk wd t5 (relC rk ri) 60 by rw [← hwd]; exact X6.out.below (bel_dn (Below.refl _ _) _))
              have BD := Lib.hid (show Below w.heap.size w wd by rw [← hwd]; exact bel_dn B6.out _)
              have YD := Lib.hid (show At wd w.heap.size 0 y by rw [← hwd]; exact Y6.out.below (bel_dn (Below.refl _ _) _))
              have PD := Lib.hid (show Pes wd A' (onc E n).length c' b off E (onc E n) by rw [← hwd]; exact PE.out.below (bel_dn (Below.refl _ _) _))
              clear hwd p0 p1
              have p0 := XD.out.cell (i := 0) rfl
              go_wp2
              go_ret
              exact ⟨ret_i HVz.out.symm, BD.out⟩
      · have z1 : (kd != 11) = true := by simp [c1]
        have HVz := Lib.hid (HV2.out.trans (if_pos c1))
        clear HV2
        go_wp2
        go_ret
        exact ⟨ret_i HVz.out.symm, B6.out⟩
end Go.Proofs.Ytefajhfahnhcgaa
