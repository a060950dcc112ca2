/- The reference's Same: its walk. -/
import Derived.Test.YthhmbcelicfopaaN10
namespace Go.Proofs.Ythhmbcelicfopaa
open Go.RowKit
set_option linter.unusedVariables false

theorem numsEq_of (d x3 x4 x5 x6 x7 x8 e y3 y4 y5 y6 y7 y8 : Int) (h : ∀ i, i < 7 → numF d x3 x4 x5 x6 x7 x8 i = numF e y3 y4 y5 y6 y7 y8 i) : numsEq d x3 x4 x5 x6 x7 x8 e y3 y4 y5 y6 y7 y8 = true := by
  have h0 := h 0 (by omega); have h1 := h 1 (by omega); have h2 := h 2 (by omega); have h3 := h 3 (by omega); have h4 := h 4 (by omega); have h5 := h 5 (by omega); have h6 := h 6 (by omega)
  simp only [numF] at h0 h1 h2 h3 h4 h5 h6
  unfold numsEq
  simp [h0, h1, h2, h3, h4, h5, h6]
theorem numsEq_get (d x3 x4 x5 x6 x7 x8 e y3 y4 y5 y6 y7 y8 : Int) (h : numsEq d x3 x4 x5 x6 x7 x8 e y3 y4 y5 y6 y7 y8 = true) (i : Nat) : numF d x3 x4 x5 x6 x7 x8 i = numF e y3 y4 y5 y6 y7 y8 i := by
  unfold numsEq at h
  simp only [Bool.and_eq_true, beq_iff_eq] at h
  obtain ⟨⟨⟨⟨⟨⟨rfl, rfl⟩, rfl⟩, rfl⟩, rfl⟩, rfl⟩, rfl⟩ := h
  rfl
set_option maxHeartbeats 16000000 in
theorem same15 (uA : Option Addr) (n uC : Nat) (kA : Option Addr) (nK kC : Nat) (d x3 x4 x5 x6 x7 x8 : Int) (vA : Option Addr) (m vC : Nat) (lA : Option Addr) (mK lC : Nat) (e y3 y4 y5 y6 y7 y8 : Int) (U V : Nat → ByteArray × Int) (K M : Nat → Int × Int) (bu bk : Bool) (w : World) (hU : Rws w uA n uC 2 (rowU U)) (hV : Rws w vA m vC 2 (rowU V)) (hK : Rws w kA nK kC 2 (rowK K)) (hM : Rws w lA mK lC 2 (rowK M))
    (hbu : bu = true ↔ UEq n m U V) (hbk : bk = true ↔ KEq nK mK K M) :
    Calls Try.prog 15 #[.agg (lvc uA n uC kA nK kC d x3 x4 x5 x6 x7 x8).toArray, .agg (lvc vA m vC lA mK lC e y3 y4 y5 y6 y7 y8).toArray] w fun e' w' => e' = .returned (.bool (numsEq d x3 x4 x5 x6 x7 x8 e y3 y4 y5 y6 y7 y8 && bu && bk)) ∧ Below w.heap.size w w' := by
  have HX := Lib.hid (two_boxes w (lvc uA n uC kA nK kC d x3 x4 x5 x6 x7 x8) (lvc vA m vC lA mK lC e y3 y4 y5 y6 y7 y8))
  have HU := Lib.hid (hU.below HX.out.2.2)
  have HV := Lib.hid (hV.below HX.out.2.2)
  have HK := Lib.hid (hK.below HX.out.2.2)
  have HM := Lib.hid (hM.below HX.out.2.2)
  have Hbu := Lib.hid hbu
  have Hbk := Lib.hid hbk
  have HT1 := Lib.hid HX.out.1
  have HT2 := Lib.hid HX.out.2.1
  have HSz := Lib.hid HX.out.2.2.size
  have hb1 := hU.big
  have hb2 := hK.big
  unfold maxLen at hb1 hb2
  have i0 := HX.out.1.cell (i := 0) rfl
  have i1 := HX.out.1.cell (i := 1) rfl
  have j0 := HX.out.2.1.cell (i := 0) rfl
  have j1 := HX.out.2.1.cell (i := 1) rfl
  clear hU hV hK hM hbu hbk
  show Calls Try.prog 15 #[.agg #[.slice uA n uC, .slice kA nK kC, .int .i64 d, .int .i64 x3, .int .i64 x4, .int .i64 x5, .int .i64 x6, .int .i64 x7, .int .i64 x8], .agg #[.slice vA m vC, .slice lA mK lC, .int .i64 e, .int .i64 y3, .int .i64 y4, .int .i64 y5, .int .i64 y6, .int .i64 y7, .int .i64 y8]] w _
  by_cases hn : n = m
  · by_cases hk : nK = mK
    · subst hn hk
      have d1 : ((n : Int) != (n : Int)) = false := by simp
      have d2 : ((nK : Int) != (nK : Int)) = false := by simp
      go_enter Try.func15, Try.ntmps15
      go_wp2
      clear i0 i1 j0 j1
      generalize hb2 : w.heap.size + 1 = b2 at HT2 ⊢
      generalize hb0 : w.heap.size = b1 at HT1 ⊢
      generalize hw2 : ((w.alloc _).alloc _) = w2 at HX HU HV HK HM HT1 HT2 HSz ⊢
      clear hb2 hb0 hw2
      have BWs := Lib.hid (Below.refl w2.heap.size w2)
      go_loopg [5] n (fun gg s5 wr => ∃ kk : Nat, kk ≤ n ∧ n - kk ≤ gg ∧ s5 = .int .i64 kk ∧ Hid (Below w2.heap.size w2 wr) ∧ Hid (∀ j, j < kk → eqU (U j) (V j) = true))
      case atStart => exact ⟨0, Nat.zero_le _, by omega, rfl, BWs, Lib.hid (fun j hj => absurd hj (Nat.not_lt_zero _))⟩
      case round =>
        clear BWs
        obtain ⟨kk, hkk, hg, rfl, BW, A⟩ := hrel
        have i0 := (HT1.out.below BW.out).cell (i := 0) rfl
        have j0 := (HT2.out.below BW.out).cell (i := 0) rfl
        by_cases hlt : kk < n
        · have hltz : (kk : Int) < (n : Int) := by omega
          obtain ⟨b1', o1, rfl, cy, cn⟩ := (HU.out.below BW.out).user hlt
          obtain ⟨b2', o2, rfl, dy, dn⟩ := (HV.out.below BW.out).user hlt
          have HG := Lib.hid (show eqU (U kk) (V kk) = ((U kk).1.toList == (V kk).1.toList && (U kk).2 == (V kk).2) from rfl)
          generalize (U kk).1 = y1 at cy HG
          generalize (U kk).2 = n1 at cn HG
          generalize (V kk).1 = y2 at dy HG
          generalize (V kk).2 = n2 at dn HG
          cases q : (y1.toList == y2.toList && n1 == n2) with
          | false =>
            have HF := Lib.hid (show bu = false by
              cases hbb : bu with
              | false => rfl
              | true => have := (Hbu.out.1 hbb).2 kk hlt; rw [HG.out, q] at this; cases this)
            cases q1 : (y1.toList == y2.toList) with
            | false =>
              have q3 : (y1.toList == y2.toList) = false := q1
              have q5 : (y1.toList != y2.toList) = true := by rw [bne, q3]; rfl
              go_wp2
              go_quiet (fail)
              go_wp2
              go_ret
              exact ⟨by rw [HF.out]; simp, HX.out.2.2.trans ((below_drewN BW.out _).mono HSz.out)⟩
            | true =>
              have q4 : (n1 == n2) = false := by rw [q1] at q; simpa using q
              have q5 : (y1.toList != y2.toList) = false := by rw [bne, q1]; rfl
              have q6 : (n1 != n2) = true := by rw [bne, q4]; rfl
              go_wp2
              go_quiet (fail)
              go_wp2
              go_ret
              exact ⟨by rw [HF.out]; simp, HX.out.2.2.trans ((below_drewN BW.out _).mono HSz.out)⟩
          | true =>
            have HF := Lib.hid (show eqU (U kk) (V kk) = true by rw [HG.out, q])
            have q3 : (y1.toList == y2.toList) = true := by simp only [Bool.and_eq_true] at q; exact q.1
            have q4 : (n1 == n2) = true := by simp only [Bool.and_eq_true] at q; exact q.2
            have q5 : (y1.toList != y2.toList) = false := by rw [bne, q3]; rfl
            have q6 : (n1 != n2) = false := by rw [bne, q4]; rfl
            clear q
            go_wp2
            go_quiet (fail)
            go_wp2
            go_roundg (n - (kk + 1))
            case measure => omega
            case rel =>
              refine ⟨kk + 1, by omega, by omega, by go_num, Lib.hid (below_drewN BW.out _), Lib.hid (fun j hj => ?_)⟩
              by_cases e : j = kk
              · subst e; exact HF.out
              · exact A.out j (by omega)
        · have hltz : ¬ (kk : Int) < (n : Int) := by omega
          obtain rfl : n = kk := by omega
          have HT5 := Lib.hid (show bu = true from Hbu.out.2 ⟨rfl, A.out⟩)
          have BWs := BW
          clear A hlt hltz hg hkk
          go_wp2
          clear i0 j0
          go_loopg [6] nK (fun gg s6 wr => ∃ kk : Nat, kk ≤ nK ∧ nK - kk ≤ gg ∧ s6 = .int .i64 kk ∧ Hid (Below w2.heap.size w2 wr) ∧ Hid (∀ j, j < kk → eqK (K j) (M j) = true))
          case atStart => exact ⟨0, Nat.zero_le _, by omega, rfl, BWs, Lib.hid (fun j hj => absurd hj (Nat.not_lt_zero _))⟩
          case round =>
            clear BWs
            obtain ⟨kk, hkk, hg, rfl, BW, A⟩ := hrel
            have i0 := (HT1.out.below BW.out).cell (i := 1) rfl
            have j0 := (HT2.out.below BW.out).cell (i := 1) rfl
            by_cases hlt : kk < nK
            · have hltz : (kk : Int) < (nK : Int) := by omega
              obtain ⟨b1', o1, rfl, cy, cn⟩ := (HK.out.below BW.out).kind hlt
              obtain ⟨b2', o2, rfl, dy, dn⟩ := (HM.out.below BW.out).kind hlt
              have HG := Lib.hid (show eqK (K kk) (M kk) = ((K kk).1 == (M kk).1 && (K kk).2 == (M kk).2) from rfl)
              generalize (K kk).1 = y1 at cy HG
              generalize (K kk).2 = n1 at cn HG
              generalize (M kk).1 = y2 at dy HG
              generalize (M kk).2 = n2 at dn HG
              cases q : (y1 == y2 && n1 == n2) with
              | false =>
                have HF := Lib.hid (show bk = false by
                  cases hbb : bk with
                  | false => rfl
                  | true => have := (Hbk.out.1 hbb).2 kk hlt; rw [HG.out, q] at this; cases this)
                cases q1 : (y1 == y2) with
                | false =>
                  have q3 : (y1 == y2) = false := q1
                  have q5 : (y1 != y2) = true := by rw [bne, q3]; rfl
                  go_wp2
                  go_quiet (fail)
                  go_wp2
                  go_ret
                  exact ⟨by rw [HF.out]; simp, HX.out.2.2.trans ((below_drewN BW.out _).mono HSz.out)⟩
                | true =>
                  have q4 : (n1 == n2) = false := by rw [q1] at q; simpa using q
                  have q5 : (y1 != y2) = false := by rw [bne, q1]; rfl
                  have q6 : (n1 != n2) = true := by rw [bne, q4]; rfl
                  go_wp2
                  go_quiet (fail)
                  go_wp2
                  go_ret
                  exact ⟨by rw [HF.out]; simp, HX.out.2.2.trans ((below_drewN BW.out _).mono HSz.out)⟩
              | true =>
                have HF := Lib.hid (show eqK (K kk) (M kk) = true by rw [HG.out, q])
                have q3 : (y1 == y2) = true := by simp only [Bool.and_eq_true] at q; exact q.1
                have q4 : (n1 == n2) = true := by simp only [Bool.and_eq_true] at q; exact q.2
                have q5 : (y1 != y2) = false := by rw [bne, q3]; rfl
                have q6 : (n1 != n2) = false := by rw [bne, q4]; rfl
                clear q
                go_wp2
                go_quiet (fail)
                go_wp2
                go_roundg (nK - (kk + 1))
                case measure => omega
                case rel =>
                  refine ⟨kk + 1, by omega, by omega, by go_num, Lib.hid (below_drewN BW.out _), Lib.hid (fun j hj => ?_)⟩
                  by_cases e : j = kk
                  · subst e; exact HF.out
                  · exact A.out j (by omega)
            · have hltz : ¬ (kk : Int) < (nK : Int) := by omega
              obtain rfl : nK = kk := by omega
              have HT6 := Lib.hid (show bk = true from Hbk.out.2 ⟨rfl, A.out⟩)
              have BWs := BW
              clear A hlt hltz hg hkk
              go_wp2
              clear i0 j0

              rename_i wz
              refine wp_region_held_drew (S := (fun w' => (Blk w' b1 (lvc uA n uC kA nK kC d x3 x4 x5 x6 x7 x8) 25 ∧ Blk w' b2 (lvc vA n vC lA nK lC e y3 y4 y5 y6 y7 y8) 25 ∧ Below w2.heap.size w2 w'))) (by kernel_rfl) (by first | exact ⟨(HT1.out.below BWs.out).drew, (HT2.out.below BWs.out).drew, BWs.out.drew⟩ | exact ⟨hH0.1.below hb3, hH0.2.1.below hb3, hH0.2.2.trans (hb3.mono hH0.2.2.size)⟩) (fun hH0 => ?_)
              refine wpAnyH_take (i := 0) (oi := ({ dst := some 96, op := Op.load 25 (Operand.tmp 2), type := 25, pos := "ref.go:123", after := #[], guard := none } : Oper)) (v := ?hv1) rfl (by kernel_rfl) (by kernel_rfl) (by kernel_rfl) (fun _ _ _ h => h) (Or.inl ⟨by rfl, ?hy1⟩) (by assumption) ?hr1
              case hy1 => (intro w hSw; (try dsimp only at hSw); have k0 := hSw.1.cell (i := 0) rfl; have k1 := hSw.1.cell (i := 1) rfl; have k2 := hSw.1.cell (i := 2) rfl; have k3 := hSw.1.cell (i := 3) rfl; have k4 := hSw.1.cell (i := 4) rfl; have k5 := hSw.1.cell (i := 5) rfl; have k6 := hSw.1.cell (i := 6) rfl; have k7 := hSw.1.cell (i := 7) rfl; have k8 := hSw.1.cell (i := 8) rfl; clear hSw; go_simp; (try with_reducible rfl))
              try simp only [Act.put, List.setIfInBounds_toArray, List.set_cons_zero, List.set_cons_succ]
              refine wpAnyH_take (i := 2) (oi := ({ dst := some 98, op := Op.load 25 (Operand.tmp 3), type := 25, pos := "ref.go:123", after := #[], guard := none } : Oper)) (v := ?hv2) rfl (by kernel_rfl) (by kernel_rfl) (by kernel_rfl) (fun _ _ _ h => h) (Or.inl ⟨by rfl, ?hy2⟩) (by assumption) ?hr2
              case hy2 => (intro w hSw; (try dsimp only at hSw); have k0 := hSw.2.1.cell (i := 0) rfl; have k1 := hSw.2.1.cell (i := 1) rfl; have k2 := hSw.2.1.cell (i := 2) rfl; have k3 := hSw.2.1.cell (i := 3) rfl; have k4 := hSw.2.1.cell (i := 4) rfl; have k5 := hSw.2.1.cell (i := 5) rfl; have k6 := hSw.2.1.cell (i := 6) rfl; have k7 := hSw.2.1.cell (i := 7) rfl; have k8 := hSw.2.1.cell (i := 8) rfl; clear hSw; go_simp; (try with_reducible rfl))
              try simp only [Act.put, List.setIfInBounds_toArray, List.set_cons_zero, List.set_cons_succ]
              refine wpAnyH_ready (rs := [1]) (by kernel_rfl) (by simp) ?_
              refine AllReadyH.cons (o := ({ dst := some 97, op := Op.call { callee := Callee.value (Operand.func 25), args := #[Operand.tmp 96], argTypes := #[25] }, type := 38, pos := "ref.go:123", after := #[{ on := 0, ground := Ground.data }], guard := none } : Oper)) rfl (fun KK hKK => ?_) AllReadyH.nil
              (go_simp; (with_reducible refine (numbers25 uA n uC kA nK kC d x3 x4 x5 x6 x7 x8 _).mono ?_); rintro e0 w3 ⟨t7, rfl, ht7, hg7, hb3⟩)
              refine hKK.out _ _ (by first | exact ⟨(HT1.out.below BWs.out).drew, (HT2.out.below BWs.out).drew, BWs.out.drew⟩ | exact ⟨hH0.1.below hb3, hH0.2.1.below hb3, hH0.2.2.trans (hb3.mono hH0.2.2.size)⟩) (fun hH1 => ?_)
              clear hKK KK hH0
              try simp only [Act.put, List.setIfInBounds_toArray, List.set_cons_zero, List.set_cons_succ]
              refine wpAnyH_ready (rs := [3]) (by kernel_rfl) (by simp) ?_
              refine AllReadyH.cons (o := ({ dst := some 99, op := Op.call { callee := Callee.value (Operand.func 25), args := #[Operand.tmp 98], argTypes := #[25] }, type := 38, pos := "ref.go:123", after := #[{ on := 2, ground := Ground.data }, { on := 1, ground := Ground.chain }], guard := none } : Oper)) rfl (fun KK hKK => ?_) AllReadyH.nil
              (go_simp; (with_reducible refine (numbers25 vA n vC lA nK lC e y3 y4 y5 y6 y7 y8 _).mono ?_); rintro e0 w4 ⟨t8, rfl, ht8, hg8, hb3⟩)
              refine hKK.out _ _ (by first | exact ⟨(HT1.out.below BWs.out).drew, (HT2.out.below BWs.out).drew, BWs.out.drew⟩ | exact ⟨hH1.1.below hb3, hH1.2.1.below hb3, hH1.2.2.trans (hb3.mono hH1.2.2.size)⟩) (fun hH2 => ?_)
              clear hKK KK hH1
              try simp only [Act.put, List.setIfInBounds_toArray, List.set_cons_zero, List.set_cons_succ]
              refine wpAnyH_take (i := 4) (oi := ({ dst := some 7, op := Op.assign (Operand.tmp 97), type := 38, pos := "ref.go:123", after := #[{ on := 1, ground := Ground.data }, { on := 3, ground := Ground.chain }, { on := 0, ground := Ground.phase }, { on := 1, ground := Ground.phase }, { on := 2, ground := Ground.textOnly Departure.lateStores }, { on := 3, ground := Ground.textOnly Departure.lateStoresUnsure }], guard := none } : Oper)) (v := ?hv3) rfl (by kernel_rfl) (by kernel_rfl) (by kernel_rfl) (fun _ _ _ h => h) (Or.inl ⟨by rfl, ?hy3⟩) (by assumption) ?hr3
              case hy3 => (intro w hSw; (try dsimp only at hSw); go_simp; (try with_reducible rfl))
              try simp only [Act.put, List.setIfInBounds_toArray, List.set_cons_zero, List.set_cons_succ]
              refine wpAnyH_take (i := 5) (oi := ({ dst := some 8, op := Op.assign (Operand.tmp 99), type := 38, pos := "ref.go:123", after := #[{ on := 3, ground := Ground.data }, { on := 4, ground := Ground.chain }, { on := 0, ground := Ground.phase }, { on := 1, ground := Ground.phase }, { on := 2, ground := Ground.phase }, { on := 3, ground := Ground.phase }, { on := 4, ground := Ground.phase }], guard := none } : Oper)) (v := ?hv4) rfl (by kernel_rfl) (by kernel_rfl) (by kernel_rfl) (fun _ _ _ h => h) (Or.inl ⟨by rfl, ?hy4⟩) (by assumption) ?hr4
              case hy4 => (intro w hSw; (try dsimp only at hSw); go_simp; (try with_reducible rfl))
              try simp only [Act.put, List.setIfInBounds_toArray, List.set_cons_zero, List.set_cons_succ]
              refine wpAnyH_done (by kernel_rfl) ?_ _
              have HBc := Lib.hid hH2.2.2
              have H7 := Lib.hid (ht7.below hb3)
              have H8 := Lib.hid ht8
              clear hH2 ht7 ht8
              go_wp2
              go_loopg [9] 7 (fun gg s9 wr => ∃ i : Nat, i ≤ 7 ∧ 7 - i ≤ gg ∧ s9 = .int .i64 i ∧ Hid (Below w2.heap.size w2 wr) ∧ Hid (Blk wr t7 (nums d x3 x4 x5 x6 x7 x8) 3) ∧ Hid (Blk wr t8 (nums e y3 y4 y5 y6 y7 y8) 3) ∧ Hid (∀ j, j < i → numF d x3 x4 x5 x6 x7 x8 j = numF e y3 y4 y5 y6 y7 y8 j))
              case atStart => exact ⟨0, by omega, by omega, rfl, HBc, H7, H8, Lib.hid (fun j hj => absurd hj (Nat.not_lt_zero _))⟩
              case round =>
                clear HBc H7 H8
                obtain ⟨i, hi, hg, rfl, BW, H7, H8, A⟩ := hrel
                by_cases hlt : i < 7
                · have hltz : (i : Int) < 7 := by omega
                  have c8 := H7.out.cell (numF_get d x3 x4 x5 x6 x7 x8 i hlt)
                  have c9 := H8.out.cell (numF_get e y3 y4 y5 y6 y7 y8 i hlt)
                  generalize hz1 : numF d x3 x4 x5 x6 x7 x8 i = z1 at c8
                  generalize hz2 : numF e y3 y4 y5 y6 y7 y8 i = z2 at c9
                  have Hz1 := Lib.hid hz1
                  have Hz2 := Lib.hid hz2
                  clear hz1 hz2
                  cases q : (z1 == z2) with
                  | false =>
                    have HF := Lib.hid (show numsEq d x3 x4 x5 x6 x7 x8 e y3 y4 y5 y6 y7 y8 = false by
                      cases hbb : numsEq d x3 x4 x5 x6 x7 x8 e y3 y4 y5 y6 y7 y8 with
                      | false => rfl
                      | true => have := numsEq_get d x3 x4 x5 x6 x7 x8 e y3 y4 y5 y6 y7 y8 hbb i; rw [Hz1.out, Hz2.out] at this; rw [this] at q; simp at q)
                    go_wp2
                    go_quiet (fail)
                    go_wp2
                    go_ret
                    exact ⟨by rw [HF.out]; rfl, HX.out.2.2.trans ((below_drewN BW.out _).mono HSz.out)⟩
                  | true =>
                    have HF := Lib.hid (show numF d x3 x4 x5 x6 x7 x8 i = numF e y3 y4 y5 y6 y7 y8 i by rw [Hz1.out, Hz2.out]; exact eq_of_beq q)
                    go_wp2
                    go_quiet (fail)
                    go_wp2
                    go_roundg (7 - (i + 1))
                    case measure => omega
                    case rel =>
                      refine ⟨i + 1, by omega, by omega, by go_num, Lib.hid (below_drewN BW.out _), Lib.hid (H7.out.below (below_drewN (Below.refl _ _) _)), Lib.hid (H8.out.below (below_drewN (Below.refl _ _) _)), Lib.hid (fun j hj => ?_)⟩
                      by_cases e : j = i
                      · subst e; exact HF.out
                      · exact A.out j (by omega)
                · have hltz : ¬ (i : Int) < 7 := by omega
                  have HF := Lib.hid (numsEq_of d x3 x4 x5 x6 x7 x8 e y3 y4 y5 y6 y7 y8 fun j hj => A.out j (by omega))
                  go_wp2
                  go_ret
                  exact ⟨by rw [HF.out, HT5.out, HT6.out]; rfl, HX.out.2.2.trans (BW.out.mono HSz.out)⟩
    · have d1 : ((n : Int) != (m : Int)) = false := by simp [hn]
      have d2 : ((nK : Int) != (mK : Int)) = true := by simp; omega
      have HF := Lib.hid (show bk = false by
        cases hbb : bk with
        | false => rfl
        | true => exact absurd (Hbk.out.1 hbb).1 hk)
      clear hn hk
      go_enter Try.func15, Try.ntmps15
      go_wp2
      go_ret
      exact ⟨by rw [HF.out]; simp, HX.out.2.2⟩
  · have d1 : ((n : Int) != (m : Int)) = true := by simp; omega
    have HF := Lib.hid (show bu = false by
      cases hbb : bu with
      | false => rfl
      | true => exact absurd (Hbu.out.1 hbb).1 hn)
    clear hn
    go_enter Try.func15, Try.ntmps15
    go_wp2
    go_ret
    exact ⟨by rw [HF.out]; simp, HX.out.2.2⟩
end Go.Proofs.Ythhmbcelicfopaa
