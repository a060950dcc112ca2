/- Who types: the reference's Start of a new record. Bound: at most 900000 records. -/
import Derived.Test.YtjifohepbmaebaaT13
import Derived.Deep.RegionHeld3
import Derived.Deep.Cut
namespace Go.Proofs.Ytjifohepbmaebaa
open Go.RowKit Go.Maps Go.Proofs
set_option linter.unusedVariables false
set_option linter.unusedSimpArgs false

set_option maxRecDepth 100000 in
set_option maxHeartbeats 8000000 in
theorem rstart14_ins (A : Option Addr) (n c : Nat) (zs : List Tp) (s : ByteArray) (now span : Int) (w : World) (h : Tps w A n c zs) (hs : s.size ≤ 9223372036854775807) (hu : I.mkd 64 (bys s) = true) (hn : n ≤ 900000) (r0 : 0 ≤ now) (r1 : now ≤ 1000000000) (r2 : 1 ≤ span) (r3 : span ≤ 30000) (hnu : ∀ q ∈ zs, pu s q = false) (zz : List Tp) (hz : zz = ins s (s, now + span) zs) (m : Nat) (hm : zz.length = m) : Calls Try.prog 14 #[.slice A n c, .string s, .int .i64 now, .int .i64 span] w (StP w zz m) := by
  have HZ := Lib.hid hz
  have HM := Lib.hid hm
  have H := Lib.hid h
  have HL := Lib.hid h.len
  have HU := Lib.hid (fun u => ruser_any s hs u)
  rw [hu, err_t] at HU
  obtain ⟨i0, hi, hz0, hz1, hz2⟩ := info_parts info44
  have HI := Lib.hid (And.intro hi (And.intro hz0 (And.intro hz1 hz2)))
  have B1 := Lib.hid ((Below.refl w.heap.size w).alloc (Nat.le_refl _) (.cells #[.string s, .int .i64 (now + span)] 44))
  have B2 := Lib.hid (B1.out.alloc B1.out.size (.cells #[] 44))
  have X2 := Lib.hid ((blk_new w [.string s, .int .i64 (now + span)] 44).alloc (.cells #[] 44))
  have O2 : Hid (((w.alloc (.cells #[.string s, .int .i64 (now + span)] 44)).alloc (.cells #[] 44)).ownsRow w.heap.size 44 2 (.slice (some ⟨w.heap.size + 1, 0, none⟩) 0 0) 0 []) := Lib.hid (by
    have := World.ownsRow_made (base := w.heap.size) (e := 44) (size := 2) (w.alloc (.cells #[.string s, .int .i64 (now + span)] 44)) #[] 0 B1.out.size (by decide) (by simp)
    rw [show (w.alloc (.cells #[.string s, .int .i64 (now + span)] 44)).heap.size = w.heap.size + 1 by simp] at this
    exact this)
  have S2 := Lib.hid ((H.out.below B2.out).src)
  have HP : Hid (∀ j, j < n → pu s (zs.getD j t0) = false) := Lib.hid (fun j hj => hnu _ (by rw [List.getD_eq_getElem?_getD, List.getElem?_eq_getElem (by rw [h.len]; exact hj)]; exact List.getElem_mem _))
  obtain ⟨K, hKd⟩ : ∃ K, K = zs.findIdx (pb s) := ⟨_, rfl⟩
  have HK : Hid (K ≤ n) := Lib.hid (by rw [hKd, ← h.len]; exact List.findIdx_le_length)
  have HQ : Hid (∀ j, j < n → j ≤ K → pb s (zs.getD j t0) = decide (j = K)) := Lib.hid (by
    intro j hj hjK
    have hj' : j < zs.length := by rw [h.len]; exact hj
    rw [List.getD_eq_getElem?_getD, List.getElem?_eq_getElem hj', Option.getD_some]
    by_cases e : j = K
    · subst e
      rw [decide_eq_true rfl]
      have h1 : zs.findIdx (pb s) < zs.length := by rw [← hKd]; exact hj'
      have h2 := List.findIdx_getElem (w := h1)
      simp only [← hKd] at h2
      exact h2
    · rw [decide_eq_false e]
      have h2 := List.not_of_lt_findIdx (p := pb s) (xs := zs) (i := j) (by rw [← hKd]; omega)
      exact h2)
  have HFit := Lib.hid (show ∀ p ∈ zz, p.1.size ≤ 9223372036854775807 by
    rw [hz]; intro p hp
    unfold ins at hp
    rcases List.mem_append.1 hp with h1 | h1
    · exact h.fit p (List.mem_of_mem_take h1)
    · rcases List.mem_cons.1 h1 with h2 | h2
      · rw [h2]; exact hs
      · exact h.fit p (List.mem_of_mem_drop h2))
  have HZ2 : Hid (zz = zs.take K ++ (s, now + span) :: zs.drop K) := Lib.hid (by rw [hz, hKd]; rfl)
  have HZl : Hid (m = n + 1) := Lib.hid (by rw [← hm, hz, ins_len, h.len])
  have rT := Lib.hid (run_topA (A := A) (n := n) (c := c) (k := K) (by have := h.cap; have := HK.out; omega))
  obtain ⟨FX, hFr, hFs⟩ : ∃ FX, (∀ w, (Instr.sliceAt 22 (.slice A n c) (some (.int .i64 (K : Int))) none none).run Try.prog w = .ok (.slice FX (n - K) (c - K)) w) ∧ ∀ w, Tps w A n c zs → Src w FX (n - K) (c - K) 2 (cl (zs.drop K)) := ⟨_, run_fromA HK.out, fun w h => h.dropSrc HK.out⟩
  have rF := Lib.hid hFr
  have RFs := Lib.hid hFs
  clear hFr hFs
  clear h hz0 hz1 hz2 hz hm hu hs hnu hKd HZ HM hi
  go_enter Try.func14, Try.ntmps14
  go_wp2_with (first
    | (go_at_call 26; (with_reducible refine (HU.out _).mono ?_); rintro e w1 ⟨rfl, rfl⟩)
    | (at_builtin; refine wpList_append_any _ rfl (.tmp 36) (.tmp 37) 22 rfl w.heap.size 44 i0 _ 2 24 Try.underlying22 HI.out.1 HI.out.2.1 HI.out.2.2.1 HI.out.2.2.2 rfl (by decide) (.slice (some ⟨w.heap.size + 1, 0, none⟩) 0 0) 0 [] rfl O2.out A n c (cl zs) rfl S2.out (by unfold maxLen; omega) (by omega) B2.out.size ?_; intro v3 w3 hgr; have B3 := Lib.hid (hgr.below B2.out O2.out); have X3 : Hid (Blk w3 w.heap.size [.string s, .int .i64 (now + span)] 44) := Lib.hid ⟨(hgr.grow.block w.heap.size X2.out.lt (by simp [Value.ownBlock])).trans X2.out.heap⟩; have O3 := Lib.hid hgr.own; clear hgr; rw [Nat.zero_add, List.nil_append] at O3))
  obtain ⟨A1, c1, rfl, hT3, _⟩ := Tps.ofOwn O3.out HL.out (by omega) H.out.fit
  have T3 := Lib.hid hT3
  clear hT3 O3
  go_loopg [8, 9, 12] n (fun gg _ _ s12 wr => ∃ kk : Nat, kk ≤ n ∧ n - kk ≤ gg ∧ s12 = .int .i64 kk ∧ w3 = wr)
  case atStart => exact ⟨0, Nat.zero_le _, by omega, rfl, rfl⟩
  case round =>
    obtain ⟨kk, hkk, hg, rfl, rfl⟩ := hrel
    by_cases hlt : kk < n
    · have hltz : (kk : Int) < (n : Int) := by omega
      obtain ⟨b, off, eA, hbl, k0, k1, _⟩ := T3.out.get hlt
      have hp := HP.out kk hlt
      generalize zs.getD kk t0 = p at k0 k1 hp
      have hs : (p.1.toList == s.toList) = false := hp
      clear hp
      subst eA
      go_wp2
      go_roundg (n - (kk + 1))
      case measure => omega
      case rel => exact ⟨kk + 1, by omega, by omega, by go_num, rfl⟩
    · have hltz : ¬ (kk : Int) < (n : Int) := by omega
      obtain rfl : kk = n := by omega
      go_wp2
      go_loopg [13] kk (fun gg s13 wr => ∃ jj : Nat, jj ≤ K ∧ kk - jj ≤ gg ∧ s13 = .int .i64 jj ∧ w3 = wr)
      case atStart => exact ⟨0, Nat.zero_le _, by omega, rfl, rfl⟩
      case round =>
        obtain ⟨jj, hjj, hg2, rfl, rfl⟩ := hrel
        have hKn := HK.out
        by_cases e : jj = K
        · subst e
          have hpl : jj < kk → ∃ b off q, A = some ⟨b, off, none⟩ ∧ w3.cell? ⟨b, off + jj * 2, none⟩ = some (.string q) ∧ Op.bytesLess q.toList s.toList = false ∧ (q.toList == s.toList) = false := by
            intro hlt
            obtain ⟨b, off, eA, hbl, k0, k1, _⟩ := (H.out.below B3.out).get hlt
            have hq := HQ.out jj hlt (Nat.le_refl _)
            rw [decide_eq_true rfl] at hq
            unfold pb at hq
            rw [Bool.and_eq_true, Bool.not_eq_true', Bool.not_eq_true'] at hq
            exact ⟨b, off, _, eA, k0, hq.1, hq.2⟩
          have rt := rT.out
          have rf := rF.out
          by_cases hlt2 : jj < kk
          · have hjz : (jj : Int) < (kk : Int) := by omega
            obtain ⟨b, off, q, eA, k0, o1, o2⟩ := hpl hlt2
            subst eA
            clear hpl
            go_upto_region 16 with (fail)
            obtain ⟨bx, hbx⟩ : ∃ bx, bx = w.heap.size := ⟨_, rfl⟩
            rw [← hbx] at X3
            simp only [← hbx]
            clear hbx
            go_cut [11] from 72 to 79 (fun s11 wx => wx.ownsRow w3.heap.size 44 2 s11 (jj + 1) (cl (zs.take jj ++ [(s, now + span)])) ∧ Below w3.heap.size w3 wx)
            case first =>
              refine wp_region_held_drew (S := (fun w' => Blk w' bx [.string s, .int .i64 (now + span)] 44 ∧ Below w3.heap.size w3 w')) (by kernel_rfl) (⟨X3.out.drew, (Below.refl _ _).drew⟩) (fun hH0 => ?_)
              generalize w3.drew = y0 at hH0 ⊢
              have RX0 : Hid (Blk y0 bx [.string s, .int .i64 (now + span)] 44) := Lib.hid hH0.1
              have RB0 : Hid (Below w3.heap.size w3 y0) := Lib.hid hH0.2
              refine wpAnyH_take (i := 1) (oi := ({ dst := some 73, op := Op.move (Operand.tmp 0), type := 22, pos := "ref.go:45", after := #[], guard := none } : Oper)) (v := ?hv1) rfl (by kernel_rfl) (by kernel_rfl) (by kernel_rfl) (fun _ _ _ h => h) (Or.inl ⟨by rfl, ?hy1⟩) (by assumption) ?hr1
              case hy1 => (intro w hSw; (try dsimp only at hSw); go_simp; (try with_reducible rfl))
              try simp only [Act.put, List.setIfInBounds_toArray, List.set_cons_zero, List.set_cons_succ]
              refine wpAnyH_take (i := 2) (oi := ({ dst := some 74, op := Op.move (Operand.tmp 13), type := 3, pos := "ref.go:45", after := #[], guard := none } : Oper)) (v := ?hv2) rfl (by kernel_rfl) (by kernel_rfl) (by kernel_rfl) (fun _ _ _ h => h) (Or.inl ⟨by rfl, ?hy2⟩) (by assumption) ?hr2
              case hy2 => (intro w hSw; (try dsimp only at hSw); go_simp; (try with_reducible rfl))
              try simp only [Act.put, List.setIfInBounds_toArray, List.set_cons_zero, List.set_cons_succ]
              refine wpAnyH_take (i := 3) (oi := ({ dst := some 75, op := Op.slice 22 (Operand.tmp 73) none (some (Operand.tmp 74)) none, type := 22, pos := "ref.go:45", after := #[{ on := 1, ground := Ground.data }, { on := 2, ground := Ground.data }], guard := none } : Oper)) (v := ?hv3) rfl (by kernel_rfl) (by kernel_rfl) (by kernel_rfl) (fun _ _ _ h => h) (Or.inl ⟨by rfl, ?hy3⟩) (by assumption) ?hr3
              case hy3 => (intro w hSw; (try dsimp only at hSw); go_simp; (try with_reducible rfl))
              try simp only [Act.put, List.setIfInBounds_toArray, List.set_cons_zero, List.set_cons_succ]
              refine wpAnyH_take (i := 5) (oi := ({ dst := some 77, op := Op.load 44 (Operand.tmp 10), type := 44, pos := "ref.go:45", after := #[], guard := none } : Oper)) (v := .agg #[.string s, .int .i64 (now + span)]) rfl (by kernel_rfl) (by kernel_rfl) (by kernel_rfl) (fun _ _ _ h => h) (yieldsIf_load_mid (by rfl) 44 _ rfl bx 0 rfl [.string s, .int .i64 (now + span)] _ (fun w hw => hw.1.range) Try.underlying44 rfl size44) (by assumption) ?_
              try simp only [Act.put, List.setIfInBounds_toArray, List.set_cons_zero, List.set_cons_succ]
              refine wpAnyH_ready (rs := [0, 6]) (by kernel_rfl) (by simp) ?_
              refine AllReadyH.cons (o := ({ dst := some 72, op := Op.buildSlice 22 0 #[], type := 22, pos := "ref.go:45", after := #[], guard := none } : Oper)) rfl (fun KK hKK => ?_) ?_
              · go_simp
                generalize hy1 : World.alloc _ _ = y1
                generalize hg0 : (World.heap y0).size = g0
                have RX1 : Hid (Blk y1 bx [.string s, .int .i64 (now + span)] 44) := Lib.hid (by rw [← hy1]; exact RX0.out.alloc _)
                have RB1 : Hid (Below w3.heap.size w3 y1) := Lib.hid (by rw [← hy1]; exact RB0.out.alloc RB0.out.size _)
                have RO1 : Hid (y1.ownsRow w3.heap.size 44 2 (.slice (some ⟨g0, 0, none⟩) 0 0) 0 []) := Lib.hid (by rw [← hy1, ← hg0]; exact World.ownsRow_made (base := w3.heap.size) (e := 44) (size := 2) _ #[] 0 RB0.out.size (by decide) (by simp))
                clear hy1 hg0
                refine hKK.out _ _ (⟨RX1.out, RB1.out⟩) (fun hH1 => ?_)
                clear hKK KK
                try simp only [Act.put, List.setIfInBounds_toArray, List.set_cons_zero, List.set_cons_succ]
                refine wpAnyH_ready (rs := [4, 6]) (by kernel_rfl) (by simp) ?_
                refine AllReadyH.cons (o := ({ dst := some 76, op := Op.call { callee := Callee.builtin Builtin.append, args := #[Operand.tmp 72, Operand.tmp 75], argTypes := #[22, 22] }, type := 22, pos := "ref.go:45", after := #[{ on := 0, ground := Ground.data }, { on := 3, ground := Ground.data }], guard := none } : Oper)) rfl (fun KK hKK => ?_) ?_
                · have RS := Lib.hid ((H.out.below (B3.out.trans (RB1.out.mono B3.out.size))).takeSrc HK.out)
                  refine step_append_any _ rfl (.tmp 72) (.tmp 75) 22 rfl w3.heap.size 44 i0 _ 2 24 Try.underlying22 HI.out.1 HI.out.2.1 HI.out.2.2.1 HI.out.2.2.2 rfl (by decide) (.slice (some ⟨g0, 0, none⟩) 0 0) 0 [] rfl RO1.out (some ⟨b, off, none⟩) jj c (cl (zs.take jj)) rfl RS.out (by unfold maxLen; omega) (by omega) RB1.out.size ?_
                  intro v4 y2 hgr
                  have RB2 : Hid (Below w3.heap.size w3 y2) := Lib.hid (hgr.below RB1.out RO1.out)
                  have RV2 := Lib.hid hgr.own
                  have RX2 : Hid (Blk y2 bx [.string s, .int .i64 (now + span)] 44) := Lib.hid (X3.out.below RB2.out)
                  clear hgr
                  refine hKK.out _ _ (⟨RX2.out, RB2.out⟩) (fun hH2 => ?_)
                  clear hKK KK
                  try simp only [Act.put, List.setIfInBounds_toArray, List.set_cons_zero, List.set_cons_succ]
                  refine wpAnyH_ready (rs := [6]) (by kernel_rfl) (by simp) ?_
                  refine AllReadyH.cons (o := ({ dst := some 78, op := Op.buildSlice 22 1 #[(0, Operand.tmp 77)], type := 22, pos := "ref.go:45", after := #[{ on := 5, ground := Ground.data }], guard := none } : Oper)) rfl (fun KK hKK => ?_) AllReadyH.nil
                  go_simp
                  generalize hy3 : World.alloc _ _ = y3
                  generalize hg6 : (World.heap y2).size = g4
                  have RX3 : Hid (Blk y3 bx [.string s, .int .i64 (now + span)] 44) := Lib.hid (by rw [← hy3]; exact RX2.out.alloc _)
                  have RB3 : Hid (Below w3.heap.size w3 y3) := Lib.hid (by rw [← hy3]; exact RB2.out.alloc RB2.out.size _)
                  have RG3 : Hid (Blk y3 g4 [.string s, .int .i64 (now + span)] 44) := Lib.hid (by rw [← hy3, ← hg6]; exact blk_new _ [.string s, .int .i64 (now + span)] 44)
                  have RV3 : Hid (y3.ownsRow w3.heap.size 44 2 v4 (0 + jj) ([] ++ cl (zs.take jj))) := Lib.hid (by rw [← hy3]; exact RV2.out.alloc _)
                  clear hy3 hg6
                  refine hKK.out _ _ (⟨RX3.out, RB3.out⟩) (fun hH3 => ?_)
                  clear hKK KK
                  try simp only [Act.put, List.setIfInBounds_toArray, List.set_cons_zero, List.set_cons_succ]
                  refine wpAnyH_ready (rs := [7]) (by kernel_rfl) (by simp) ?_
                  refine AllReadyH.cons (o := ({ dst := some 79, op := Op.call { callee := Callee.builtin Builtin.append, args := #[Operand.tmp 76, Operand.tmp 78], argTypes := #[22, 22] }, type := 22, pos := "ref.go:45", after := #[{ on := 4, ground := Ground.data }, { on := 6, ground := Ground.data }, { on := 4, ground := Ground.chain }], guard := none } : Oper)) rfl (fun KK hKK => ?_) AllReadyH.nil
                  refine step_append_any _ rfl (.tmp 76) (.tmp 78) 22 rfl w3.heap.size 44 i0 _ 2 24 Try.underlying22 HI.out.1 HI.out.2.1 HI.out.2.2.1 HI.out.2.2.2 rfl (by decide) v4 _ _ rfl RV3.out (some ⟨g4, 0, none⟩) 1 1 [.string s, .int .i64 (now + span)] rfl (blk_src (p := (s, now + span)) RG3.out) (by unfold maxLen; omega) (by omega) RB3.out.size ?_
                  intro v5 y4 hgr
                  have RB4 : Hid (Below w3.heap.size w3 y4) := Lib.hid (hgr.below RB3.out RV3.out)
                  have RX4 : Hid (Blk y4 bx [.string s, .int .i64 (now + span)] 44) := Lib.hid (X3.out.below RB4.out)
                  have RE : Hid (y4.ownsRow w3.heap.size 44 2 v5 (jj + 1) (cl (zs.take jj ++ [(s, now + span)]))) := Lib.hid (by have := hgr.own; rw [Nat.zero_add, List.nil_append, cl_snoc (zs.take jj) (s, now + span)] at this; exact this)
                  clear hgr
                  refine hKK.out _ _ (⟨RX4.out, RB4.out⟩) (fun hH4 => ?_)
                  clear hKK KK
                  try simp only [Act.put, List.setIfInBounds_toArray, List.set_cons_zero, List.set_cons_succ]
                  refine wpAnyH_take (i := 8) (oi := ({ dst := some 11, op := Op.assign (Operand.tmp 79), type := 22, pos := "ref.go:45", after := #[{ on := 7, ground := Ground.data }, { on := 7, ground := Ground.chain }, { on := 0, ground := Ground.phase }, { on := 1, ground := Ground.phase }, { on := 2, ground := Ground.phase }, { on := 3, ground := Ground.phase }, { on := 4, ground := Ground.phase }, { on := 5, ground := Ground.phase }, { on := 6, ground := Ground.phase }, { on := 7, ground := Ground.phase }], guard := none } : Oper)) (v := ?hv4) rfl (by kernel_rfl) (by kernel_rfl) (by kernel_rfl) (fun _ _ _ h => h) (Or.inl ⟨by rfl, ?hy4⟩) (by assumption) ?hr4
                  case hy4 => (intro w hSw; (try dsimp only at hSw); go_simp; (try with_reducible rfl))
                  try simp only [Act.put, List.setIfInBounds_toArray, List.set_cons_zero, List.set_cons_succ]
                  refine wpAnyH_done (by kernel_rfl) ?_ _
                  go_wp2
                  go_meet
                  exact ⟨RE.out, RB4.out⟩
                refine AllReadyH.cons (o := ({ dst := some 78, op := Op.buildSlice 22 1 #[(0, Operand.tmp 77)], type := 22, pos := "ref.go:45", after := #[{ on := 5, ground := Ground.data }], guard := none } : Oper)) rfl (fun KK hKK => ?_) AllReadyH.nil
                go_simp
                generalize hy2 : World.alloc _ _ = y2
                generalize hg6 : (World.heap y1).size = g4
                have RX2 : Hid (Blk y2 bx [.string s, .int .i64 (now + span)] 44) := Lib.hid (by rw [← hy2]; exact RX1.out.alloc _)
                have RB2 : Hid (Below w3.heap.size w3 y2) := Lib.hid (by rw [← hy2]; exact RB1.out.alloc RB1.out.size _)
                have RG2 : Hid (Blk y2 g4 [.string s, .int .i64 (now + span)] 44) := Lib.hid (by rw [← hy2, ← hg6]; exact blk_new _ [.string s, .int .i64 (now + span)] 44)
                have RO2 : Hid (y2.ownsRow w3.heap.size 44 2 (.slice (some ⟨g0, 0, none⟩) 0 0) 0 []) := Lib.hid (by rw [← hy2]; exact RO1.out.alloc _)
                have RN : g4 ≠ g0 := by have := (RO1.out.lt g0 rfl).2; omega
                clear hy2 hg6
                refine hKK.out _ _ (⟨RX2.out, RB2.out⟩) (fun hH2 => ?_)
                clear hKK KK
                try simp only [Act.put, List.setIfInBounds_toArray, List.set_cons_zero, List.set_cons_succ]
                refine wpAnyH_ready (rs := [4]) (by kernel_rfl) (by simp) ?_
                refine AllReadyH.cons (o := ({ dst := some 76, op := Op.call { callee := Callee.builtin Builtin.append, args := #[Operand.tmp 72, Operand.tmp 75], argTypes := #[22, 22] }, type := 22, pos := "ref.go:45", after := #[{ on := 0, ground := Ground.data }, { on := 3, ground := Ground.data }], guard := none } : Oper)) rfl (fun KK hKK => ?_) AllReadyH.nil
                have RS := Lib.hid ((H.out.below (B3.out.trans (RB2.out.mono B3.out.size))).takeSrc HK.out)
                refine step_append_any _ rfl (.tmp 72) (.tmp 75) 22 rfl w3.heap.size 44 i0 _ 2 24 Try.underlying22 HI.out.1 HI.out.2.1 HI.out.2.2.1 HI.out.2.2.2 rfl (by decide) (.slice (some ⟨g0, 0, none⟩) 0 0) 0 [] rfl RO2.out (some ⟨b, off, none⟩) jj c (cl (zs.take jj)) rfl RS.out (by unfold maxLen; omega) (by omega) RB2.out.size ?_
                intro v4 y3 hgr
                have RB3 : Hid (Below w3.heap.size w3 y3) := Lib.hid (hgr.below RB2.out RO2.out)
                have RV3 := Lib.hid hgr.own
                have RX3 : Hid (Blk y3 bx [.string s, .int .i64 (now + span)] 44) := Lib.hid (X3.out.below RB3.out)
                have RG3 : Hid (Blk y3 g4 [.string s, .int .i64 (now + span)] 44) := Lib.hid ⟨(hgr.grow.block g4 RG2.out.lt (by simp [Value.ownBlock]; omega)).trans RG2.out.heap⟩
                clear hgr
                refine hKK.out _ _ (⟨RX3.out, RB3.out⟩) (fun hH3 => ?_)
                clear hKK KK
                try simp only [Act.put, List.setIfInBounds_toArray, List.set_cons_zero, List.set_cons_succ]
                refine wpAnyH_ready (rs := [7]) (by kernel_rfl) (by simp) ?_
                refine AllReadyH.cons (o := ({ dst := some 79, op := Op.call { callee := Callee.builtin Builtin.append, args := #[Operand.tmp 76, Operand.tmp 78], argTypes := #[22, 22] }, type := 22, pos := "ref.go:45", after := #[{ on := 4, ground := Ground.data }, { on := 6, ground := Ground.data }, { on := 4, ground := Ground.chain }], guard := none } : Oper)) rfl (fun KK hKK => ?_) AllReadyH.nil
                refine step_append_any _ rfl (.tmp 76) (.tmp 78) 22 rfl w3.heap.size 44 i0 _ 2 24 Try.underlying22 HI.out.1 HI.out.2.1 HI.out.2.2.1 HI.out.2.2.2 rfl (by decide) v4 _ _ rfl RV3.out (some ⟨g4, 0, none⟩) 1 1 [.string s, .int .i64 (now + span)] rfl (blk_src (p := (s, now + span)) RG3.out) (by unfold maxLen; omega) (by omega) RB3.out.size ?_
                intro v5 y4 hgr
                have RB4 : Hid (Below w3.heap.size w3 y4) := Lib.hid (hgr.below RB3.out RV3.out)
                have RX4 : Hid (Blk y4 bx [.string s, .int .i64 (now + span)] 44) := Lib.hid (X3.out.below RB4.out)
                have RE : Hid (y4.ownsRow w3.heap.size 44 2 v5 (jj + 1) (cl (zs.take jj ++ [(s, now + span)]))) := Lib.hid (by have := hgr.own; rw [Nat.zero_add, List.nil_append, cl_snoc (zs.take jj) (s, now + span)] at this; exact this)
                clear hgr
                refine hKK.out _ _ (⟨RX4.out, RB4.out⟩) (fun hH4 => ?_)
                clear hKK KK
                try simp only [Act.put, List.setIfInBounds_toArray, List.set_cons_zero, List.set_cons_succ]
                refine wpAnyH_take (i := 8) (oi := ({ dst := some 11, op := Op.assign (Operand.tmp 79), type := 22, pos := "ref.go:45", after := #[{ on := 7, ground := Ground.data }, { on := 7, ground := Ground.chain }, { on := 0, ground := Ground.phase }, { on := 1, ground := Ground.phase }, { on := 2, ground := Ground.phase }, { on := 3, ground := Ground.phase }, { on := 4, ground := Ground.phase }, { on := 5, ground := Ground.phase }, { on := 6, ground := Ground.phase }, { on := 7, ground := Ground.phase }], guard := none } : Oper)) (v := ?hv5) rfl (by kernel_rfl) (by kernel_rfl) (by kernel_rfl) (fun _ _ _ h => h) (Or.inl ⟨by rfl, ?hy5⟩) (by assumption) ?hr5
                case hy5 => (intro w hSw; (try dsimp only at hSw); go_simp; (try with_reducible rfl))
                try simp only [Act.put, List.setIfInBounds_toArray, List.set_cons_zero, List.set_cons_succ]
                refine wpAnyH_done (by kernel_rfl) ?_ _
                go_wp2
                go_meet
                exact ⟨RE.out, RB4.out⟩
              refine AllReadyH.cons (o := ({ dst := some 78, op := Op.buildSlice 22 1 #[(0, Operand.tmp 77)], type := 22, pos := "ref.go:45", after := #[{ on := 5, ground := Ground.data }], guard := none } : Oper)) rfl (fun KK hKK => ?_) AllReadyH.nil
              go_simp
              generalize hy1 : World.alloc _ _ = y1
              generalize hg6 : (World.heap y0).size = g4
              have RX1 : Hid (Blk y1 bx [.string s, .int .i64 (now + span)] 44) := Lib.hid (by rw [← hy1]; exact RX0.out.alloc _)
              have RB1 : Hid (Below w3.heap.size w3 y1) := Lib.hid (by rw [← hy1]; exact RB0.out.alloc RB0.out.size _)
              have RG1 : Hid (Blk y1 g4 [.string s, .int .i64 (now + span)] 44) := Lib.hid (by rw [← hy1, ← hg6]; exact blk_new _ [.string s, .int .i64 (now + span)] 44)
              clear hy1 hg6
              refine hKK.out _ _ (⟨RX1.out, RB1.out⟩) (fun hH1 => ?_)
              clear hKK KK
              try simp only [Act.put, List.setIfInBounds_toArray, List.set_cons_zero, List.set_cons_succ]
              refine wpAnyH_ready (rs := [0]) (by kernel_rfl) (by simp) ?_
              refine AllReadyH.cons (o := ({ dst := some 72, op := Op.buildSlice 22 0 #[], type := 22, pos := "ref.go:45", after := #[], guard := none } : Oper)) rfl (fun KK hKK => ?_) AllReadyH.nil
              go_simp
              generalize hy2 : World.alloc _ _ = y2
              generalize hg0 : (World.heap y1).size = g0
              have RX2 : Hid (Blk y2 bx [.string s, .int .i64 (now + span)] 44) := Lib.hid (by rw [← hy2]; exact RX1.out.alloc _)
              have RB2 : Hid (Below w3.heap.size w3 y2) := Lib.hid (by rw [← hy2]; exact RB1.out.alloc RB1.out.size _)
              have RO2 : Hid (y2.ownsRow w3.heap.size 44 2 (.slice (some ⟨g0, 0, none⟩) 0 0) 0 []) := Lib.hid (by rw [← hy2, ← hg0]; exact World.ownsRow_made (base := w3.heap.size) (e := 44) (size := 2) _ #[] 0 RB1.out.size (by decide) (by simp))
              have RG2 : Hid (Blk y2 g4 [.string s, .int .i64 (now + span)] 44) := Lib.hid (by rw [← hy2]; exact RG1.out.alloc _)
              have RN : g4 ≠ g0 := by have := RG1.out.lt; omega
              clear hy2 hg0
              refine hKK.out _ _ (⟨RX2.out, RB2.out⟩) (fun hH2 => ?_)
              clear hKK KK
              try simp only [Act.put, List.setIfInBounds_toArray, List.set_cons_zero, List.set_cons_succ]
              refine wpAnyH_ready (rs := [4]) (by kernel_rfl) (by simp) ?_
              refine AllReadyH.cons (o := ({ dst := some 76, op := Op.call { callee := Callee.builtin Builtin.append, args := #[Operand.tmp 72, Operand.tmp 75], argTypes := #[22, 22] }, type := 22, pos := "ref.go:45", after := #[{ on := 0, ground := Ground.data }, { on := 3, ground := Ground.data }], guard := none } : Oper)) rfl (fun KK hKK => ?_) AllReadyH.nil
              have RS := Lib.hid ((H.out.below (B3.out.trans (RB2.out.mono B3.out.size))).takeSrc HK.out)
              refine step_append_any _ rfl (.tmp 72) (.tmp 75) 22 rfl w3.heap.size 44 i0 _ 2 24 Try.underlying22 HI.out.1 HI.out.2.1 HI.out.2.2.1 HI.out.2.2.2 rfl (by decide) (.slice (some ⟨g0, 0, none⟩) 0 0) 0 [] rfl RO2.out (some ⟨b, off, none⟩) jj c (cl (zs.take jj)) rfl RS.out (by unfold maxLen; omega) (by omega) RB2.out.size ?_
              intro v4 y3 hgr
              have RB3 : Hid (Below w3.heap.size w3 y3) := Lib.hid (hgr.below RB2.out RO2.out)
              have RV3 := Lib.hid hgr.own
              have RX3 : Hid (Blk y3 bx [.string s, .int .i64 (now + span)] 44) := Lib.hid (X3.out.below RB3.out)
              have RG3 : Hid (Blk y3 g4 [.string s, .int .i64 (now + span)] 44) := Lib.hid ⟨(hgr.grow.block g4 RG2.out.lt (by simp [Value.ownBlock]; omega)).trans RG2.out.heap⟩
              clear hgr
              refine hKK.out _ _ (⟨RX3.out, RB3.out⟩) (fun hH3 => ?_)
              clear hKK KK
              try simp only [Act.put, List.setIfInBounds_toArray, List.set_cons_zero, List.set_cons_succ]
              refine wpAnyH_ready (rs := [7]) (by kernel_rfl) (by simp) ?_
              refine AllReadyH.cons (o := ({ dst := some 79, op := Op.call { callee := Callee.builtin Builtin.append, args := #[Operand.tmp 76, Operand.tmp 78], argTypes := #[22, 22] }, type := 22, pos := "ref.go:45", after := #[{ on := 4, ground := Ground.data }, { on := 6, ground := Ground.data }, { on := 4, ground := Ground.chain }], guard := none } : Oper)) rfl (fun KK hKK => ?_) AllReadyH.nil
              refine step_append_any _ rfl (.tmp 76) (.tmp 78) 22 rfl w3.heap.size 44 i0 _ 2 24 Try.underlying22 HI.out.1 HI.out.2.1 HI.out.2.2.1 HI.out.2.2.2 rfl (by decide) v4 _ _ rfl RV3.out (some ⟨g4, 0, none⟩) 1 1 [.string s, .int .i64 (now + span)] rfl (blk_src (p := (s, now + span)) RG3.out) (by unfold maxLen; omega) (by omega) RB3.out.size ?_
              intro v5 y4 hgr
              have RB4 : Hid (Below w3.heap.size w3 y4) := Lib.hid (hgr.below RB3.out RV3.out)
              have RX4 : Hid (Blk y4 bx [.string s, .int .i64 (now + span)] 44) := Lib.hid (X3.out.below RB4.out)
              have RE : Hid (y4.ownsRow w3.heap.size 44 2 v5 (jj + 1) (cl (zs.take jj ++ [(s, now + span)]))) := Lib.hid (by have := hgr.own; rw [Nat.zero_add, List.nil_append, cl_snoc (zs.take jj) (s, now + span)] at this; exact this)
              clear hgr
              refine hKK.out _ _ (⟨RX4.out, RB4.out⟩) (fun hH4 => ?_)
              clear hKK KK
              try simp only [Act.put, List.setIfInBounds_toArray, List.set_cons_zero, List.set_cons_succ]
              refine wpAnyH_take (i := 8) (oi := ({ dst := some 11, op := Op.assign (Operand.tmp 79), type := 22, pos := "ref.go:45", after := #[{ on := 7, ground := Ground.data }, { on := 7, ground := Ground.chain }, { on := 0, ground := Ground.phase }, { on := 1, ground := Ground.phase }, { on := 2, ground := Ground.phase }, { on := 3, ground := Ground.phase }, { on := 4, ground := Ground.phase }, { on := 5, ground := Ground.phase }, { on := 6, ground := Ground.phase }, { on := 7, ground := Ground.phase }], guard := none } : Oper)) (v := ?hv6) rfl (by kernel_rfl) (by kernel_rfl) (by kernel_rfl) (fun _ _ _ h => h) (Or.inl ⟨by rfl, ?hy6⟩) (by assumption) ?hr6
              case hy6 => (intro w hSw; (try dsimp only at hSw); go_simp; (try with_reducible rfl))
              try simp only [Act.put, List.setIfInBounds_toArray, List.set_cons_zero, List.set_cons_succ]
              refine wpAnyH_done (by kernel_rfl) ?_ _
              go_wp2
              go_meet
              exact ⟨RE.out, RB4.out⟩
            case rest =>
              obtain ⟨hO5, hB5⟩ := hcut
              have O5 := Lib.hid hO5
              have B5 := Lib.hid (B3.out.trans (hB5.mono B3.out.size))
              have B5b := Lib.hid hB5
              have S5 := Lib.hid (RFs.out _ (H.out.below B5.out))
              clear hO5 hB5
              obtain ⟨w5, rfl⟩ : ∃ x : World, x = wc := ⟨_, rfl⟩
              go_wp2_with (at_builtin; refine wpList_append_any _ rfl (.tmp 80) (.tmp 83) 22 rfl w3.heap.size 44 i0 _ 2 24 Try.underlying22 HI.out.1 HI.out.2.1 HI.out.2.2.1 HI.out.2.2.2 rfl (by decide) _ (jj + 1) (cl (zs.take jj ++ [(s, now + span)])) rfl O5.out FX (kk - jj) (c - jj) (cl (zs.drop jj)) rfl S5.out (by unfold maxLen; omega) (by omega) B5b.out.size ?_; intro v6 w6 hgr; have B6 := Lib.hid (hgr.below B5b.out O5.out); have O6 := Lib.hid hgr.own; clear hgr)
              go_ret2
              have e1 := HZ2.out
              have e2 := HZl.out
              have h6 := O6.out
              rw [← cl_append, List.append_assoc, List.singleton_append, ← HZ2.out, show jj + 1 + (kk - jj) = kk + 1 by omega, ← HZl.out] at h6
              obtain ⟨A6, c6, rfl, hT6, _⟩ := Tps.ofOwn h6 (by rw [e1, e2, List.length_append, List.length_take, List.length_cons, List.length_drop, HL.out]; omega) (by omega) HFit.out
              exact ⟨A6, c6, rfl, hT6, B3.out.trans (B6.out.mono B3.out.size)⟩
          · have hjz : ¬ (jj : Int) < (kk : Int) := by omega
            clear hpl
            go_upto_region 16 with (fail)
            obtain ⟨bx, hbx⟩ : ∃ bx, bx = w.heap.size := ⟨_, rfl⟩
            rw [← hbx] at X3
            simp only [← hbx]
            clear hbx
            go_cut [11] from 72 to 79 (fun s11 wx => wx.ownsRow w3.heap.size 44 2 s11 (jj + 1) (cl (zs.take jj ++ [(s, now + span)])) ∧ Below w3.heap.size w3 wx)
            case first =>
              refine wp_region_held_drew (S := (fun w' => Blk w' bx [.string s, .int .i64 (now + span)] 44 ∧ Below w3.heap.size w3 w')) (by kernel_rfl) (⟨X3.out.drew, (Below.refl _ _).drew⟩) (fun hH0 => ?_)
              generalize w3.drew = y0 at hH0 ⊢
              have RX0 : Hid (Blk y0 bx [.string s, .int .i64 (now + span)] 44) := Lib.hid hH0.1
              have RB0 : Hid (Below w3.heap.size w3 y0) := Lib.hid hH0.2
              refine wpAnyH_take (i := 1) (oi := ({ dst := some 73, op := Op.move (Operand.tmp 0), type := 22, pos := "ref.go:45", after := #[], guard := none } : Oper)) (v := ?hv7) rfl (by kernel_rfl) (by kernel_rfl) (by kernel_rfl) (fun _ _ _ h => h) (Or.inl ⟨by rfl, ?hy7⟩) (by assumption) ?hr7
              case hy7 => (intro w hSw; (try dsimp only at hSw); go_simp; (try with_reducible rfl))
              try simp only [Act.put, List.setIfInBounds_toArray, List.set_cons_zero, List.set_cons_succ]
              refine wpAnyH_take (i := 2) (oi := ({ dst := some 74, op := Op.move (Operand.tmp 13), type := 3, pos := "ref.go:45", after := #[], guard := none } : Oper)) (v := ?hv8) rfl (by kernel_rfl) (by kernel_rfl) (by kernel_rfl) (fun _ _ _ h => h) (Or.inl ⟨by rfl, ?hy8⟩) (by assumption) ?hr8
              case hy8 => (intro w hSw; (try dsimp only at hSw); go_simp; (try with_reducible rfl))
              try simp only [Act.put, List.setIfInBounds_toArray, List.set_cons_zero, List.set_cons_succ]
              refine wpAnyH_take (i := 3) (oi := ({ dst := some 75, op := Op.slice 22 (Operand.tmp 73) none (some (Operand.tmp 74)) none, type := 22, pos := "ref.go:45", after := #[{ on := 1, ground := Ground.data }, { on := 2, ground := Ground.data }], guard := none } : Oper)) (v := ?hv9) rfl (by kernel_rfl) (by kernel_rfl) (by kernel_rfl) (fun _ _ _ h => h) (Or.inl ⟨by rfl, ?hy9⟩) (by assumption) ?hr9
              case hy9 => (intro w hSw; (try dsimp only at hSw); go_simp; (try with_reducible rfl))
              try simp only [Act.put, List.setIfInBounds_toArray, List.set_cons_zero, List.set_cons_succ]
              refine wpAnyH_take (i := 5) (oi := ({ dst := some 77, op := Op.load 44 (Operand.tmp 10), type := 44, pos := "ref.go:45", after := #[], guard := none } : Oper)) (v := .agg #[.string s, .int .i64 (now + span)]) rfl (by kernel_rfl) (by kernel_rfl) (by kernel_rfl) (fun _ _ _ h => h) (yieldsIf_load_mid (by rfl) 44 _ rfl bx 0 rfl [.string s, .int .i64 (now + span)] _ (fun w hw => hw.1.range) Try.underlying44 rfl size44) (by assumption) ?_
              try simp only [Act.put, List.setIfInBounds_toArray, List.set_cons_zero, List.set_cons_succ]
              refine wpAnyH_ready (rs := [0, 6]) (by kernel_rfl) (by simp) ?_
              refine AllReadyH.cons (o := ({ dst := some 72, op := Op.buildSlice 22 0 #[], type := 22, pos := "ref.go:45", after := #[], guard := none } : Oper)) rfl (fun KK hKK => ?_) ?_
              · go_simp
                generalize hy1 : World.alloc _ _ = y1
                generalize hg0 : (World.heap y0).size = g0
                have RX1 : Hid (Blk y1 bx [.string s, .int .i64 (now + span)] 44) := Lib.hid (by rw [← hy1]; exact RX0.out.alloc _)
                have RB1 : Hid (Below w3.heap.size w3 y1) := Lib.hid (by rw [← hy1]; exact RB0.out.alloc RB0.out.size _)
                have RO1 : Hid (y1.ownsRow w3.heap.size 44 2 (.slice (some ⟨g0, 0, none⟩) 0 0) 0 []) := Lib.hid (by rw [← hy1, ← hg0]; exact World.ownsRow_made (base := w3.heap.size) (e := 44) (size := 2) _ #[] 0 RB0.out.size (by decide) (by simp))
                clear hy1 hg0
                refine hKK.out _ _ (⟨RX1.out, RB1.out⟩) (fun hH1 => ?_)
                clear hKK KK
                try simp only [Act.put, List.setIfInBounds_toArray, List.set_cons_zero, List.set_cons_succ]
                refine wpAnyH_ready (rs := [4, 6]) (by kernel_rfl) (by simp) ?_
                refine AllReadyH.cons (o := ({ dst := some 76, op := Op.call { callee := Callee.builtin Builtin.append, args := #[Operand.tmp 72, Operand.tmp 75], argTypes := #[22, 22] }, type := 22, pos := "ref.go:45", after := #[{ on := 0, ground := Ground.data }, { on := 3, ground := Ground.data }], guard := none } : Oper)) rfl (fun KK hKK => ?_) ?_
                · have RS := Lib.hid ((H.out.below (B3.out.trans (RB1.out.mono B3.out.size))).takeSrc HK.out)
                  refine step_append_any _ rfl (.tmp 72) (.tmp 75) 22 rfl w3.heap.size 44 i0 _ 2 24 Try.underlying22 HI.out.1 HI.out.2.1 HI.out.2.2.1 HI.out.2.2.2 rfl (by decide) (.slice (some ⟨g0, 0, none⟩) 0 0) 0 [] rfl RO1.out A jj c (cl (zs.take jj)) rfl RS.out (by unfold maxLen; omega) (by omega) RB1.out.size ?_
                  intro v4 y2 hgr
                  have RB2 : Hid (Below w3.heap.size w3 y2) := Lib.hid (hgr.below RB1.out RO1.out)
                  have RV2 := Lib.hid hgr.own
                  have RX2 : Hid (Blk y2 bx [.string s, .int .i64 (now + span)] 44) := Lib.hid (X3.out.below RB2.out)
                  clear hgr
                  refine hKK.out _ _ (⟨RX2.out, RB2.out⟩) (fun hH2 => ?_)
                  clear hKK KK
                  try simp only [Act.put, List.setIfInBounds_toArray, List.set_cons_zero, List.set_cons_succ]
                  refine wpAnyH_ready (rs := [6]) (by kernel_rfl) (by simp) ?_
                  refine AllReadyH.cons (o := ({ dst := some 78, op := Op.buildSlice 22 1 #[(0, Operand.tmp 77)], type := 22, pos := "ref.go:45", after := #[{ on := 5, ground := Ground.data }], guard := none } : Oper)) rfl (fun KK hKK => ?_) AllReadyH.nil
                  go_simp
                  generalize hy3 : World.alloc _ _ = y3
                  generalize hg6 : (World.heap y2).size = g4
                  have RX3 : Hid (Blk y3 bx [.string s, .int .i64 (now + span)] 44) := Lib.hid (by rw [← hy3]; exact RX2.out.alloc _)
                  have RB3 : Hid (Below w3.heap.size w3 y3) := Lib.hid (by rw [← hy3]; exact RB2.out.alloc RB2.out.size _)
                  have RG3 : Hid (Blk y3 g4 [.string s, .int .i64 (now + span)] 44) := Lib.hid (by rw [← hy3, ← hg6]; exact blk_new _ [.string s, .int .i64 (now + span)] 44)
                  have RV3 : Hid (y3.ownsRow w3.heap.size 44 2 v4 (0 + jj) ([] ++ cl (zs.take jj))) := Lib.hid (by rw [← hy3]; exact RV2.out.alloc _)
                  clear hy3 hg6
                  refine hKK.out _ _ (⟨RX3.out, RB3.out⟩) (fun hH3 => ?_)
                  clear hKK KK
                  try simp only [Act.put, List.setIfInBounds_toArray, List.set_cons_zero, List.set_cons_succ]
                  refine wpAnyH_ready (rs := [7]) (by kernel_rfl) (by simp) ?_
                  refine AllReadyH.cons (o := ({ dst := some 79, op := Op.call { callee := Callee.builtin Builtin.append, args := #[Operand.tmp 76, Operand.tmp 78], argTypes := #[22, 22] }, type := 22, pos := "ref.go:45", after := #[{ on := 4, ground := Ground.data }, { on := 6, ground := Ground.data }, { on := 4, ground := Ground.chain }], guard := none } : Oper)) rfl (fun KK hKK => ?_) AllReadyH.nil
                  refine step_append_any _ rfl (.tmp 76) (.tmp 78) 22 rfl w3.heap.size 44 i0 _ 2 24 Try.underlying22 HI.out.1 HI.out.2.1 HI.out.2.2.1 HI.out.2.2.2 rfl (by decide) v4 _ _ rfl RV3.out (some ⟨g4, 0, none⟩) 1 1 [.string s, .int .i64 (now + span)] rfl (blk_src (p := (s, now + span)) RG3.out) (by unfold maxLen; omega) (by omega) RB3.out.size ?_
                  intro v5 y4 hgr
                  have RB4 : Hid (Below w3.heap.size w3 y4) := Lib.hid (hgr.below RB3.out RV3.out)
                  have RX4 : Hid (Blk y4 bx [.string s, .int .i64 (now + span)] 44) := Lib.hid (X3.out.below RB4.out)
                  have RE : Hid (y4.ownsRow w3.heap.size 44 2 v5 (jj + 1) (cl (zs.take jj ++ [(s, now + span)]))) := Lib.hid (by have := hgr.own; rw [Nat.zero_add, List.nil_append, cl_snoc (zs.take jj) (s, now + span)] at this; exact this)
                  clear hgr
                  refine hKK.out _ _ (⟨RX4.out, RB4.out⟩) (fun hH4 => ?_)
                  clear hKK KK
                  try simp only [Act.put, List.setIfInBounds_toArray, List.set_cons_zero, List.set_cons_succ]
                  refine wpAnyH_take (i := 8) (oi := ({ dst := some 11, op := Op.assign (Operand.tmp 79), type := 22, pos := "ref.go:45", after := #[{ on := 7, ground := Ground.data }, { on := 7, ground := Ground.chain }, { on := 0, ground := Ground.phase }, { on := 1, ground := Ground.phase }, { on := 2, ground := Ground.phase }, { on := 3, ground := Ground.phase }, { on := 4, ground := Ground.phase }, { on := 5, ground := Ground.phase }, { on := 6, ground := Ground.phase }, { on := 7, ground := Ground.phase }], guard := none } : Oper)) (v := ?hv10) rfl (by kernel_rfl) (by kernel_rfl) (by kernel_rfl) (fun _ _ _ h => h) (Or.inl ⟨by rfl, ?hy10⟩) (by assumption) ?hr10
                  case hy10 => (intro w hSw; (try dsimp only at hSw); go_simp; (try with_reducible rfl))
                  try simp only [Act.put, List.setIfInBounds_toArray, List.set_cons_zero, List.set_cons_succ]
                  refine wpAnyH_done (by kernel_rfl) ?_ _
                  go_wp2
                  go_meet
                  exact ⟨RE.out, RB4.out⟩
                refine AllReadyH.cons (o := ({ dst := some 78, op := Op.buildSlice 22 1 #[(0, Operand.tmp 77)], type := 22, pos := "ref.go:45", after := #[{ on := 5, ground := Ground.data }], guard := none } : Oper)) rfl (fun KK hKK => ?_) AllReadyH.nil
                go_simp
                generalize hy2 : World.alloc _ _ = y2
                generalize hg6 : (World.heap y1).size = g4
                have RX2 : Hid (Blk y2 bx [.string s, .int .i64 (now + span)] 44) := Lib.hid (by rw [← hy2]; exact RX1.out.alloc _)
                have RB2 : Hid (Below w3.heap.size w3 y2) := Lib.hid (by rw [← hy2]; exact RB1.out.alloc RB1.out.size _)
                have RG2 : Hid (Blk y2 g4 [.string s, .int .i64 (now + span)] 44) := Lib.hid (by rw [← hy2, ← hg6]; exact blk_new _ [.string s, .int .i64 (now + span)] 44)
                have RO2 : Hid (y2.ownsRow w3.heap.size 44 2 (.slice (some ⟨g0, 0, none⟩) 0 0) 0 []) := Lib.hid (by rw [← hy2]; exact RO1.out.alloc _)
                have RN : g4 ≠ g0 := by have := (RO1.out.lt g0 rfl).2; omega
                clear hy2 hg6
                refine hKK.out _ _ (⟨RX2.out, RB2.out⟩) (fun hH2 => ?_)
                clear hKK KK
                try simp only [Act.put, List.setIfInBounds_toArray, List.set_cons_zero, List.set_cons_succ]
                refine wpAnyH_ready (rs := [4]) (by kernel_rfl) (by simp) ?_
                refine AllReadyH.cons (o := ({ dst := some 76, op := Op.call { callee := Callee.builtin Builtin.append, args := #[Operand.tmp 72, Operand.tmp 75], argTypes := #[22, 22] }, type := 22, pos := "ref.go:45", after := #[{ on := 0, ground := Ground.data }, { on := 3, ground := Ground.data }], guard := none } : Oper)) rfl (fun KK hKK => ?_) AllReadyH.nil
                have RS := Lib.hid ((H.out.below (B3.out.trans (RB2.out.mono B3.out.size))).takeSrc HK.out)
                refine step_append_any _ rfl (.tmp 72) (.tmp 75) 22 rfl w3.heap.size 44 i0 _ 2 24 Try.underlying22 HI.out.1 HI.out.2.1 HI.out.2.2.1 HI.out.2.2.2 rfl (by decide) (.slice (some ⟨g0, 0, none⟩) 0 0) 0 [] rfl RO2.out A jj c (cl (zs.take jj)) rfl RS.out (by unfold maxLen; omega) (by omega) RB2.out.size ?_
                intro v4 y3 hgr
                have RB3 : Hid (Below w3.heap.size w3 y3) := Lib.hid (hgr.below RB2.out RO2.out)
                have RV3 := Lib.hid hgr.own
                have RX3 : Hid (Blk y3 bx [.string s, .int .i64 (now + span)] 44) := Lib.hid (X3.out.below RB3.out)
                have RG3 : Hid (Blk y3 g4 [.string s, .int .i64 (now + span)] 44) := Lib.hid ⟨(hgr.grow.block g4 RG2.out.lt (by simp [Value.ownBlock]; omega)).trans RG2.out.heap⟩
                clear hgr
                refine hKK.out _ _ (⟨RX3.out, RB3.out⟩) (fun hH3 => ?_)
                clear hKK KK
                try simp only [Act.put, List.setIfInBounds_toArray, List.set_cons_zero, List.set_cons_succ]
                refine wpAnyH_ready (rs := [7]) (by kernel_rfl) (by simp) ?_
                refine AllReadyH.cons (o := ({ dst := some 79, op := Op.call { callee := Callee.builtin Builtin.append, args := #[Operand.tmp 76, Operand.tmp 78], argTypes := #[22, 22] }, type := 22, pos := "ref.go:45", after := #[{ on := 4, ground := Ground.data }, { on := 6, ground := Ground.data }, { on := 4, ground := Ground.chain }], guard := none } : Oper)) rfl (fun KK hKK => ?_) AllReadyH.nil
                refine step_append_any _ rfl (.tmp 76) (.tmp 78) 22 rfl w3.heap.size 44 i0 _ 2 24 Try.underlying22 HI.out.1 HI.out.2.1 HI.out.2.2.1 HI.out.2.2.2 rfl (by decide) v4 _ _ rfl RV3.out (some ⟨g4, 0, none⟩) 1 1 [.string s, .int .i64 (now + span)] rfl (blk_src (p := (s, now + span)) RG3.out) (by unfold maxLen; omega) (by omega) RB3.out.size ?_
                intro v5 y4 hgr
                have RB4 : Hid (Below w3.heap.size w3 y4) := Lib.hid (hgr.below RB3.out RV3.out)
                have RX4 : Hid (Blk y4 bx [.string s, .int .i64 (now + span)] 44) := Lib.hid (X3.out.below RB4.out)
                have RE : Hid (y4.ownsRow w3.heap.size 44 2 v5 (jj + 1) (cl (zs.take jj ++ [(s, now + span)]))) := Lib.hid (by have := hgr.own; rw [Nat.zero_add, List.nil_append, cl_snoc (zs.take jj) (s, now + span)] at this; exact this)
                clear hgr
                refine hKK.out _ _ (⟨RX4.out, RB4.out⟩) (fun hH4 => ?_)
                clear hKK KK
                try simp only [Act.put, List.setIfInBounds_toArray, List.set_cons_zero, List.set_cons_succ]
                refine wpAnyH_take (i := 8) (oi := ({ dst := some 11, op := Op.assign (Operand.tmp 79), type := 22, pos := "ref.go:45", after := #[{ on := 7, ground := Ground.data }, { on := 7, ground := Ground.chain }, { on := 0, ground := Ground.phase }, { on := 1, ground := Ground.phase }, { on := 2, ground := Ground.phase }, { on := 3, ground := Ground.phase }, { on := 4, ground := Ground.phase }, { on := 5, ground := Ground.phase }, { on := 6, ground := Ground.phase }, { on := 7, ground := Ground.phase }], guard := none } : Oper)) (v := ?hv11) rfl (by kernel_rfl) (by kernel_rfl) (by kernel_rfl) (fun _ _ _ h => h) (Or.inl ⟨by rfl, ?hy11⟩) (by assumption) ?hr11
                case hy11 => (intro w hSw; (try dsimp only at hSw); go_simp; (try with_reducible rfl))
                try simp only [Act.put, List.setIfInBounds_toArray, List.set_cons_zero, List.set_cons_succ]
                refine wpAnyH_done (by kernel_rfl) ?_ _
                go_wp2
                go_meet
                exact ⟨RE.out, RB4.out⟩
              refine AllReadyH.cons (o := ({ dst := some 78, op := Op.buildSlice 22 1 #[(0, Operand.tmp 77)], type := 22, pos := "ref.go:45", after := #[{ on := 5, ground := Ground.data }], guard := none } : Oper)) rfl (fun KK hKK => ?_) AllReadyH.nil
              go_simp
              generalize hy1 : World.alloc _ _ = y1
              generalize hg6 : (World.heap y0).size = g4
              have RX1 : Hid (Blk y1 bx [.string s, .int .i64 (now + span)] 44) := Lib.hid (by rw [← hy1]; exact RX0.out.alloc _)
              have RB1 : Hid (Below w3.heap.size w3 y1) := Lib.hid (by rw [← hy1]; exact RB0.out.alloc RB0.out.size _)
              have RG1 : Hid (Blk y1 g4 [.string s, .int .i64 (now + span)] 44) := Lib.hid (by rw [← hy1, ← hg6]; exact blk_new _ [.string s, .int .i64 (now + span)] 44)
              clear hy1 hg6
              refine hKK.out _ _ (⟨RX1.out, RB1.out⟩) (fun hH1 => ?_)
              clear hKK KK
              try simp only [Act.put, List.setIfInBounds_toArray, List.set_cons_zero, List.set_cons_succ]
              refine wpAnyH_ready (rs := [0]) (by kernel_rfl) (by simp) ?_
              refine AllReadyH.cons (o := ({ dst := some 72, op := Op.buildSlice 22 0 #[], type := 22, pos := "ref.go:45", after := #[], guard := none } : Oper)) rfl (fun KK hKK => ?_) AllReadyH.nil
              go_simp
              generalize hy2 : World.alloc _ _ = y2
              generalize hg0 : (World.heap y1).size = g0
              have RX2 : Hid (Blk y2 bx [.string s, .int .i64 (now + span)] 44) := Lib.hid (by rw [← hy2]; exact RX1.out.alloc _)
              have RB2 : Hid (Below w3.heap.size w3 y2) := Lib.hid (by rw [← hy2]; exact RB1.out.alloc RB1.out.size _)
              have RO2 : Hid (y2.ownsRow w3.heap.size 44 2 (.slice (some ⟨g0, 0, none⟩) 0 0) 0 []) := Lib.hid (by rw [← hy2, ← hg0]; exact World.ownsRow_made (base := w3.heap.size) (e := 44) (size := 2) _ #[] 0 RB1.out.size (by decide) (by simp))
              have RG2 : Hid (Blk y2 g4 [.string s, .int .i64 (now + span)] 44) := Lib.hid (by rw [← hy2]; exact RG1.out.alloc _)
              have RN : g4 ≠ g0 := by have := RG1.out.lt; omega
              clear hy2 hg0
              refine hKK.out _ _ (⟨RX2.out, RB2.out⟩) (fun hH2 => ?_)
              clear hKK KK
              try simp only [Act.put, List.setIfInBounds_toArray, List.set_cons_zero, List.set_cons_succ]
              refine wpAnyH_ready (rs := [4]) (by kernel_rfl) (by simp) ?_
              refine AllReadyH.cons (o := ({ dst := some 76, op := Op.call { callee := Callee.builtin Builtin.append, args := #[Operand.tmp 72, Operand.tmp 75], argTypes := #[22, 22] }, type := 22, pos := "ref.go:45", after := #[{ on := 0, ground := Ground.data }, { on := 3, ground := Ground.data }], guard := none } : Oper)) rfl (fun KK hKK => ?_) AllReadyH.nil
              have RS := Lib.hid ((H.out.below (B3.out.trans (RB2.out.mono B3.out.size))).takeSrc HK.out)
              refine step_append_any _ rfl (.tmp 72) (.tmp 75) 22 rfl w3.heap.size 44 i0 _ 2 24 Try.underlying22 HI.out.1 HI.out.2.1 HI.out.2.2.1 HI.out.2.2.2 rfl (by decide) (.slice (some ⟨g0, 0, none⟩) 0 0) 0 [] rfl RO2.out A jj c (cl (zs.take jj)) rfl RS.out (by unfold maxLen; omega) (by omega) RB2.out.size ?_
              intro v4 y3 hgr
              have RB3 : Hid (Below w3.heap.size w3 y3) := Lib.hid (hgr.below RB2.out RO2.out)
              have RV3 := Lib.hid hgr.own
              have RX3 : Hid (Blk y3 bx [.string s, .int .i64 (now + span)] 44) := Lib.hid (X3.out.below RB3.out)
              have RG3 : Hid (Blk y3 g4 [.string s, .int .i64 (now + span)] 44) := Lib.hid ⟨(hgr.grow.block g4 RG2.out.lt (by simp [Value.ownBlock]; omega)).trans RG2.out.heap⟩
              clear hgr
              refine hKK.out _ _ (⟨RX3.out, RB3.out⟩) (fun hH3 => ?_)
              clear hKK KK
              try simp only [Act.put, List.setIfInBounds_toArray, List.set_cons_zero, List.set_cons_succ]
              refine wpAnyH_ready (rs := [7]) (by kernel_rfl) (by simp) ?_
              refine AllReadyH.cons (o := ({ dst := some 79, op := Op.call { callee := Callee.builtin Builtin.append, args := #[Operand.tmp 76, Operand.tmp 78], argTypes := #[22, 22] }, type := 22, pos := "ref.go:45", after := #[{ on := 4, ground := Ground.data }, { on := 6, ground := Ground.data }, { on := 4, ground := Ground.chain }], guard := none } : Oper)) rfl (fun KK hKK => ?_) AllReadyH.nil
              refine step_append_any _ rfl (.tmp 76) (.tmp 78) 22 rfl w3.heap.size 44 i0 _ 2 24 Try.underlying22 HI.out.1 HI.out.2.1 HI.out.2.2.1 HI.out.2.2.2 rfl (by decide) v4 _ _ rfl RV3.out (some ⟨g4, 0, none⟩) 1 1 [.string s, .int .i64 (now + span)] rfl (blk_src (p := (s, now + span)) RG3.out) (by unfold maxLen; omega) (by omega) RB3.out.size ?_
              intro v5 y4 hgr
              have RB4 : Hid (Below w3.heap.size w3 y4) := Lib.hid (hgr.below RB3.out RV3.out)
              have RX4 : Hid (Blk y4 bx [.string s, .int .i64 (now + span)] 44) := Lib.hid (X3.out.below RB4.out)
              have RE : Hid (y4.ownsRow w3.heap.size 44 2 v5 (jj + 1) (cl (zs.take jj ++ [(s, now + span)]))) := Lib.hid (by have := hgr.own; rw [Nat.zero_add, List.nil_append, cl_snoc (zs.take jj) (s, now + span)] at this; exact this)
              clear hgr
              refine hKK.out _ _ (⟨RX4.out, RB4.out⟩) (fun hH4 => ?_)
              clear hKK KK
              try simp only [Act.put, List.setIfInBounds_toArray, List.set_cons_zero, List.set_cons_succ]
              refine wpAnyH_take (i := 8) (oi := ({ dst := some 11, op := Op.assign (Operand.tmp 79), type := 22, pos := "ref.go:45", after := #[{ on := 7, ground := Ground.data }, { on := 7, ground := Ground.chain }, { on := 0, ground := Ground.phase }, { on := 1, ground := Ground.phase }, { on := 2, ground := Ground.phase }, { on := 3, ground := Ground.phase }, { on := 4, ground := Ground.phase }, { on := 5, ground := Ground.phase }, { on := 6, ground := Ground.phase }, { on := 7, ground := Ground.phase }], guard := none } : Oper)) (v := ?hv12) rfl (by kernel_rfl) (by kernel_rfl) (by kernel_rfl) (fun _ _ _ h => h) (Or.inl ⟨by rfl, ?hy12⟩) (by assumption) ?hr12
              case hy12 => (intro w hSw; (try dsimp only at hSw); go_simp; (try with_reducible rfl))
              try simp only [Act.put, List.setIfInBounds_toArray, List.set_cons_zero, List.set_cons_succ]
              refine wpAnyH_done (by kernel_rfl) ?_ _
              go_wp2
              go_meet
              exact ⟨RE.out, RB4.out⟩
            case rest =>
              obtain ⟨hO5, hB5⟩ := hcut
              have O5 := Lib.hid hO5
              have B5 := Lib.hid (B3.out.trans (hB5.mono B3.out.size))
              have B5b := Lib.hid hB5
              have S5 := Lib.hid (RFs.out _ (H.out.below B5.out))
              clear hO5 hB5
              obtain ⟨w5, rfl⟩ : ∃ x : World, x = wc := ⟨_, rfl⟩
              go_wp2_with (at_builtin; refine wpList_append_any _ rfl (.tmp 80) (.tmp 83) 22 rfl w3.heap.size 44 i0 _ 2 24 Try.underlying22 HI.out.1 HI.out.2.1 HI.out.2.2.1 HI.out.2.2.2 rfl (by decide) _ (jj + 1) (cl (zs.take jj ++ [(s, now + span)])) rfl O5.out FX (kk - jj) (c - jj) (cl (zs.drop jj)) rfl S5.out (by unfold maxLen; omega) (by omega) B5b.out.size ?_; intro v6 w6 hgr; have B6 := Lib.hid (hgr.below B5b.out O5.out); have O6 := Lib.hid hgr.own; clear hgr)
              go_ret2
              have e1 := HZ2.out
              have e2 := HZl.out
              have h6 := O6.out
              rw [← cl_append, List.append_assoc, List.singleton_append, ← HZ2.out, show jj + 1 + (kk - jj) = kk + 1 by omega, ← HZl.out] at h6
              obtain ⟨A6, c6, rfl, hT6, _⟩ := Tps.ofOwn h6 (by rw [e1, e2, List.length_append, List.length_take, List.length_cons, List.length_drop, HL.out]; omega) (by omega) HFit.out
              exact ⟨A6, c6, rfl, hT6, B3.out.trans (B6.out.mono B3.out.size)⟩
        · have hlt2 : jj < K := by omega
          have hjz : (jj : Int) < (kk : Int) := by omega
          have hjn : jj < kk := by omega
          obtain ⟨b, off, eA, hbl, k0, k1, _⟩ := (H.out.below B3.out).get hjn
          have hq := HQ.out jj hjn hjj
          rw [decide_eq_false e] at hq
          generalize zs.getD jj t0 = p at k0 k1 hq
          have ho : (Op.bytesLess p.1.toList s.toList || p.1.toList == s.toList) = true := by
            unfold pb at hq
            cases h1 : Op.bytesLess p.1.toList s.toList <;> cases h2 : (p.1.toList == s.toList) <;> simp [h1, h2] at hq ⊢
          clear hq e
          subst eA
          go_wp2
          go_roundg (kk - (jj + 1))
          case measure => omega
          case rel => exact ⟨jj + 1, by omega, by omega, by go_num, rfl⟩
end Go.Proofs.Ytjifohepbmaebaa
