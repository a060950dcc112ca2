/- Relations: reactions. Bound: a thousand events. -/
import Derived.Test.YtefajhfahnhcgaaV20
namespace Go.Proofs.Ytefajhfahnhcgaa
open Go Go.RowKit
open Go.Maps (Keyed)
set_option linter.unusedVariables false
set_option linter.unusedSimpArgs false

theorem own_any {w : World} {B n g cap : Nat} {xs : List Value} (h : w.ownsRow B 58 2 (.slice (some ⟨g, 0, none⟩) n cap) n xs) : ∃ cur, B ≤ g ∧ Blk w g cur 58 ∧ n ≤ cap ∧ cap * 2 = cur.length ∧ cur.take (n * 2) = xs := by
  rcases h.2 with ⟨hv, _⟩ | ⟨g', cap', cur, hv, hB, hg, hnc, hcm, hs, ht⟩
  · cases hv
  · simp only [Value.slice.injEq, Option.some.injEq, Addr.mk.injEq, and_true, true_and] at hv
    obtain ⟨rfl, rfl⟩ := hv
    exact ⟨cur.toList, hB, ⟨by rw [Array.toArray_toList]; exact hg⟩, hnc, by rw [Array.length_toList, hs], ht⟩
/-- The iterator's block is none of a row's. -/
theorem own_kept_iter {w w' : World} {B m M r n : Nat} {v : Value} {xs : List Value} {D : DataW Value} {left : Lit → Bool} {cnt : Nat} (h : w.ownsRow B 58 2 v m xs) (hr : w.ranges Try.prog 9 eI.R M r n D left cnt) (hg : w.grownBy w' (some r)) : w'.ownsRow B 58 2 v m xs := by
  refine h.kept hg (.inr fun e => ?_)
  rcases h.2 with ⟨rfl, _⟩ | ⟨g, cap, cur, rfl, _, hb, _⟩
  · cases e
  · obtain ⟨es, clock, since, seen, c0, _, _, _, _, hi, _⟩ := hr
    simp [Value.ownBlock] at e
    subst e
    rw [hb] at hi
    cases hi
theorem kept_own {w w' : World} {B m M r n : Nat} {v : Value} {xs : List Value} {D : DataW Value} {left : Lit → Bool} {cnt : Nat} (h : w.ownsRow B 58 2 v m xs) (hr : w.ranges Try.prog 9 eI.R M r n D left cnt) (hg : w.grownBy w' v.ownBlock) (hM : M < B) : w'.ranges Try.prog 9 eI.R M r n D left cnt := by
  refine hr.kept hg (fun e => ?_) (fun e => ?_)
  · have := (h.lt M e.symm).1
    omega
  · rcases h.2 with ⟨rfl, _⟩ | ⟨g, cap, cur, rfl, _, hb, _⟩
    · cases e
    · obtain ⟨es, clock, since, seen, c0, _, _, _, _, hi, _⟩ := hr
      simp [Value.ownBlock] at e
      subst e
      rw [hb] at hi
      cases hi
def mkc (q : ByteArray × Int) : Cn.Rc := ⟨q.1, q.2⟩
theorem srt_fin {zs : List Cn.Rc} (hs : ∀ i j, i < j → j < zs.length → ¬ Cn.ltC (zs.getD j Cn.t0) (zs.getD i Cn.t0)) (hd : zs.Pairwise (fun p q => p.tx ≠ q.tx)) : Cn.Srt zs := by
  unfold Cn.Srt
  rw [List.pairwise_iff_getElem] at hd ⊢
  intro i j hi hj hij
  have h1 := hs i j hij hj
  rw [Cn.getD_at hj, Cn.getD_at hi] at h1
  exact tri h1 (fun e => hd i j hi hj hij (eq_of_toList e).symm)
/-- The sorted entries of the map are the counts. -/
theorem fin_reac {ds : List (ByteArray × ByteArray)} {zs2 ys : List (ByteArray × Int)} {zs : List Cn.Rc} (hc : CntI ds zs2) (hp : ys.Perm zs2) (hq : zs.Perm (ys.map mkc)) (hs : ∀ i j, i < j → j < zs.length → ¬ Cn.ltC (zs.getD j Cn.t0) (zs.getD i Cn.t0)) (hd : ys.Pairwise (fun p q => p.1 ≠ q.1)) : zs = reac ds := by
  refine Cn.uniq (srt_fin hs ?_) (reac_ok ds).1 (fun p => ?_) (reac_ok ds).2
  · refine hq.symm.pairwise ?_ (fun {a b} h e => h e.symm)
    exact List.pairwise_map.2 (hd.imp fun {a b} h e => h e)
  · rw [hq.mem_iff, List.mem_map]
    constructor
    · rintro ⟨q, h1, rfl⟩
      exact (hc.mem q).1 (hp.mem_iff.1 h1)
    · intro h1
      exact ⟨(p.tx, p.n), hp.mem_iff.2 ((hc.mem (p.tx, p.n)).2 h1), rfl⟩
theorem info58 : (Try.prog.info? 58).map (fun i => (i.zero, i.size, i.bytes)) = some (some (.agg #[.string ⟨#[]⟩, .int .i64 0]), 2, 24) := by kernel_rfl
theorem blk_grown {w w1 : World} {t : Nat} {cs : List Value} {T : TypeId} {row : Option Nat} (h : Blk w t cs T) (hg : w.grownBy w1 row) (hne : some t ≠ row) : Blk w1 t cs T := ⟨(hg.block t h.lt hne).trans h.heap⟩
theorem seen_look {w : World} {M m : Nat} {zs : List ((ByteArray × ByteArray) × Bool)} {tx sd : ByteArray} (h : MK.MapA kPair eB w M m zs) (hk : tx.size ≤ maxLen ∧ sd.size ≤ maxLen) : (Instr.lookup 78 (.map (some M)) (.agg #[.string tx, .string sd]) false).run Try.prog w = .ok (.bool (MK.lookA false zs (tx, sd))) w := h.look under78 (a := (tx, sd)) hk
theorem cnt_look {w : World} {M m : Nat} {zs : List (ByteArray × Int)} {tx : ByteArray} (h : MK.MapA kT eI w M m zs) (hk : tx.size ≤ maxLen) : (Instr.lookup 79 (.map (some M)) (.string tx) false).run Try.prog w = .ok (.int .i64 (MK.lookA 0 zs tx)) w := h.look under79 (a := tx) (by unfold maxLen at hk; exact hk)
set_option maxRecDepth 100000 in
set_option maxHeartbeats 16000000 in
theorem reactions30 (A : Option Addr) (n c b off : Nat) (E : Nat → Me) (is : List Nat) (z : Int) (w : World) (h : Pes w A n c b off E is) (hn : n ≤ 1000) : Calls Try.prog 30 #[.slice A n c, .int .i64 z] w fun r w' => ∃ A' c', r = .returned (.slice A' (reac (dsK E is z n)).length c') ∧ Cn.Rcs w' A' (reac (dsK E is z n)).length c' (reac (dsK E is z n)) ∧ Below w.heap.size w w' ∧ ∀ b' o', A' = some ⟨b', o', none⟩ → w.heap.size ≤ b' := by
  have H := Lib.hid h
  have HL := Lib.hid h.len
  have S0 := Lib.hid ((MK.MapA.made (K := kPair) (E := eB) w).alloc (.map #[] 0))
  have M0 : Hid (MK.MapA kT eI ((w.alloc (.map #[] 0)).alloc (.map #[] 0)) (w.heap.size + 1) 0 []) := Lib.hid (by
    have := MK.MapA.made (K := kT) (E := eI) (w.alloc (.map #[] 0))
    rwa [World.size_alloc] at this)
  have B0 := Lib.hid (((Below.refl w.heap.size w).alloc (Nat.le_refl _) (.map #[] 0)).alloc (by simp) (.map #[] 0))
  have P0 := Lib.hid (h.below B0.out)
  clear h
  go_enter Try.func30, Try.ntmps30
  have hmm := @run_makeMap Try.prog
  go_wp2
  clear hmm
  go_loopg [8, 9, 17] n (fun gg _ _ s17 wr => ∃ (kk m1 m2 : Nat) (zs1 : List ((ByteArray × ByteArray) × Bool)) (zs2 : List (ByteArray × Int)), kk ≤ n ∧ n - kk ≤ gg ∧ m1 ≤ kk ∧ m2 ≤ kk ∧ s17 = .int .i64 (kk : Int) ∧ Hid (MK.MapA kPair eB wr w.heap.size m1 zs1) ∧ Hid (MK.MapA kT eI wr (w.heap.size + 1) m2 zs2) ∧ Hid (SeenI (dsK E is z kk) zs1) ∧ Hid (CntI (dsK E is z kk) zs2) ∧ Hid (Pes wr A n c b off E is) ∧ Hid (Below w.heap.size w wr))
  case atStart => exact ⟨0, 0, 0, [], [], Nat.zero_le _, by omega, Nat.le_refl _, Nat.le_refl _, rfl, S0, M0, Lib.hid SeenI.nil, Lib.hid CntI.nil, P0, B0⟩
  case round =>
    clear S0 M0 P0 B0
    obtain ⟨kk, m1, m2, zs1, zs2, hkk, hg, hm1, hm2, rfl, HS, HM, HI1, HI2, HP, BW⟩ := hrel
    by_cases hlt : kk < n
    · have hltz : (kk : Int) < (n : Int) := by omega
      have hk0 : (0 : Int) ≤ (kk : Int) := by omega
      obtain ⟨b1, o1, rfl, q0, hat⟩ := HP.out.get hlt
      have HRel := Lib.hid (fun u (hb : Below wr.heap.size wr u) => relationOf26 b (off + is.getD kk 0 * 29) (E (is.getD kk 0)) u (hat.below hb))
      have HTx := Lib.hid (fun u (hb : Below wr.heap.size wr u) => (hat.below hb).k10)
      have HSd := Lib.hid (fun u (hb : Below wr.heap.size wr u) => (hat.below hb).k2)
      have HOk := Lib.hid (And.intro hat.fit.bx hat.fit.bs)
      have HY := Lib.hid (fun h1 => dsK_yes (E := E) (is := is) (z := z) (k := kk) (by rw [HL.out]; exact hlt) h1)
      have HN := Lib.hid (fun h1 => dsK_no (E := E) (is := is) (z := z) (k := kk) (by rw [HL.out]; exact hlt) h1)
      have HQ := Lib.hid (show isR E 4 z (is.getD kk 0) = (decide (relK (E (is.getD kk 0)) = 4) && decide (relI (E (is.getD kk 0)) = z)) from rfl)
      unfold pv at q0
      clear hat
      generalize isR E 4 z (is.getD kk 0) = tt at HY HN HQ
      generalize relK (E (is.getD kk 0)) = rk at HQ HRel
      generalize relI (E (is.getD kk 0)) = ri at HQ HRel
      generalize (E (is.getD kk 0)).tx = tx at HTx HOk HY
      generalize (E (is.getD kk 0)).sd = sd at HSd HOk HY
      generalize is.getD kk 0 = i at q0 HTx HSd HRel
      by_cases c1 : rk = 4
      · by_cases c2 : ri = z
        · have hyes := HY.out (by rw [HQ.out, decide_eq_true c1, decide_eq_true c2]; rfl)
          unfold dstS at hyes
          subst c1 c2
          cases hsn : (dsK E is ri kk).any (fun q => decide (q = (tx, sd))) with
          | true =>
            have HT2 := Lib.hid (hyes.trans (if_pos hsn))
            have HSn := Lib.hid (show MK.lookA false zs1 (tx, sd) = true from (HI1.out (tx, sd)).trans hsn)
            clear hyes hsn HY HN HQ
            go_upto_region 6 with (fail)
            refine wp_region_held_drew (S := (fun y => Below wr.heap.size wr y)) (by kernel_rfl) ((Below.refl wr.heap.size wr).drew) (fun hH0 => ?_)
            generalize hy0 : World.drew _ = y0 at hH0 ⊢
            have RB0 : Hid (Below wr.heap.size wr y0) := Lib.hid hH0
            clear hy0
            refine wpAnyH_take (i := 0) (oi := ({ dst := some 21, op := Op.move (Operand.tmp 8), type := 62, pos := "relate.go:111", after := #[], guard := none } : Oper)) (v := ?hv9) rfl (by kernel_rfl) (by kernel_rfl) (by kernel_rfl) (fun _ _ _ h => h) (Or.inl ⟨by rfl, ?hy9⟩) (by assumption) ?hr9
            case hy9 => (intro w hSw; (try dsimp only at hSw); go_simp; (try with_reducible rfl))
            try simp only [Act.put, List.setIfInBounds_toArray, List.set_cons_zero, List.set_cons_succ]
            refine wpAnyH_take (i := 1) (oi := ({ dst := some 22, op := Op.nilCheck (Operand.tmp 21), type := 0, pos := "relate.go:111", after := #[{ on := 0, ground := Ground.data }], guard := none } : Oper)) (v := ?hv10) rfl (by kernel_rfl) (by kernel_rfl) (by kernel_rfl) (fun _ _ _ h => h) (Or.inl ⟨by rfl, ?hy10⟩) (by assumption) ?hr10
            case hy10 => (intro w hSw; (try dsimp only at hSw); go_simp; (try with_reducible rfl))
            try simp only [Act.put, List.setIfInBounds_toArray, List.set_cons_zero, List.set_cons_succ]
            refine wpAnyH_take (i := 2) (oi := ({ dst := some 23, op := Op.fieldAddr 34 (Operand.tmp 22) 10, type := 0, pos := "relate.go:111", after := #[{ on := 1, ground := Ground.data }], guard := none } : Oper)) (v := ?hv11) rfl (by kernel_rfl) (by kernel_rfl) (by kernel_rfl) (fun _ _ _ h => h) (Or.inl ⟨by rfl, ?hy11⟩) (by assumption) ?hr11
            case hy11 => (intro w hSw; (try dsimp only at hSw); go_simp; (try with_reducible rfl))
            try simp only [Act.put, List.setIfInBounds_toArray, List.set_cons_zero, List.set_cons_succ]
            refine wpAnyH_take (i := 3) (oi := ({ dst := some 24, op := Op.fieldAddr 30 (Operand.tmp 23) 0, type := 0, pos := "relate.go:111", after := #[{ on := 2, ground := Ground.data }], guard := none } : Oper)) (v := ?hv12) rfl (by kernel_rfl) (by kernel_rfl) (by kernel_rfl) (fun _ _ _ h => h) (Or.inl ⟨by rfl, ?hy12⟩) (by assumption) ?hr12
            case hy12 => (intro w hSw; (try dsimp only at hSw); go_simp; (try with_reducible rfl))
            try simp only [Act.put, List.setIfInBounds_toArray, List.set_cons_zero, List.set_cons_succ]
            refine wpAnyH_take (i := 4) (oi := ({ dst := some 25, op := Op.load 9 (Operand.tmp 24), type := 9, pos := "relate.go:111", after := #[{ on := 3, ground := Ground.data }], guard := none } : Oper)) (v := .string tx) rfl (by kernel_rfl) (by kernel_rfl) (by kernel_rfl) (fun _ _ _ h => h) (Or.inl ⟨by rfl, fun w0 hw0 => by have q0 := HTx.out w0 hw0; go_simp⟩) (by assumption) ?_
            try simp only [Act.put, List.setIfInBounds_toArray, List.set_cons_zero, List.set_cons_succ]
            refine wpAnyH_take (i := 5) (oi := ({ dst := some 26, op := Op.move (Operand.tmp 8), type := 62, pos := "relate.go:111", after := #[], guard := none } : Oper)) (v := ?hv13) rfl (by kernel_rfl) (by kernel_rfl) (by kernel_rfl) (fun _ _ _ h => h) (Or.inl ⟨by rfl, ?hy13⟩) (by assumption) ?hr13
            case hy13 => (intro w hSw; (try dsimp only at hSw); go_simp; (try with_reducible rfl))
            try simp only [Act.put, List.setIfInBounds_toArray, List.set_cons_zero, List.set_cons_succ]
            refine wpAnyH_take (i := 6) (oi := ({ dst := some 27, op := Op.nilCheck (Operand.tmp 26), type := 0, pos := "relate.go:111", after := #[{ on := 5, ground := Ground.data }], guard := none } : Oper)) (v := ?hv14) rfl (by kernel_rfl) (by kernel_rfl) (by kernel_rfl) (fun _ _ _ h => h) (Or.inl ⟨by rfl, ?hy14⟩) (by assumption) ?hr14
            case hy14 => (intro w hSw; (try dsimp only at hSw); go_simp; (try with_reducible rfl))
            try simp only [Act.put, List.setIfInBounds_toArray, List.set_cons_zero, List.set_cons_succ]
            refine wpAnyH_take (i := 7) (oi := ({ dst := some 28, op := Op.fieldAddr 34 (Operand.tmp 27) 2, type := 0, pos := "relate.go:111", after := #[{ on := 6, ground := Ground.data }], guard := none } : Oper)) (v := ?hv15) rfl (by kernel_rfl) (by kernel_rfl) (by kernel_rfl) (fun _ _ _ h => h) (Or.inl ⟨by rfl, ?hy15⟩) (by assumption) ?hr15
            case hy15 => (intro w hSw; (try dsimp only at hSw); go_simp; (try with_reducible rfl))
            try simp only [Act.put, List.setIfInBounds_toArray, List.set_cons_zero, List.set_cons_succ]
            refine wpAnyH_take (i := 8) (oi := ({ dst := some 29, op := Op.load 9 (Operand.tmp 28), type := 9, pos := "relate.go:111", after := #[{ on := 7, ground := Ground.data }], guard := none } : Oper)) (v := .string sd) rfl (by kernel_rfl) (by kernel_rfl) (by kernel_rfl) (fun _ _ _ h => h) (Or.inl ⟨by rfl, fun w0 hw0 => by have q0 := HSd.out w0 hw0; go_simp⟩) (by assumption) ?_
            try simp only [Act.put, List.setIfInBounds_toArray, List.set_cons_zero, List.set_cons_succ]
            refine wpAnyH_take (i := 9) (oi := ({ dst := some 30, op := Op.build 81 #[(0, Operand.tmp 25), (1, Operand.tmp 29)], type := 81, pos := "relate.go:111", after := #[{ on := 4, ground := Ground.data }, { on := 8, ground := Ground.data }], guard := none } : Oper)) (v := ?hv16) rfl (by kernel_rfl) (by kernel_rfl) (by kernel_rfl) (fun _ _ _ h => h) (Or.inl ⟨by rfl, ?hy16⟩) (by assumption) ?hr16
            case hy16 => (intro w hSw; (try dsimp only at hSw); go_simp; (try with_reducible rfl))
            try simp only [Act.put, List.setIfInBounds_toArray, List.set_cons_zero, List.set_cons_succ]
            refine wpAnyH_ready (rs := [10]) (by kernel_rfl) (by simp) ?_
            refine AllReadyH.cons (o := ({ dst := some 9, op := Op.alloc 81, type := 0, pos := "relate.go:111", after := #[], guard := none } : Oper)) rfl (fun KK hKK => ?_) AllReadyH.nil
            refine step_alloc_new rfl 81 rfl (rkC ⟨#[]⟩ ⟨#[]⟩) alloc81 ?_
            intro t y1 hx hb ht
            have XB1 := Lib.hid hx; have RB1 := Lib.hid (RB0.out.trans (hb.mono RB0.out.size)); have HT := Lib.hid (show wr.heap.size ≤ t from Nat.le_trans RB0.out.size ht)
            clear hx hb ht
            refine hKK.out _ _ (RB1.out) (fun hH1 => ?_)
            clear hKK KK
            try simp only [Act.put, List.setIfInBounds_toArray, List.set_cons_zero, List.set_cons_succ]
            refine wpAnyH_ready (rs := [11]) (by kernel_rfl) (by simp) ?_
            refine AllReadyH.cons (o := ({ dst := none, op := Op.store 81 (Operand.tmp 9) (Operand.tmp 30), type := 0, pos := "relate.go:111", after := #[{ on := 10, ground := Ground.data }, { on := 9, ground := Ground.data }, { on := 0, ground := Ground.phase }, { on := 1, ground := Ground.phase }, { on := 2, ground := Ground.phase }, { on := 3, ground := Ground.phase }, { on := 4, ground := Ground.phase }, { on := 5, ground := Ground.phase }, { on := 6, ground := Ground.phase }, { on := 7, ground := Ground.phase }, { on := 8, ground := Ground.phase }, { on := 9, ground := Ground.phase }, { on := 10, ground := Ground.phase }], guard := none } : Oper)) rfl (fun KK hKK => ?_) AllReadyH.nil
            refine step_store_blk rfl 81 _ _ rfl t (rkC ⟨#[]⟩ ⟨#[]⟩) 81 (rkC tx sd) rfl rfl XB1.out rfl size81 (by simp [Value.oneCell']) ?_
            intro y2 hb hp
            have XY := Lib.hid hb; have RB2 := Lib.hid (bel_put RB1.out hp HT.out)
            clear hb hp
            refine hKK.out _ _ (RB2.out) (fun hH2 => ?_)
            clear hKK KK
            try simp only [Act.put, List.setIfInBounds_toArray, List.set_cons_zero, List.set_cons_succ]
            refine wpAnyH_done (by kernel_rfl) ?_ _
            go_wp2_with (first
              | (go_at_call 26; (with_reducible refine (HRel.out _ RB2.out).mono ?_); rintro e1 w3 ⟨rfl, hb⟩; have C3 := Lib.hid (RB2.out.trans (hb.mono RB2.out.size)); have X3 := Lib.hid (XY.out.below hb); have p0 := X3.out.cell (i := 0) rfl; have p1 := X3.out.cell (i := 1) rfl; have S3 := Lib.hid (HS.out.below C3.out); have M3 := Lib.hid (HM.out.below C3.out); have B3 := Lib.hid (BW.out.trans (C3.out.mono BW.out.size)); have hlk := seen_look S3.out HOk.out; rw [HSn.out] at hlk; clear hb)
              | (refine load_mid_g (by rfl) 81 _ rfl t 0 rfl (rkC tx sd) _ X3.out.range Try.underlying81 rfl size81 ?_)
              | go_in)
            go_roundg (n - (kk + 1))
            case measure => omega
            case rel => exact ⟨kk + 1, m1, m2, zs1, zs2, by omega, by omega, by omega, by omega, by go_num, S3, M3, Lib.hid (by rw [HT2.out]; exact HI1.out), Lib.hid (by rw [HT2.out]; exact HI2.out), Lib.hid (HP.out.below C3.out), B3⟩
          | false =>
            have HT2 := Lib.hid (hyes.trans (if_neg (by rw [hsn]; decide)))
            have HSn := Lib.hid (show MK.lookA false zs1 (tx, sd) = false from (HI1.out (tx, sd)).trans hsn)
            have HCn := Lib.hid (HI2.out.look tx)
            have hcn0 := cntT_nn (dsK E is ri kk) tx
            have hcn1 := cntT_le (dsK E is ri kk) tx
            have hcn2 := dsK_len E is ri kk
            obtain ⟨cn, hcn⟩ : ∃ cn, cntT (dsK E is ri kk) tx = cn := ⟨_, rfl⟩
            have HCv := Lib.hid (HCn.out.trans hcn)
            have HCe := Lib.hid hcn
            rw [hcn] at hcn0 hcn1
            clear hyes hsn HY HN HQ hcn
            go_upto_region 6 with (fail)
            refine wp_region_held_drew (S := (fun y => Below wr.heap.size wr y)) (by kernel_rfl) ((Below.refl wr.heap.size wr).drew) (fun hH0 => ?_)
            generalize hy0 : World.drew _ = y0 at hH0 ⊢
            have RB0 : Hid (Below wr.heap.size wr y0) := Lib.hid hH0
            clear hy0
            refine wpAnyH_take (i := 0) (oi := ({ dst := some 21, op := Op.move (Operand.tmp 8), type := 62, pos := "relate.go:111", after := #[], guard := none } : Oper)) (v := ?hv1) rfl (by kernel_rfl) (by kernel_rfl) (by kernel_rfl) (fun _ _ _ h => h) (Or.inl ⟨by rfl, ?hy1⟩) (by assumption) ?hr1
            case hy1 => (intro w hSw; (try dsimp only at hSw); go_simp; (try with_reducible rfl))
            try simp only [Act.put, List.setIfInBounds_toArray, List.set_cons_zero, List.set_cons_succ]
            refine wpAnyH_take (i := 1) (oi := ({ dst := some 22, op := Op.nilCheck (Operand.tmp 21), type := 0, pos := "relate.go:111", after := #[{ on := 0, ground := Ground.data }], guard := none } : Oper)) (v := ?hv2) rfl (by kernel_rfl) (by kernel_rfl) (by kernel_rfl) (fun _ _ _ h => h) (Or.inl ⟨by rfl, ?hy2⟩) (by assumption) ?hr2
            case hy2 => (intro w hSw; (try dsimp only at hSw); go_simp; (try with_reducible rfl))
            try simp only [Act.put, List.setIfInBounds_toArray, List.set_cons_zero, List.set_cons_succ]
            refine wpAnyH_take (i := 2) (oi := ({ dst := some 23, op := Op.fieldAddr 34 (Operand.tmp 22) 10, type := 0, pos := "relate.go:111", after := #[{ on := 1, ground := Ground.data }], guard := none } : Oper)) (v := ?hv3) rfl (by kernel_rfl) (by kernel_rfl) (by kernel_rfl) (fun _ _ _ h => h) (Or.inl ⟨by rfl, ?hy3⟩) (by assumption) ?hr3
            case hy3 => (intro w hSw; (try dsimp only at hSw); go_simp; (try with_reducible rfl))
            try simp only [Act.put, List.setIfInBounds_toArray, List.set_cons_zero, List.set_cons_succ]
            refine wpAnyH_take (i := 3) (oi := ({ dst := some 24, op := Op.fieldAddr 30 (Operand.tmp 23) 0, type := 0, pos := "relate.go:111", after := #[{ on := 2, ground := Ground.data }], guard := none } : Oper)) (v := ?hv4) rfl (by kernel_rfl) (by kernel_rfl) (by kernel_rfl) (fun _ _ _ h => h) (Or.inl ⟨by rfl, ?hy4⟩) (by assumption) ?hr4
            case hy4 => (intro w hSw; (try dsimp only at hSw); go_simp; (try with_reducible rfl))
            try simp only [Act.put, List.setIfInBounds_toArray, List.set_cons_zero, List.set_cons_succ]
            refine wpAnyH_take (i := 4) (oi := ({ dst := some 25, op := Op.load 9 (Operand.tmp 24), type := 9, pos := "relate.go:111", after := #[{ on := 3, ground := Ground.data }], guard := none } : Oper)) (v := .string tx) rfl (by kernel_rfl) (by kernel_rfl) (by kernel_rfl) (fun _ _ _ h => h) (Or.inl ⟨by rfl, fun w0 hw0 => by have q0 := HTx.out w0 hw0; go_simp⟩) (by assumption) ?_
            try simp only [Act.put, List.setIfInBounds_toArray, List.set_cons_zero, List.set_cons_succ]
            refine wpAnyH_take (i := 5) (oi := ({ dst := some 26, op := Op.move (Operand.tmp 8), type := 62, pos := "relate.go:111", after := #[], guard := none } : Oper)) (v := ?hv5) rfl (by kernel_rfl) (by kernel_rfl) (by kernel_rfl) (fun _ _ _ h => h) (Or.inl ⟨by rfl, ?hy5⟩) (by assumption) ?hr5
            case hy5 => (intro w hSw; (try dsimp only at hSw); go_simp; (try with_reducible rfl))
            try simp only [Act.put, List.setIfInBounds_toArray, List.set_cons_zero, List.set_cons_succ]
            refine wpAnyH_take (i := 6) (oi := ({ dst := some 27, op := Op.nilCheck (Operand.tmp 26), type := 0, pos := "relate.go:111", after := #[{ on := 5, ground := Ground.data }], guard := none } : Oper)) (v := ?hv6) rfl (by kernel_rfl) (by kernel_rfl) (by kernel_rfl) (fun _ _ _ h => h) (Or.inl ⟨by rfl, ?hy6⟩) (by assumption) ?hr6
            case hy6 => (intro w hSw; (try dsimp only at hSw); go_simp; (try with_reducible rfl))
            try simp only [Act.put, List.setIfInBounds_toArray, List.set_cons_zero, List.set_cons_succ]
            refine wpAnyH_take (i := 7) (oi := ({ dst := some 28, op := Op.fieldAddr 34 (Operand.tmp 27) 2, type := 0, pos := "relate.go:111", after := #[{ on := 6, ground := Ground.data }], guard := none } : Oper)) (v := ?hv7) rfl (by kernel_rfl) (by kernel_rfl) (by kernel_rfl) (fun _ _ _ h => h) (Or.inl ⟨by rfl, ?hy7⟩) (by assumption) ?hr7
            case hy7 => (intro w hSw; (try dsimp only at hSw); go_simp; (try with_reducible rfl))
            try simp only [Act.put, List.setIfInBounds_toArray, List.set_cons_zero, List.set_cons_succ]
            refine wpAnyH_take (i := 8) (oi := ({ dst := some 29, op := Op.load 9 (Operand.tmp 28), type := 9, pos := "relate.go:111", after := #[{ on := 7, ground := Ground.data }], guard := none } : Oper)) (v := .string sd) rfl (by kernel_rfl) (by kernel_rfl) (by kernel_rfl) (fun _ _ _ h => h) (Or.inl ⟨by rfl, fun w0 hw0 => by have q0 := HSd.out w0 hw0; go_simp⟩) (by assumption) ?_
            try simp only [Act.put, List.setIfInBounds_toArray, List.set_cons_zero, List.set_cons_succ]
            refine wpAnyH_take (i := 9) (oi := ({ dst := some 30, op := Op.build 81 #[(0, Operand.tmp 25), (1, Operand.tmp 29)], type := 81, pos := "relate.go:111", after := #[{ on := 4, ground := Ground.data }, { on := 8, ground := Ground.data }], guard := none } : Oper)) (v := ?hv8) rfl (by kernel_rfl) (by kernel_rfl) (by kernel_rfl) (fun _ _ _ h => h) (Or.inl ⟨by rfl, ?hy8⟩) (by assumption) ?hr8
            case hy8 => (intro w hSw; (try dsimp only at hSw); go_simp; (try with_reducible rfl))
            try simp only [Act.put, List.setIfInBounds_toArray, List.set_cons_zero, List.set_cons_succ]
            refine wpAnyH_ready (rs := [10]) (by kernel_rfl) (by simp) ?_
            refine AllReadyH.cons (o := ({ dst := some 9, op := Op.alloc 81, type := 0, pos := "relate.go:111", after := #[], guard := none } : Oper)) rfl (fun KK hKK => ?_) AllReadyH.nil
            refine step_alloc_new rfl 81 rfl (rkC ⟨#[]⟩ ⟨#[]⟩) alloc81 ?_
            intro t y1 hx hb ht
            have XB1 := Lib.hid hx; have RB1 := Lib.hid (RB0.out.trans (hb.mono RB0.out.size)); have HT := Lib.hid (show wr.heap.size ≤ t from Nat.le_trans RB0.out.size ht)
            clear hx hb ht
            refine hKK.out _ _ (RB1.out) (fun hH1 => ?_)
            clear hKK KK
            try simp only [Act.put, List.setIfInBounds_toArray, List.set_cons_zero, List.set_cons_succ]
            refine wpAnyH_ready (rs := [11]) (by kernel_rfl) (by simp) ?_
            refine AllReadyH.cons (o := ({ dst := none, op := Op.store 81 (Operand.tmp 9) (Operand.tmp 30), type := 0, pos := "relate.go:111", after := #[{ on := 10, ground := Ground.data }, { on := 9, ground := Ground.data }, { on := 0, ground := Ground.phase }, { on := 1, ground := Ground.phase }, { on := 2, ground := Ground.phase }, { on := 3, ground := Ground.phase }, { on := 4, ground := Ground.phase }, { on := 5, ground := Ground.phase }, { on := 6, ground := Ground.phase }, { on := 7, ground := Ground.phase }, { on := 8, ground := Ground.phase }, { on := 9, ground := Ground.phase }, { on := 10, ground := Ground.phase }], guard := none } : Oper)) rfl (fun KK hKK => ?_) AllReadyH.nil
            refine step_store_blk rfl 81 _ _ rfl t (rkC ⟨#[]⟩ ⟨#[]⟩) 81 (rkC tx sd) rfl rfl XB1.out rfl size81 (by simp [Value.oneCell']) ?_
            intro y2 hb hp
            have XY := Lib.hid hb; have RB2 := Lib.hid (bel_put RB1.out hp HT.out)
            clear hb hp
            refine hKK.out _ _ (RB2.out) (fun hH2 => ?_)
            clear hKK KK
            try simp only [Act.put, List.setIfInBounds_toArray, List.set_cons_zero, List.set_cons_succ]
            refine wpAnyH_done (by kernel_rfl) ?_ _
            go_wp2_with (first
              | (go_at_call 26; (with_reducible refine (HRel.out _ RB2.out).mono ?_); rintro e1 w3 ⟨rfl, hb⟩; have C3 := Lib.hid (RB2.out.trans (hb.mono RB2.out.size)); have X3 := Lib.hid (XY.out.below hb); have p0 := X3.out.cell (i := 0) rfl; have p1 := X3.out.cell (i := 1) rfl; have S3 := Lib.hid (HS.out.below C3.out); have M3 := Lib.hid (HM.out.below C3.out); have B3 := Lib.hid (BW.out.trans (C3.out.mono BW.out.size)); have hlk := seen_look S3.out HOk.out; rw [HSn.out] at hlk; clear hb)
              | (refine load_mid_g (by rfl) 81 _ rfl t 0 rfl (rkC tx sd) _ X3.out.range Try.underlying81 rfl size81 ?_)
              | (at_mapUpdate; refine MK.wpList_putA rfl _ _ _ 78 rfl under78 w.heap.size m1 zs1 rfl S3.out (by omega) (tx, sd) true HOk.out trivial rfl rfl ?_; intro w4 hm4 hg4; have S4 := Lib.hid hm4; have M4 := Lib.hid (M3.out.grown hg4 (by simp)); have B4 := Lib.hid (below_put B3.out hg4 (Nat.le_refl _)); have X4 := Lib.hid (blk_grown X3.out hg4 (by have := HT.out; have := BW.out.size; have := HS.out.lt; simp; omega)); have r0 := X4.out.cell (i := 0) rfl; have r1 := X4.out.cell (i := 1) rfl; have hlc := cnt_look M4.out HOk.out.1; rw [HCv.out] at hlc; clear hm4 hg4 p0 p1 hlk)
              | (at_mapUpdate; refine MK.wpList_putA rfl _ _ _ 79 rfl under79 (w.heap.size + 1) m2 zs2 rfl M4.out (by omega) tx (cn + 1) HOk.out.1 trivial rfl ?_ ?_; (go_num); intro w5 hm5 hg5; have M5 := Lib.hid hm5; have S5 := Lib.hid (S4.out.grown hg5 (by simp)); have B5 := Lib.hid (below_put B4.out hg5 (Nat.le_succ _)); clear hm5 hg5 hlc)
              | go_in)
            go_roundg (n - (kk + 1))
            case measure => omega
            case rel => exact ⟨kk + 1, m1 + 1, m2 + 1, _, _, by omega, by omega, by omega, by omega, by go_num, S5, M5, Lib.hid (by rw [HT2.out]; exact HI1.out.put (tx, sd)), Lib.hid (by rw [HT2.out, ← HCe.out]; exact HI2.out.put (tx, sd)), Lib.hid (H.out.below B5.out), B5⟩
        · have HT2 := Lib.hid (HN.out (by rw [HQ.out, decide_eq_false c2, Bool.and_false]))
          have z2 : (ri == z) = false := beq_eq_false_iff_ne.2 c2
          subst c1
          clear HY HN HQ
          go_upto_region 6 with (fail)
          refine wp_region_held_drew (S := (fun y => Below wr.heap.size wr y)) (by kernel_rfl) ((Below.refl wr.heap.size wr).drew) (fun hH0 => ?_)
          generalize hy0 : World.drew _ = y0 at hH0 ⊢
          have RB0 : Hid (Below wr.heap.size wr y0) := Lib.hid hH0
          clear hy0
          refine wpAnyH_take (i := 0) (oi := ({ dst := some 21, op := Op.move (Operand.tmp 8), type := 62, pos := "relate.go:111", after := #[], guard := none } : Oper)) (v := ?hv17) rfl (by kernel_rfl) (by kernel_rfl) (by kernel_rfl) (fun _ _ _ h => h) (Or.inl ⟨by rfl, ?hy17⟩) (by assumption) ?hr17
          case hy17 => (intro w hSw; (try dsimp only at hSw); go_simp; (try with_reducible rfl))
          try simp only [Act.put, List.setIfInBounds_toArray, List.set_cons_zero, List.set_cons_succ]
          refine wpAnyH_take (i := 1) (oi := ({ dst := some 22, op := Op.nilCheck (Operand.tmp 21), type := 0, pos := "relate.go:111", after := #[{ on := 0, ground := Ground.data }], guard := none } : Oper)) (v := ?hv18) rfl (by kernel_rfl) (by kernel_rfl) (by kernel_rfl) (fun _ _ _ h => h) (Or.inl ⟨by rfl, ?hy18⟩) (by assumption) ?hr18
          case hy18 => (intro w hSw; (try dsimp only at hSw); go_simp; (try with_reducible rfl))
          try simp only [Act.put, List.setIfInBounds_toArray, List.set_cons_zero, List.set_cons_succ]
          refine wpAnyH_take (i := 2) (oi := ({ dst := some 23, op := Op.fieldAddr 34 (Operand.tmp 22) 10, type := 0, pos := "relate.go:111", after := #[{ on := 1, ground := Ground.data }], guard := none } : Oper)) (v := ?hv19) rfl (by kernel_rfl) (by kernel_rfl) (by kernel_rfl) (fun _ _ _ h => h) (Or.inl ⟨by rfl, ?hy19⟩) (by assumption) ?hr19
          case hy19 => (intro w hSw; (try dsimp only at hSw); go_simp; (try with_reducible rfl))
          try simp only [Act.put, List.setIfInBounds_toArray, List.set_cons_zero, List.set_cons_succ]
          refine wpAnyH_take (i := 3) (oi := ({ dst := some 24, op := Op.fieldAddr 30 (Operand.tmp 23) 0, type := 0, pos := "relate.go:111", after := #[{ on := 2, ground := Ground.data }], guard := none } : Oper)) (v := ?hv20) rfl (by kernel_rfl) (by kernel_rfl) (by kernel_rfl) (fun _ _ _ h => h) (Or.inl ⟨by rfl, ?hy20⟩) (by assumption) ?hr20
          case hy20 => (intro w hSw; (try dsimp only at hSw); go_simp; (try with_reducible rfl))
          try simp only [Act.put, List.setIfInBounds_toArray, List.set_cons_zero, List.set_cons_succ]
          refine wpAnyH_take (i := 4) (oi := ({ dst := some 25, op := Op.load 9 (Operand.tmp 24), type := 9, pos := "relate.go:111", after := #[{ on := 3, ground := Ground.data }], guard := none } : Oper)) (v := .string tx) rfl (by kernel_rfl) (by kernel_rfl) (by kernel_rfl) (fun _ _ _ h => h) (Or.inl ⟨by rfl, fun w0 hw0 => by have q0 := HTx.out w0 hw0; go_simp⟩) (by assumption) ?_
          try simp only [Act.put, List.setIfInBounds_toArray, List.set_cons_zero, List.set_cons_succ]
          refine wpAnyH_take (i := 5) (oi := ({ dst := some 26, op := Op.move (Operand.tmp 8), type := 62, pos := "relate.go:111", after := #[], guard := none } : Oper)) (v := ?hv21) rfl (by kernel_rfl) (by kernel_rfl) (by kernel_rfl) (fun _ _ _ h => h) (Or.inl ⟨by rfl, ?hy21⟩) (by assumption) ?hr21
          case hy21 => (intro w hSw; (try dsimp only at hSw); go_simp; (try with_reducible rfl))
          try simp only [Act.put, List.setIfInBounds_toArray, List.set_cons_zero, List.set_cons_succ]
          refine wpAnyH_take (i := 6) (oi := ({ dst := some 27, op := Op.nilCheck (Operand.tmp 26), type := 0, pos := "relate.go:111", after := #[{ on := 5, ground := Ground.data }], guard := none } : Oper)) (v := ?hv22) rfl (by kernel_rfl) (by kernel_rfl) (by kernel_rfl) (fun _ _ _ h => h) (Or.inl ⟨by rfl, ?hy22⟩) (by assumption) ?hr22
          case hy22 => (intro w hSw; (try dsimp only at hSw); go_simp; (try with_reducible rfl))
          try simp only [Act.put, List.setIfInBounds_toArray, List.set_cons_zero, List.set_cons_succ]
          refine wpAnyH_take (i := 7) (oi := ({ dst := some 28, op := Op.fieldAddr 34 (Operand.tmp 27) 2, type := 0, pos := "relate.go:111", after := #[{ on := 6, ground := Ground.data }], guard := none } : Oper)) (v := ?hv23) rfl (by kernel_rfl) (by kernel_rfl) (by kernel_rfl) (fun _ _ _ h => h) (Or.inl ⟨by rfl, ?hy23⟩) (by assumption) ?hr23
          case hy23 => (intro w hSw; (try dsimp only at hSw); go_simp; (try with_reducible rfl))
          try simp only [Act.put, List.setIfInBounds_toArray, List.set_cons_zero, List.set_cons_succ]
          refine wpAnyH_take (i := 8) (oi := ({ dst := some 29, op := Op.load 9 (Operand.tmp 28), type := 9, pos := "relate.go:111", after := #[{ on := 7, ground := Ground.data }], guard := none } : Oper)) (v := .string sd) rfl (by kernel_rfl) (by kernel_rfl) (by kernel_rfl) (fun _ _ _ h => h) (Or.inl ⟨by rfl, fun w0 hw0 => by have q0 := HSd.out w0 hw0; go_simp⟩) (by assumption) ?_
          try simp only [Act.put, List.setIfInBounds_toArray, List.set_cons_zero, List.set_cons_succ]
          refine wpAnyH_take (i := 9) (oi := ({ dst := some 30, op := Op.build 81 #[(0, Operand.tmp 25), (1, Operand.tmp 29)], type := 81, pos := "relate.go:111", after := #[{ on := 4, ground := Ground.data }, { on := 8, ground := Ground.data }], guard := none } : Oper)) (v := ?hv24) rfl (by kernel_rfl) (by kernel_rfl) (by kernel_rfl) (fun _ _ _ h => h) (Or.inl ⟨by rfl, ?hy24⟩) (by assumption) ?hr24
          case hy24 => (intro w hSw; (try dsimp only at hSw); go_simp; (try with_reducible rfl))
          try simp only [Act.put, List.setIfInBounds_toArray, List.set_cons_zero, List.set_cons_succ]
          refine wpAnyH_ready (rs := [10]) (by kernel_rfl) (by simp) ?_
          refine AllReadyH.cons (o := ({ dst := some 9, op := Op.alloc 81, type := 0, pos := "relate.go:111", after := #[], guard := none } : Oper)) rfl (fun KK hKK => ?_) AllReadyH.nil
          refine step_alloc_new rfl 81 rfl (rkC ⟨#[]⟩ ⟨#[]⟩) alloc81 ?_
          intro t y1 hx hb ht
          have XB1 := Lib.hid hx; have RB1 := Lib.hid (RB0.out.trans (hb.mono RB0.out.size)); have HT := Lib.hid (show wr.heap.size ≤ t from Nat.le_trans RB0.out.size ht)
          clear hx hb ht
          refine hKK.out _ _ (RB1.out) (fun hH1 => ?_)
          clear hKK KK
          try simp only [Act.put, List.setIfInBounds_toArray, List.set_cons_zero, List.set_cons_succ]
          refine wpAnyH_ready (rs := [11]) (by kernel_rfl) (by simp) ?_
          refine AllReadyH.cons (o := ({ dst := none, op := Op.store 81 (Operand.tmp 9) (Operand.tmp 30), type := 0, pos := "relate.go:111", after := #[{ on := 10, ground := Ground.data }, { on := 9, ground := Ground.data }, { on := 0, ground := Ground.phase }, { on := 1, ground := Ground.phase }, { on := 2, ground := Ground.phase }, { on := 3, ground := Ground.phase }, { on := 4, ground := Ground.phase }, { on := 5, ground := Ground.phase }, { on := 6, ground := Ground.phase }, { on := 7, ground := Ground.phase }, { on := 8, ground := Ground.phase }, { on := 9, ground := Ground.phase }, { on := 10, ground := Ground.phase }], guard := none } : Oper)) rfl (fun KK hKK => ?_) AllReadyH.nil
          refine step_store_blk rfl 81 _ _ rfl t (rkC ⟨#[]⟩ ⟨#[]⟩) 81 (rkC tx sd) rfl rfl XB1.out rfl size81 (by simp [Value.oneCell']) ?_
          intro y2 hb hp
          have XY := Lib.hid hb; have RB2 := Lib.hid (bel_put RB1.out hp HT.out)
          clear hb hp
          refine hKK.out _ _ (RB2.out) (fun hH2 => ?_)
          clear hKK KK
          try simp only [Act.put, List.setIfInBounds_toArray, List.set_cons_zero, List.set_cons_succ]
          refine wpAnyH_done (by kernel_rfl) ?_ _
          go_wp2_with (first
            | (go_at_call 26; (with_reducible refine (HRel.out _ RB2.out).mono ?_); rintro e1 w3 ⟨rfl, hb⟩; have C3 := Lib.hid (RB2.out.trans (hb.mono RB2.out.size)); have X3 := Lib.hid (XY.out.below hb); have p0 := X3.out.cell (i := 0) rfl; have p1 := X3.out.cell (i := 1) rfl; have S3 := Lib.hid (HS.out.below C3.out); have M3 := Lib.hid (HM.out.below C3.out); have B3 := Lib.hid (BW.out.trans (C3.out.mono BW.out.size)); clear hb)
            | (refine load_mid_g (by rfl) 81 _ rfl t 0 rfl (rkC tx sd) _ X3.out.range Try.underlying81 rfl size81 ?_)
            | go_in)
          go_roundg (n - (kk + 1))
          case measure => omega
          case rel => exact ⟨kk + 1, m1, m2, zs1, zs2, by omega, by omega, by omega, by omega, by go_num, S3, M3, Lib.hid (by rw [HT2.out]; exact HI1.out), Lib.hid (by rw [HT2.out]; exact HI2.out), Lib.hid (HP.out.below C3.out), B3⟩
      · have HT2 := Lib.hid (HN.out (by rw [HQ.out, decide_eq_false c1, Bool.false_and]))
        have z1 : (rk == 4) = false := beq_eq_false_iff_ne.2 c1
        clear HY HN HQ
        go_upto_region 6 with (fail)
        refine wp_region_held_drew (S := (fun y => Below wr.heap.size wr y)) (by kernel_rfl) ((Below.refl wr.heap.size wr).drew) (fun hH0 => ?_)
        generalize hy0 : World.drew _ = y0 at hH0 ⊢
        have RB0 : Hid (Below wr.heap.size wr y0) := Lib.hid hH0
        clear hy0
        refine wpAnyH_take (i := 0) (oi := ({ dst := some 21, op := Op.move (Operand.tmp 8), type := 62, pos := "relate.go:111", after := #[], guard := none } : Oper)) (v := ?hv25) rfl (by kernel_rfl) (by kernel_rfl) (by kernel_rfl) (fun _ _ _ h => h) (Or.inl ⟨by rfl, ?hy25⟩) (by assumption) ?hr25
        case hy25 => (intro w hSw; (try dsimp only at hSw); go_simp; (try with_reducible rfl))
        try simp only [Act.put, List.setIfInBounds_toArray, List.set_cons_zero, List.set_cons_succ]
        refine wpAnyH_take (i := 1) (oi := ({ dst := some 22, op := Op.nilCheck (Operand.tmp 21), type := 0, pos := "relate.go:111", after := #[{ on := 0, ground := Ground.data }], guard := none } : Oper)) (v := ?hv26) rfl (by kernel_rfl) (by kernel_rfl) (by kernel_rfl) (fun _ _ _ h => h) (Or.inl ⟨by rfl, ?hy26⟩) (by assumption) ?hr26
        case hy26 => (intro w hSw; (try dsimp only at hSw); go_simp; (try with_reducible rfl))
        try simp only [Act.put, List.setIfInBounds_toArray, List.set_cons_zero, List.set_cons_succ]
        refine wpAnyH_take (i := 2) (oi := ({ dst := some 23, op := Op.fieldAddr 34 (Operand.tmp 22) 10, type := 0, pos := "relate.go:111", after := #[{ on := 1, ground := Ground.data }], guard := none } : Oper)) (v := ?hv27) rfl (by kernel_rfl) (by kernel_rfl) (by kernel_rfl) (fun _ _ _ h => h) (Or.inl ⟨by rfl, ?hy27⟩) (by assumption) ?hr27
        case hy27 => (intro w hSw; (try dsimp only at hSw); go_simp; (try with_reducible rfl))
        try simp only [Act.put, List.setIfInBounds_toArray, List.set_cons_zero, List.set_cons_succ]
        refine wpAnyH_take (i := 3) (oi := ({ dst := some 24, op := Op.fieldAddr 30 (Operand.tmp 23) 0, type := 0, pos := "relate.go:111", after := #[{ on := 2, ground := Ground.data }], guard := none } : Oper)) (v := ?hv28) rfl (by kernel_rfl) (by kernel_rfl) (by kernel_rfl) (fun _ _ _ h => h) (Or.inl ⟨by rfl, ?hy28⟩) (by assumption) ?hr28
        case hy28 => (intro w hSw; (try dsimp only at hSw); go_simp; (try with_reducible rfl))
        try simp only [Act.put, List.setIfInBounds_toArray, List.set_cons_zero, List.set_cons_succ]
        refine wpAnyH_take (i := 4) (oi := ({ dst := some 25, op := Op.load 9 (Operand.tmp 24), type := 9, pos := "relate.go:111", after := #[{ on := 3, ground := Ground.data }], guard := none } : Oper)) (v := .string tx) rfl (by kernel_rfl) (by kernel_rfl) (by kernel_rfl) (fun _ _ _ h => h) (Or.inl ⟨by rfl, fun w0 hw0 => by have q0 := HTx.out w0 hw0; go_simp⟩) (by assumption) ?_
        try simp only [Act.put, List.setIfInBounds_toArray, List.set_cons_zero, List.set_cons_succ]
        refine wpAnyH_take (i := 5) (oi := ({ dst := some 26, op := Op.move (Operand.tmp 8), type := 62, pos := "relate.go:111", after := #[], guard := none } : Oper)) (v := ?hv29) rfl (by kernel_rfl) (by kernel_rfl) (by kernel_rfl) (fun _ _ _ h => h) (Or.inl ⟨by rfl, ?hy29⟩) (by assumption) ?hr29
        case hy29 => (intro w hSw; (try dsimp only at hSw); go_simp; (try with_reducible rfl))
        try simp only [Act.put, List.setIfInBounds_toArray, List.set_cons_zero, List.set_cons_succ]
        refine wpAnyH_take (i := 6) (oi := ({ dst := some 27, op := Op.nilCheck (Operand.tmp 26), type := 0, pos := "relate.go:111", after := #[{ on := 5, ground := Ground.data }], guard := none } : Oper)) (v := ?hv30) rfl (by kernel_rfl) (by kernel_rfl) (by kernel_rfl) (fun _ _ _ h => h) (Or.inl ⟨by rfl, ?hy30⟩) (by assumption) ?hr30
        case hy30 => (intro w hSw; (try dsimp only at hSw); go_simp; (try with_reducible rfl))
        try simp only [Act.put, List.setIfInBounds_toArray, List.set_cons_zero, List.set_cons_succ]
        refine wpAnyH_take (i := 7) (oi := ({ dst := some 28, op := Op.fieldAddr 34 (Operand.tmp 27) 2, type := 0, pos := "relate.go:111", after := #[{ on := 6, ground := Ground.data }], guard := none } : Oper)) (v := ?hv31) rfl (by kernel_rfl) (by kernel_rfl) (by kernel_rfl) (fun _ _ _ h => h) (Or.inl ⟨by rfl, ?hy31⟩) (by assumption) ?hr31
        case hy31 => (intro w hSw; (try dsimp only at hSw); go_simp; (try with_reducible rfl))
        try simp only [Act.put, List.setIfInBounds_toArray, List.set_cons_zero, List.set_cons_succ]
        refine wpAnyH_take (i := 8) (oi := ({ dst := some 29, op := Op.load 9 (Operand.tmp 28), type := 9, pos := "relate.go:111", after := #[{ on := 7, ground := Ground.data }], guard := none } : Oper)) (v := .string sd) rfl (by kernel_rfl) (by kernel_rfl) (by kernel_rfl) (fun _ _ _ h => h) (Or.inl ⟨by rfl, fun w0 hw0 => by have q0 := HSd.out w0 hw0; go_simp⟩) (by assumption) ?_
        try simp only [Act.put, List.setIfInBounds_toArray, List.set_cons_zero, List.set_cons_succ]
        refine wpAnyH_take (i := 9) (oi := ({ dst := some 30, op := Op.build 81 #[(0, Operand.tmp 25), (1, Operand.tmp 29)], type := 81, pos := "relate.go:111", after := #[{ on := 4, ground := Ground.data }, { on := 8, ground := Ground.data }], guard := none } : Oper)) (v := ?hv32) rfl (by kernel_rfl) (by kernel_rfl) (by kernel_rfl) (fun _ _ _ h => h) (Or.inl ⟨by rfl, ?hy32⟩) (by assumption) ?hr32
        case hy32 => (intro w hSw; (try dsimp only at hSw); go_simp; (try with_reducible rfl))
        try simp only [Act.put, List.setIfInBounds_toArray, List.set_cons_zero, List.set_cons_succ]
        refine wpAnyH_ready (rs := [10]) (by kernel_rfl) (by simp) ?_
        refine AllReadyH.cons (o := ({ dst := some 9, op := Op.alloc 81, type := 0, pos := "relate.go:111", after := #[], guard := none } : Oper)) rfl (fun KK hKK => ?_) AllReadyH.nil
        refine step_alloc_new rfl 81 rfl (rkC ⟨#[]⟩ ⟨#[]⟩) alloc81 ?_
        intro t y1 hx hb ht
        have XB1 := Lib.hid hx; have RB1 := Lib.hid (RB0.out.trans (hb.mono RB0.out.size)); have HT := Lib.hid (show wr.heap.size ≤ t from Nat.le_trans RB0.out.size ht)
        clear hx hb ht
        refine hKK.out _ _ (RB1.out) (fun hH1 => ?_)
        clear hKK KK
        try simp only [Act.put, List.setIfInBounds_toArray, List.set_cons_zero, List.set_cons_succ]
        refine wpAnyH_ready (rs := [11]) (by kernel_rfl) (by simp) ?_
        refine AllReadyH.cons (o := ({ dst := none, op := Op.store 81 (Operand.tmp 9) (Operand.tmp 30), type := 0, pos := "relate.go:111", after := #[{ on := 10, ground := Ground.data }, { on := 9, ground := Ground.data }, { on := 0, ground := Ground.phase }, { on := 1, ground := Ground.phase }, { on := 2, ground := Ground.phase }, { on := 3, ground := Ground.phase }, { on := 4, ground := Ground.phase }, { on := 5, ground := Ground.phase }, { on := 6, ground := Ground.phase }, { on := 7, ground := Ground.phase }, { on := 8, ground := Ground.phase }, { on := 9, ground := Ground.phase }, { on := 10, ground := Ground.phase }], guard := none } : Oper)) rfl (fun KK hKK => ?_) AllReadyH.nil
        refine step_store_blk rfl 81 _ _ rfl t (rkC ⟨#[]⟩ ⟨#[]⟩) 81 (rkC tx sd) rfl rfl XB1.out rfl size81 (by simp [Value.oneCell']) ?_
        intro y2 hb hp
        have XY := Lib.hid hb; have RB2 := Lib.hid (bel_put RB1.out hp HT.out)
        clear hb hp
        refine hKK.out _ _ (RB2.out) (fun hH2 => ?_)
        clear hKK KK
        try simp only [Act.put, List.setIfInBounds_toArray, List.set_cons_zero, List.set_cons_succ]
        refine wpAnyH_done (by kernel_rfl) ?_ _
        go_wp2_with (first
          | (go_at_call 26; (with_reducible refine (HRel.out _ RB2.out).mono ?_); rintro e1 w3 ⟨rfl, hb⟩; have C3 := Lib.hid (RB2.out.trans (hb.mono RB2.out.size)); have X3 := Lib.hid (XY.out.below hb); have p0 := X3.out.cell (i := 0) rfl; have p1 := X3.out.cell (i := 1) rfl; have S3 := Lib.hid (HS.out.below C3.out); have M3 := Lib.hid (HM.out.below C3.out); have B3 := Lib.hid (BW.out.trans (C3.out.mono BW.out.size)); clear hb)
          | (refine load_mid_g (by rfl) 81 _ rfl t 0 rfl (rkC tx sd) _ X3.out.range Try.underlying81 rfl size81 ?_)
          | go_in)
        go_roundg (n - (kk + 1))
        case measure => omega
        case rel => exact ⟨kk + 1, m1, m2, zs1, zs2, by omega, by omega, by omega, by omega, by go_num, S3, M3, Lib.hid (by rw [HT2.out]; exact HI1.out), Lib.hid (by rw [HT2.out]; exact HI2.out), Lib.hid (HP.out.below C3.out), B3⟩
    · have hltz : ¬ (kk : Int) < (n : Int) := by omega
      obtain rfl : kk = n := by omega
      clear hg hkk hlt
      have HFt := Lib.hid HM.out.fit
      have hMlt := HM.out.lt
      obtain ⟨D, hown0, hrep⟩ := HM.out.ex
      have HRp := Lib.hid hrep
      have hsz := hown0.size_le
      obtain ⟨i0, hi, hz0, hz1, hz2⟩ := info_parts info58
      have HI := Lib.hid (And.intro hi (And.intro hz0 (And.intro hz1 hz2)))
      have hbe := (Below.refl wr.heap.size wr).alloc (Nat.le_refl _) (.cells #[] 58)
      have hga : wr.grownBy (wr.alloc (.cells #[] 58)) none := ⟨hbe.os, hbe.tape, hbe.output, hbe.size, fun b hb _ => hbe.block b hb⟩
      clear hbe
      have B1 := Lib.hid (BW.out.alloc BW.out.size (.cells #[] 58))
      have M1 := Lib.hid (hown0.kept hga (by simp))
      have O1 : Hid ((wr.alloc (.cells #[] 58)).ownsRow wr.heap.size 58 2 (.slice (some ⟨wr.heap.size, 0, none⟩) 0 0) 0 []) := Lib.hid (World.ownsRow_made (base := wr.heap.size) (e := 58) (size := 2) wr #[] 0 (Nat.le_refl _) (by decide) (by simp))
      have HSF := Lib.hid (fun g cap ys w hH hg hsz => Cn.sortF_any g cap ys w hH hg hsz)
      have HWs := Lib.hid BW.out.size
      clear hown0 hrep hi hz0 hz1 hz2 hga HS HM HI1 HP H
      go_upto_region 12 with (fail)
      generalize hw1 : wr.alloc _ = w1 at B1 M1 O1 ⊢
      generalize wr.heap.size = B at hMlt O1 HWs ⊢
      have O1sz := Lib.hid (show B ≤ w1.heap.size from Nat.le_of_lt (O1.out.lt B rfl).2)
      clear hw1 BW
      go_wp2_with (first
        | (at_range; go_loud (refine wpList_range_own _ rfl _ 79 rfl 9 3 kT.law under79 eI.R (w.heap.size + 1) m2 D rfl M1.out ?_; intro w2 hrg2 hg2 hs2; have R2 := Lib.hid hrg2; have B2 := Lib.hid (B1.out.grown hg2 B1.out.size (by simp)); have O2 := Lib.hid (O1.out.kept hg2 (.inr (by simp [Value.ownBlock]))); clear hrg2 hg2))
        | go_in)
      (try go_frame)
      have hR1 := R2.out.lt
      obtain ⟨r, hr⟩ : ∃ r, r = w1.heap.size := ⟨_, rfl⟩
      rw [← hr] at hs2 R2 ⊢
      have HRB := Lib.hid (show w.heap.size ≤ r by rw [hr]; exact B1.out.size)
      have HRb := Lib.hid (show B ≤ r by rw [hr]; exact O1sz.out)
      clear hr hR1 hs2
      go_loopg [10, 11, 12] (Maps.size D) (fun gg s10 _ _ wx => ∃ (left : Lit → Bool) (cnt m g cap : Nat) (ys : List (ByteArray × Int)), cnt ≤ gg ∧ m + cnt ≤ m2 ∧ s10 = .slice (some ⟨g, 0, none⟩) m cap ∧ Hid (ys.length = m) ∧ Hid (wx.ranges Try.prog 9 eI.R (w.heap.size + 1) r m2 D left cnt) ∧ Hid (MK.Coll kT eI D left ys) ∧ Hid (wx.ownsRow B 58 2 (.slice (some ⟨g, 0, none⟩) m cap) m (Cn.cl (ys.map mkc))) ∧ Hid (Below w.heap.size w wx))
      case atStart => exact ⟨_, _, 0, B, 0, [], Nat.le_refl _, by omega, rfl, Lib.hid rfl, R2, Lib.hid (MK.Coll.start D), O2, B2⟩
      case round =>
        clear R2 O2 B2
        obtain ⟨left, cnt, m, g, cap, ys, hc, hmc, rfl, HYl, HG, HC, HO, BX⟩ := hrel
        go_wp2_with (first
          | (at_next; go_loud (refine wpList_next_ranges _ rfl _ rfl 9 kT.law eI.R Value.string (Value.int .i64) (fun key kl h => kT.inv key kl h) (fun v y h => by { obtain ⟨x, rfl, _⟩ := MK.EK.R_inv eI h; exact ⟨x, rfl⟩ }) (w.heap.size + 1) r m2 D left cnt rfl HG.out ?_ ?_))
          | go_in)
        · intro hc0 hl0
          have HPm := Lib.hid (HC.out.done HRp.out hl0)
          have HDs := Lib.hid HC.out.dist
          obtain ⟨cur, hgB, hgb, hmcap, hcl, htk⟩ := own_any HO.out
          have HH := Lib.hid (Cn.holds_of_blk hgb htk (by rw [List.length_map]; exact HYl.out))
          have HGL := Lib.hid hgb.lt
          have HCur := Lib.hid (And.intro hgb (And.intro hcl hgB))
          have HS := Lib.hid (HSF.out g cap (ys.map mkc))
          rw [List.length_map, HYl.out] at HS
          subst hc0
          clear hl0 hgb htk hcl
          go_wp2_with (first
            | (go_at_call 40; (with_reducible refine (HS.out _ HH.out HGL.out (by omega)).mono ?_); rintro e w3 ⟨rfl, zs3, hp3, hs3, hh3, hg3, hbk⟩)
            | go_in)
          go_ret
          have hz3 : zs3 = reac (dsK E is z kk) := fin_reac HI2.out HPm.out hp3 hs3 HDs.out
          have hlen : zs3.length = m := by rw [hp3.length_eq, List.length_map]; exact HYl.out
          obtain ⟨cur', hb', hl'⟩ := hbk cur HCur.out.1
          have ht := Cn.take_of_holds (n := m) hb' hh3 hlen (by rw [hl', ← HCur.out.2.1]; exact Nat.mul_le_mul_right 2 hmcap)
          rw [← hz3, hlen]
          refine ⟨some ⟨g, 0, none⟩, cap, rfl, Cn.Rcs.ofBlk hb' ht hlen hmcap (by omega) (fun p hp => ?_), BX.out.grown hg3 BX.out.size (fun k e => by cases e; exact Nat.le_trans HWs.out hgB), fun b' o' e => by cases e; exact Nat.le_trans HWs.out hgB⟩
          have hq := hp3.mem_iff.1 hp
          obtain ⟨q, hq1, rfl⟩ := List.mem_map.1 hq
          exact (HFt.out q (HPm.out.mem_iff.1 hq1)).1
        · intro x1 cc kl yd yp w3 cnt' hkey hlk hv hat hrg hlt3 hg3 hs3 hen
          obtain ⟨hfp, hco⟩ := HC.out.step HRp.out hkey hlk hv hat
          have B3 := Lib.hid (BX.out.grown hg3 BX.out.size (fun k e => by cases e; exact HRB.out))
          have O3 := Lib.hid (own_kept_iter HO.out HG.out hg3)
          have G3 := Lib.hid hrg
          have C3 := Lib.hid hco
          have HSz := Lib.hid (show B ≤ w3.heap.size from Nat.le_trans HRb.out (Nat.le_of_lt hrg.lt))
          clear hs3 hkey hlk hv hat hrg hg3 hco hfp
          go_wp2_with (first
            | (at_builtin; go_loud (refine wpList_append_any _ rfl _ _ 43 rfl B 58 i0 _ 2 24 Try.underlying43 HI.out.1 HI.out.2.1 HI.out.2.2.1 HI.out.2.2.2 rfl (by decide) (.slice (some ⟨g, 0, none⟩) m cap) m (Cn.cl (ys.map mkc)) rfl (O3.out.alloc _) (some ⟨w3.heap.size, 0, none⟩) 1 1 (Cn.enc ⟨x1, cc⟩) rfl (Cn.blk_src (blk_new w3 (Cn.enc ⟨x1, cc⟩) 58)) (by unfold maxLen; omega) (by omega) (by have := HSz.out; simp only [World.size_alloc]; omega) ?_; intro v4 w4 hgr; have B4 := Lib.hid (below_app (B3.out.alloc B3.out.size _) (O3.out.alloc _) hgr HWs.out); have O4 := Lib.hid hgr.own; have G4 := Lib.hid (kept_own (O3.out.alloc _) (G3.out.alloc _) hgr.grow hMlt); clear hgr))
            | go_in)
          obtain ⟨g4, cap4, cur4, rfl, _⟩ := Cn.own_pos O4.out (Nat.succ_pos _)
          go_roundg cnt'
          case measure => omega
          case rel => exact ⟨_, cnt', m + 1, g4, cap4, ys ++ [(x1, cc)], Nat.le_refl _, by omega, rfl, Lib.hid (by rw [List.length_append, HYl.out]; rfl), G4, C3, Lib.hid (by rw [List.map_append, Cn.cl_append]; exact O4.out), B4⟩
end Go.Proofs.Ytefajhfahnhcgaa
