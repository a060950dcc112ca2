/- Relations: the reference's Sum. Bound: at most 900000 events. -/
import Derived.Test.YtefajhfahnhcgaaV25
import Derived.Test.YtefajhfahnhcgaaV22
namespace Go.Proofs.Ytefajhfahnhcgaa
open Go Go.RowKit
set_option linter.unusedVariables false
set_option linter.unusedSimpArgs false

/-- The event has this sender. -/
def sdq (E : Nat → Me) (sd : ByteArray) (i : Nat) : Bool := decide ((E i).sd.toList = sd.toList)
theorem sdq_ed (E : Nat → Me) (z : Int) (sd : ByteArray) (is : List Nat) : is.filter (isEd E z sd) = (is.filter (isR E 3 z)).filter (sdq E sd) := by
  rw [List.filter_filter]
  congr 1
  funext i
  unfold isEd sdq
  rw [Bool.and_comm]
theorem rk_ds (E : Nat → Me) (z : Int) (is : List Nat) : rkR E (is.filter (isR E 4 z)) (is.filter (isR E 4 z)).length = reac (dsK E is z is.length) := by
  unfold rkR dsR dsK
  rw [List.take_length, List.take_length]
theorem alloc34z (w : World) : (w.alloc (.cells zE.toArray 34)) = (w.alloc (.cells #[.int .i64 0, .string ⟨#[]⟩, .string ⟨#[]⟩, .int .i64 0, .bool false, .string ⟨#[]⟩, .int .i64 0, .int .i64 0, .slice none 0 0, .slice none 0 0, .string ⟨#[]⟩, .int .i64 0, .int .i64 0, .bool false, .string ⟨#[]⟩, .slice none 0 0, .slice none 0 0, .slice none 0 0, .slice none 0 0, .int .i64 0, .int .i64 0, .int .i64 0, .int .i64 0, .int .i64 0, .int .i64 0, .int .i64 0, .int .i64 0, .string ⟨#[]⟩, .int .i64 0] 34)) := rfl
set_option maxRecDepth 100000 in
set_option maxHeartbeats 16000000 in
theorem rsum16 (A : Option Addr) (n c : Nat) (E : Nat → Me) (z : Int) (w : World) (h : Evm w A n E) (hc : n ≤ c) (hn : n ≤ 900000) : Calls Try.prog 16 #[.slice A n c, .int .i64 z] w (SumP w E (onc E n) z (gt E n z)) := by
  have BWA := Lib.hid ((Below.refl w.heap.size w).alloc (Nat.le_refl _) (.cells #[.int .i64 0, .slice none 0 0, .int .i64 0, .int .i64 0] 45))
  have X0 := Lib.hid (show Blk (w.alloc (.cells #[.int .i64 0, .slice none 0 0, .int .i64 0, .int .i64 0] 45)) w.heap.size (smC 0 none 0 0 0 0) 45 from blk_new w (smC 0 none 0 0 0 0) 45)
  have HF := Lib.hid (show ∀ i, i < n → Fits (E i) from h.fit)
  have HG0 := Lib.hid (fun u (hb : Below w.heap.size w u) => rget25 A n c z E u (h.below hb))
  have HR30 := Lib.hid (fun u (hb : Below w.heap.size w u) => related33 A n c 3 z E u (h.below hb) hc hn)
  have HR20 := Lib.hid (fun u (hb : Below w.heap.size w u) => related33 A n c 2 z E u (h.below hb) hc hn)
  have HR40 := Lib.hid (fun u (hb : Below w.heap.size w u) => related33 A n c 4 z E u (h.below hb) hc hn)
  clear h
  unfold EvsP at HR20 HR30 HR40
  have hol0 := onc_len E n
  have HFo := Lib.hid (show ∀ i ∈ onc E n, Fits (E i) from fun i hi => HF.out i (onc_lt hi))
  cases hgt : gt E n z with
  | none =>
    rw [hgt] at HG0
    unfold SumP
    simp only [gtE, Option.isSome_none] at HG0 ⊢
    clear hgt HR20 HR30 HR40
    go_enter Try.func16, Try.ntmps16
    go_upto_region 1 with (fail)
    generalize hwa : w.alloc _ = wa at BWA X0 ⊢
    clear hwa
    have HG := Lib.hid (HG0.out wa BWA.out)
    clear HG0
    go_wp2_with (first
      | (go_at_call 25; (with_reducible refine HG.out.mono ?_); rintro r w1 ⟨rfl, hb⟩; have B1 := Lib.hid hb; clear hb)
      | (refine store_mid_as rfl 34 _ _ rfl w1.heap.size 0 me0.cs.toArray rfl rfl (show World.there (w1.alloc (.cells zE.toArray 34)) w1.heap.size 0 _ from (blk_new w1 zE 34).there (by decide)) (size34a fits0.len) (all_arr fits0.one) ?_; intro w2 hw2; have B2 := Lib.hid (show Below wa.heap.size wa w2 by rw [hw2]; exact below_setRow (B1.out.alloc B1.out.size _) B1.out.size _ _); have X2 := Lib.hid (X0.out.at_ B2.out X0.out.lt); clear hw2)
      | (refine wpList_store_mid rfl 45 _ _ rfl w.heap.size 0 #[.int .i64 0, .slice none 0 0, .int .i64 0, .int .i64 0] rfl rfl (Blk.there (n := 4) X2.out (by decide)) size45 (by simp [Value.oneCell']) ?_)
      | go_in)
    try simp only [Exit.inBlock, Exit.then]
    refine bodyPost_ret (results_cell_mid rfl _ _ w.heap.size (smC 0 none 0 0 0 0) 45 _ rfl (X2.out.setAll (smC 0 none 0 0 0 0) rfl) Try.underlying45 rfl size45) rfl ?_
    exact ⟨rfl, below_setRow (BWA.out.trans (B2.out.mono BWA.out.size)) (Nat.le_refl _) _ _⟩
  | some t =>
    have HFt0 := Lib.hid (HF.out t (gt_lt hgt).1)
    rw [hgt] at HG0
    unfold SumP
    simp only [gtE, Option.isSome_some] at HG0 ⊢
    rw [sdq_ed, ← rk_ds]
    have hl3 := List.length_filter_le (isR E 3 z) (onc E n)
    have hl2 := List.length_filter_le (isR E 2 z) (onc E n)
    have hl4 := List.length_filter_le (isR E 4 z) (onc E n)
    have HFi := Lib.hid (show ∀ i ∈ (onc E n).filter (isR E 3 z), Fits (E i) from fun i hi => HFo.out i (List.mem_filter.1 hi).1)
    have HF2 := Lib.hid (show ∀ i ∈ (onc E n).filter (isR E 2 z), Fits (E i) from fun i hi => HFo.out i (List.mem_filter.1 hi).1)
    have HF4 := Lib.hid (show ∀ i ∈ (onc E n).filter (isR E 4 z), Fits (E i) from fun i hi => HFo.out i (List.mem_filter.1 hi).1)
    obtain ⟨i0, hi, hz0, hz1, hz2⟩ := info_parts info34
    have HI := Lib.hid (And.intro hi (And.intro hz0 (And.intro hz1 hz2)))
    clear hi hz0 hz1 hz2 HFo HF hgt
    generalize hsis : (onc E n).filter (isR E 3 z) = is at HR30 hl3 HFi ⊢
    generalize hso2 : (onc E n).filter (isR E 2 z) = o2 at HR20 hl2 HF2 ⊢
    generalize hso4 : (onc E n).filter (isR E 4 z) = o4 at HR40 hl4 HF4 ⊢
    generalize hsdT : (E t).sd = sdT
    have HsdT := Lib.hid hsdT
    clear hsis hso2 hso4 hsdT
    go_enter Try.func16, Try.ntmps16
    go_upto_region 1 with (fail)
    generalize hwa : w.alloc _ = wa at BWA X0 ⊢
    clear hwa
    have HG := Lib.hid (HG0.out wa BWA.out)
    have HR3 := Lib.hid (fun u (hb : Below wa.heap.size wa u) => HR30.out u (BWA.out.trans (hb.mono BWA.out.size)))
    have HR2 := Lib.hid (fun u (hb : Below wa.heap.size wa u) => HR20.out u (BWA.out.trans (hb.mono BWA.out.size)))
    have HR4 := Lib.hid (fun u (hb : Below wa.heap.size wa u) => HR40.out u (BWA.out.trans (hb.mono BWA.out.size)))
    clear HG0 HR30 HR20 HR40
    go_upto_region 5 with (first
      | (go_at_call 25; (with_reducible refine HG.out.mono ?_); rintro r w1 ⟨rfl, hb⟩; have B1 := Lib.hid hb; clear hb)
      | (refine store_mid_as rfl 34 _ _ rfl w1.heap.size 0 (E t).cs.toArray rfl rfl (show World.there (w1.alloc (.cells zE.toArray 34)) w1.heap.size 0 _ from (blk_new w1 zE 34).there (by rw [List.size_toArray, HFt0.out.len]; decide)) (size34a HFt0.out.len) (all_arr HFt0.out.one) ?_; intro w2 hw2; have XE := Lib.hid (show Blk w2 w1.heap.size (E t).cs 34 by rw [hw2]; exact blk_alloc_set w1 zE (E t).cs 34 HFt0.out.len); have B2 := Lib.hid (show Below wa.heap.size wa w2 by rw [hw2]; exact below_setRow (B1.out.alloc B1.out.size _) B1.out.size _ _); clear hw2)
      | (go_at_call 33; (with_reducible refine (HR3.out _ B2.out).mono ?_); rintro r w3 ⟨A3, c3, rfl, hr, hcc, hb⟩; have P3 := Lib.hid hr; have XE3 := Lib.hid (XE.out.below hb); have B3 := Lib.hid (B2.out.trans (hb.mono B2.out.size)); clear hr hcc hb)
      | fail)
    have O0 : Hid ((w3.alloc (.cells #[] 34)).ownsRow w3.heap.size 34 29 (.slice (some ⟨w3.heap.size, 0, none⟩) 0 0) 0 []) := Lib.hid (World.ownsRow_made (base := w3.heap.size) (e := 34) (size := 29) w3 #[] 0 (Nat.le_refl _) (by decide) (by simp))
    have HSd := Lib.hid (fun u (hb : Below w3.heap.size w3 u) => (XE3.out.below hb).cell HFt0.out.c2)
    have BA3 := Lib.hid ((Below.refl w3.heap.size w3).alloc (Nat.le_refl _) (.cells #[] 34))
    rw [HsdT.out] at HSd
    go_wp2
    go_loopg [8, 9] is.length (fun gg s1 s2 wr => ∃ (kk : Nat) (v : Value), kk ≤ is.length ∧ is.length - kk ≤ gg ∧ v = s1 ∧ s2 = .int .i64 (kk : Int) ∧ Hid (wr.ownsRow w3.heap.size 34 29 v ((is.take kk).filter (sdq E sdT)).length (clM E ((is.take kk).filter (sdq E sdT)))) ∧ Hid (Below w3.heap.size w3 wr))
    case atStart => exact ⟨0, _, Nat.zero_le _, by omega, rfl, rfl, O0, BA3⟩
    case round =>
      clear O0 BA3
      obtain ⟨kk, v, hkk, hg, rfl, rfl, HO, BX⟩ := hrel
      have hol := filt_len is kk (sdq E sdT)
      by_cases hlt : kk < is.length
      · have hltz : (kk : Int) < (is.length : Int) := by omega
        have hk0 : (0 : Int) ≤ (kk : Int) := by omega
        obtain ⟨b1, o1, rfl, hat⟩ := (P3.out.below BX.out).get hlt
        have HY := Lib.hid (fun h1 => filt_yes (p := sdq E sdT) hlt h1)
        have HN := Lib.hid (fun h1 => filt_no (p := sdq E sdT) hlt h1)
        have p2 := hat.k2
        have q2 := HSd.out _ BX.out
        have HAt : Hid (At wr b1 (o1 + kk * 29) (E (is.getD kk 0))) := Lib.hid hat
        have HFt := Lib.hid HAt.out.fit
        have HP := Lib.hid (show sdq E sdT (is.getD kk 0) = decide ((E (is.getD kk 0)).sd.toList = sdT.toList) from rfl)
        clear hat
        
        generalize is.getD kk 0 = k at HY HN HAt HFt HP p2
        generalize (E k).sd = sk at HP p2
        by_cases c1 : sk.toList = sdT.toList
        · have z1 : (sk.toList == sdT.toList) = true := by rw [c1]; exact beq_self_eq_true _
          have HT2 := Lib.hid (HY.out (HP.out.trans (decide_eq_true c1)))
          clear HY HN HP c1
          generalize (is.take kk).filter (sdq E sdT) = os at HO HT2 hol
          go_wp2
          go_quiet (fail)
          generalize hwd : World.drewN wr _ = wd
          have BD := Lib.hid (show Below w3.heap.size w3 wd by rw [← hwd]; exact bel_dn BX.out _)
          have OD := Lib.hid (show wd.ownsRow w3.heap.size 34 29 v os.length (clM E os) by rw [← hwd]; exact own_keep HO.out (fun g _ hl => rfl))
          have HAd := Lib.hid (show At wd b1 (o1 + kk * 29) (E k) by rw [← hwd]; exact HAt.out.below (bel_dn (Below.refl _ _) _))
          have HRg := Lib.hid HAd.out.rng
          clear hwd HAt HO p2 q2
          go_wp2_with (first
            | (refine wpList_load_mid rfl 34 _ rfl b1 (o1 + kk * 29) rfl (E k).cs _ HRg.out Try.underlying34 rfl (size34l HFt.out.len) ?_)
            | (refine Great.wpList_buildSliceTo rfl 40 34 1 _ rfl wd.heap.size rfl _ rfl Try.underlying40 (E k).cs.toArray (by first | exact built34 HFt.out.len | (show Try.prog.builtSlice 34 1 [(0, .agg (E k).cs.toArray)] = _; exact built34 HFt.out.len) | (simp only [List.map_toArray, List.map_cons, List.map_nil]; exact built34 HFt.out.len) | (simp [Act.eval]; exact built34 HFt.out.len)) ?_)
            | (at_builtin; refine wpList_append_any _ rfl _ _ 40 rfl w3.heap.size 34 i0 _ 29 376 Try.underlying40 HI.out.1 HI.out.2.1 HI.out.2.2.1 HI.out.2.2.2 rfl (by decide) v os.length (clM E os) rfl (OD.out.alloc _) _ 1 1 (E k).cs rfl (src_ev _ HFt.out) (by unfold maxLen; omega) (by omega) (BD.out.alloc BD.out.size _).size ?_; intro v5 w5 hgr; have B5 := Lib.hid (hgr.below (BD.out.alloc BD.out.size _) (OD.out.alloc _)); have O5 := Lib.hid hgr.own; clear hgr)
            | go_in)
          go_roundg (is.length - (kk + 1))
          case measure => omega
          case rel => exact ⟨kk + 1, v5, by omega, by omega, rfl, by go_num, Lib.hid (by rw [HT2.out, List.length_append, clM_snoc]; exact O5.out), B5⟩
        · have z1 : (sk.toList == sdT.toList) = false := beq_eq_false_iff_ne.2 c1
          have HT2 := Lib.hid (HN.out (HP.out.trans (decide_eq_false c1)))
          clear HY HN HP c1
          go_wp2
          go_quiet (fail)
          go_wp2
          go_roundg (is.length - (kk + 1))
          case measure => omega
          case rel => exact ⟨kk + 1, v, by omega, by omega, rfl, by go_num, Lib.hid (by rw [HT2.out]; exact own_keep HO.out (fun g _ hl => rfl)), Lib.hid (bel_dn BX.out _)⟩
      · have hltz : ¬ (kk : Int) < (is.length : Int) := by omega
        obtain rfl : kk = is.length := by omega
        rw [List.take_length] at HO hol
        obtain ⟨A', c', rfl⟩ := own_slice HO.out
        have HOf := Lib.hid (show ∀ i ∈ is.filter (sdq E sdT), Fits (E i) from fun i hi => HFi.out i (List.mem_filter.1 hi).1)
        have EO := Lib.hid (own_evm HO.out HOf.out (by unfold maxLen; omega))
        have BW := Lib.hid (B3.out.trans (BX.out.mono B3.out.size))
        have HSm := Lib.hid (show ∀ i ∈ is.filter (sdq E sdT), i ∈ is from fun i hi => (List.mem_filter.1 hi).1)
        clear HO
        generalize hos : is.filter (sdq E sdT) = os at EO HOf HSm hol
        have HOs := Lib.hid hos
        clear hos
        have HL := Lib.hid (fun u (hb : Below wr.heap.size wr u) => latest34 A' c' E os u (EO.out.below hb) HOf.out)
        go_wp2_with (first
          | (go_at_call 33; (first
              | (with_reducible refine (HR2.out _ BW.out).mono ?_; rintro r w5 ⟨A5, c5, rfl, hr, hcc, hb⟩; have P5 := Lib.hid hr; have B5 := Lib.hid (BW.out.trans (hb.mono BW.out.size)); have HL5 := Lib.hid (HL.out _ hb); clear hr hcc hb)
              | (with_reducible refine (HR4.out _ B6.out).mono ?_; rintro r w7 ⟨A7, c7, rfl, hr, hcc, hb⟩; have P7 := Lib.hid (P6.out.below hb); have B7 := Lib.hid (B6.out.trans (hb.mono B6.out.size)); have HRe := Lib.hid (rreactions35 A7 c7 E o4 w7 hr HF4.out (by omega)); clear hr hcc hb)))
          | (go_at_call 34; (first
              | (with_reducible refine HL5.out.mono ?_; rintro r w6 ⟨rfl, hb⟩; have P6 := Lib.hid (P5.out.below hb); have B6 := Lib.hid (B5.out.trans (hb.mono B5.out.size)); clear hb HL5)
              | (with_reducible refine HL8.out.mono ?_; rintro r w9 ⟨rfl, hb⟩; have R9 := Lib.hid (R8.out.below hb); have B9 := Lib.hid (B8.out.trans (hb.mono B8.out.size)); have X9 := Lib.hid (X0.out.at_ B9.out X0.out.lt); clear hb)))
          | (go_at_call 35; (with_reducible refine HRe.out.mono ?_); rintro r w8 ⟨A8, c8, rfl, hr, hb, hnw⟩; have N8 := Lib.hid (show ∀ b' o', A8 = some ⟨b', o', none⟩ → w.heap.size < b' from fun b' o' e => Nat.lt_of_lt_of_le X0.out.lt (Nat.le_trans B7.out.size (hnw b' o' e))); have R8 := Lib.hid hr; have B8 := Lib.hid (B7.out.trans (hb.mono B7.out.size)); have HL8 := Lib.hid (latest34 A5 c5 E o2 w8 (P7.out.below hb) HF2.out); clear hr hb hnw)
          | (refine wpList_store_mid rfl 45 _ _ rfl w.heap.size 0 (smC (idO E (ltL E os)) A8 (rkR E o4 o4.length).length c8 (o2.length : Int) (idO E (ltL E o2))).toArray rfl rfl (Blk.there (n := 4) X9.out (by decide)) size45 (by simp [Value.oneCell']) ?_)
          | go_in)
        try simp only [Exit.inBlock, Exit.then]
        refine bodyPost_ret (results_cell_mid rfl _ _ w.heap.size (smC (idO E (ltL E os)) A8 (rkR E o4 o4.length).length c8 (o2.length : Int) (idO E (ltL E o2))) 45 _ rfl (X9.out.setAll _ rfl) Try.underlying45 rfl size45) rfl ?_
        rw [HOs.out]
        exact ⟨A8, c8, rfl, rcs_setRow N8.out _ _ _ R9.out, below_setRow (BWA.out.trans (B9.out.mono BWA.out.size)) (Nat.le_refl _) _ _⟩
end Go.Proofs.Ytefajhfahnhcgaa
