/- Relations: the reference's Show. Bound: at most 900000 events. -/
import Derived.Test.YtefajhfahnhcgaaV26
import Derived.Test.YtefajhfahnhcgaaV23
namespace Go.Proofs.Ytefajhfahnhcgaa
open Go Go.RowKit
set_option linter.unusedVariables false
set_option linter.unusedSimpArgs false

theorem onc_gt {E : Nat → Me} {n i : Nat} (h : i ∈ onc E n) : gt E n (E i).id = some i := by
  have hl := onc_lt h
  have h1 : nw E i = true := (List.mem_filter.1 h).2
  unfold nw at h1
  rw [Bool.and_eq_true, decide_eq_true_eq, Bool.not_eq_true'] at h1
  refine gt_at h1.1 hl rfl (fun j hj e => ?_)
  have h2 := h1.2
  unfold sn at h2
  rw [decide_eq_true h1.1, Bool.true_and, List.any_eq_false] at h2
  exact h2 j (List.mem_range.2 hj) (decide_eq_true e)
theorem own_get {E : Nat → Me} {n : Nat} {js os : List Nat} {i : Nat} (ho : ∀ j ∈ js, j ∈ onc E n) (hs : ∀ j ∈ os, j ∈ js) (hi : i ∈ os) : ∃ k, gt (fun j => E (os.getD j 0)) os.length (E i).id = some k ∧ os.getD k 0 = i := by
  have hni : nw E i = true := (List.mem_filter.1 (ho i (hs i hi))).2
  have hpos : 0 < (E i).id := by
    unfold nw at hni
    rw [Bool.and_eq_true, decide_eq_true_eq] at hni
    exact hni.1
  obtain ⟨j, hj, e2⟩ := List.mem_iff_getElem.1 hi
  have e3 : os.getD j 0 = i := by rw [List.getD_eq_getElem?_getD, List.getElem?_eq_getElem hj]; exact e2
  cases hg : gt (fun j => E (os.getD j 0)) os.length (E i).id with
  | none =>
    unfold gt at hg
    rw [if_pos hpos, List.find?_eq_none] at hg
    exact absurd (decide_eq_true (by show (E (os.getD j 0)).id = _; rw [e3])) (hg j (List.mem_range.2 hj))
  | some k =>
    obtain ⟨hk, hid, _⟩ := gt_lt hg
    refine ⟨k, rfl, ?_⟩
    have h1 := onc_gt (ho _ (hs _ (getD_mem hk)))
    have h2 := onc_gt (ho i (hs i hi))
    have hid' : (E (os.getD k 0)).id = (E i).id := hid
    rw [hid', h2] at h1
    exact (Option.some.inj h1).symm
theorem ltL_some {E : Nat → Me} {is : List Nat} (h : is ≠ []) : ∃ i, ltL E is = some i ∧ i ∈ is := by
  have e := List.dropLast_concat_getLast h
  have h1 : ∃ i, ltL E is = some i := by
    rw [← e, ltL_snoc]
    unfold ltS
    cases ltL E is.dropLast with
    | none => exact ⟨_, rfl⟩
    | some j =>
      simp only
      split
      · exact ⟨_, rfl⟩
      · exact ⟨_, rfl⟩
  obtain ⟨i, hi⟩ := h1
  exact ⟨i, hi, ltL_mem hi⟩
set_option maxRecDepth 100000 in
set_option maxHeartbeats 16000000 in
theorem rshow18 (A : Option Addr) (n c : Nat) (E : Nat → Me) (z : Int) (w : World) (h : Evm w A n E) (hc : n ≤ c) (hn : n ≤ 900000) : Calls Try.prog 18 #[.slice A n c, .int .i64 z] w fun r w' => r = .returned (.tuple #[.string (shwT E n z), .int .i64 (shwE E n z)]) ∧ Below w.heap.size w w' := by
  obtain ⟨wa, rfl⟩ : ∃ x : World, x = w := ⟨_, rfl⟩
  have HF := Lib.hid (show ∀ i, i < n → Fits (E i) from h.fit)
  have HG := Lib.hid (rget25 A n c z E wa h)
  have HR3 := Lib.hid (fun u (hb : Below wa.heap.size wa u) => related33 A n c 3 z E u (h.below hb) hc hn)
  unfold EvsP at HR3
  have hol0 := onc_len E n
  have HFo := Lib.hid (show ∀ i ∈ onc E n, Fits (E i) from fun i hi => HF.out i (onc_lt hi))
  have HT := Lib.hid (show shwT E n z = (match gt E n z with
    | none => ⟨#[]⟩
    | some t => if (E t).kd = 11 then (match gt E n (idO E (ltL E ((onc E n).filter (isEd E z (E t).sd)))) with | none => (E t).tx | some u => (E u).tx) else ⟨#[]⟩) from rfl)
  have HSE := Lib.hid (show shwE E n z = (match gt E n z with
    | none => 5
    | some t => if (E t).kd = 11 then 0 else 1) from rfl)
  generalize shwT E n z = st at HT ⊢
  generalize shwE E n z = se at HSE ⊢
  clear h
  cases hgt : gt E n z with
  | none =>
    rw [hgt] at HG HT HSE
    simp only [gtE, Option.isSome_none] at HG
    simp only at HT HSE
    clear hgt HR3
    go_enter Try.func18, Try.ntmps18
    go_wp2_with (first
      | (go_at_call 25; (with_reducible refine HG.out.mono ?_); rintro r w1 ⟨rfl, hb⟩; have B1 := Lib.hid hb; clear hb)
      | (refine store_mid_as rfl 34 _ _ rfl w1.heap.size 0 me0.cs.toArray rfl rfl (show World.there (w1.alloc (.cells zE.toArray 34)) w1.heap.size 0 _ from (blk_new w1 zE 34).there (by decide)) (size34a fits0.len) (all_arr fits0.one) ?_; intro w2 hw2; have B2 := Lib.hid (show Below wa.heap.size wa w2 by rw [hw2]; exact below_setRow (B1.out.alloc B1.out.size _) B1.out.size _ _); clear hw2)
      | go_in)
    go_ret2
    exact ⟨ret_si HT.out.symm HSE.out.symm, B2.out⟩
  | some t =>
    have HFt0 := Lib.hid (HF.out t (gt_lt hgt).1)
    rw [hgt] at HG HT HSE
    simp only [gtE, Option.isSome_some] at HG
    simp only at HT HSE
    by_cases hkd : (E t).kd = 11
    · rw [if_pos hkd] at HT HSE
      rw [sdq_ed] at HT
      have hl3 := List.length_filter_le (isR E 3 z) (onc E n)
      have HFi := Lib.hid (show ∀ i ∈ (onc E n).filter (isR E 3 z), Fits (E i) from fun i hi => HFo.out i (List.mem_filter.1 hi).1)
      have HSo := Lib.hid (show ∀ i ∈ (onc E n).filter (isR E 3 z), i ∈ onc E n from fun i hi => (List.mem_filter.1 hi).1)
      obtain ⟨i0, hi, hz0, hz1, hz2⟩ := info_parts info34
      have HI := Lib.hid (And.intro hi (And.intro hz0 (And.intro hz1 hz2)))
      have HTx0 := HT
      have HSE0 := HSE
      have HKd := Lib.hid hkd
      clear hi hz0 hz1 hz2 HFo HF hgt HT HSE hkd
      generalize hsis : (onc E n).filter (isR E 3 z) = is at HR3 hl3 HFi HTx0 HSo
      clear hsis
      generalize hsdT : (E t).sd = sdT at HTx0
      have HsdT := Lib.hid hsdT
      clear hsdT
      go_enter Try.func18, Try.ntmps18
      go_upto_region 7 with (first
        | (go_at_call 25; (with_reducible refine HG.out.mono ?_); rintro r w1 ⟨rfl, hb⟩; have B1 := Lib.hid hb; clear hb)
        | (refine store_mid_as rfl 34 _ _ rfl w1.heap.size 0 (E t).cs.toArray rfl rfl (show World.there (w1.alloc (.cells zE.toArray 34)) w1.heap.size 0 _ from (blk_new w1 zE 34).there (by rw [List.size_toArray, HFt0.out.len]; decide)) (size34a HFt0.out.len) (all_arr HFt0.out.one) ?_; intro w2 hw2; have XE := Lib.hid (show Blk w2 w1.heap.size (E t).cs 34 by rw [hw2]; exact blk_alloc_set w1 zE (E t).cs 34 HFt0.out.len); have B2 := Lib.hid (show Below wa.heap.size wa w2 by rw [hw2]; exact below_setRow (B1.out.alloc B1.out.size _) B1.out.size _ _); have k3 := XE.out.cell HFt0.out.c3; rw [HKd.out] at k3; clear hw2)
        | (go_at_call 33; (with_reducible refine (HR3.out _ B2.out).mono ?_); rintro r w3 ⟨A3, c3, rfl, hr, hcc, hb⟩; have P3 := Lib.hid hr; have XE3 := Lib.hid (XE.out.below hb); have B3 := Lib.hid (B2.out.trans (hb.mono B2.out.size)); clear hr hcc hb)
        | fail)
      have O0 : Hid ((w3.alloc (.cells #[] 34)).ownsRow w3.heap.size 34 29 (.slice (some ⟨w3.heap.size, 0, none⟩) 0 0) 0 []) := Lib.hid (World.ownsRow_made (base := w3.heap.size) (e := 34) (size := 29) w3 #[] 0 (Nat.le_refl _) (by decide) (by simp))
      have HSd := Lib.hid (fun u (hb : Below w3.heap.size w3 u) => (XE3.out.below hb).cell HFt0.out.c2)
      have BA3 := Lib.hid ((Below.refl w3.heap.size w3).alloc (Nat.le_refl _) (.cells #[] 34))
      rw [HsdT.out] at HSd
      clear k3
      go_wp2
      go_loopg [9, 10] is.length (fun gg s1 s2 wr => ∃ (kk : Nat) (v : Value), kk ≤ is.length ∧ is.length - kk ≤ gg ∧ v = s1 ∧ s2 = .int .i64 (kk : Int) ∧ Hid (wr.ownsRow w3.heap.size 34 29 v ((is.take kk).filter (sdq E sdT)).length (clM E ((is.take kk).filter (sdq E sdT)))) ∧ Hid (Below w3.heap.size w3 wr))
      case atStart => exact ⟨0, _, Nat.zero_le _, by omega, rfl, rfl, O0, BA3⟩
      case round =>
        clear O0 BA3
        obtain ⟨kk, v, hkk, hg, rfl, rfl, HO, BX⟩ := hrel
        have hol := filt_len is kk (sdq E sdT)
        by_cases hlt : kk < is.length
        · have hltz : (kk : Int) < (is.length : Int) := by omega
          have hk0 : (0 : Int) ≤ (kk : Int) := by omega
          obtain ⟨b1, o1, rfl, hat⟩ := (P3.out.below BX.out).get hlt
          have HY := Lib.hid (fun h1 => filt_yes (p := sdq E sdT) hlt h1)
          have HN := Lib.hid (fun h1 => filt_no (p := sdq E sdT) hlt h1)
          have p2 := hat.k2
          have q2 := HSd.out _ BX.out
          have HAt : Hid (At wr b1 (o1 + kk * 29) (E (is.getD kk 0))) := Lib.hid hat
          have HFt := Lib.hid HAt.out.fit
          have HP := Lib.hid (show sdq E sdT (is.getD kk 0) = decide ((E (is.getD kk 0)).sd.toList = sdT.toList) from rfl)
          clear hat
          
          generalize is.getD kk 0 = k at HY HN HAt HFt HP p2
          generalize (E k).sd = sk at HP p2
          by_cases c1 : sk.toList = sdT.toList
          · have z1 : (sk.toList == sdT.toList) = true := by rw [c1]; exact beq_self_eq_true _
            have HT2 := Lib.hid (HY.out (HP.out.trans (decide_eq_true c1)))
            clear HY HN HP c1
            generalize (is.take kk).filter (sdq E sdT) = os at HO HT2 hol
            go_wp2
            go_quiet (fail)
            generalize hwd : World.drewN wr _ = wd
            have BD := Lib.hid (show Below w3.heap.size w3 wd by rw [← hwd]; exact bel_dn BX.out _)
            have OD := Lib.hid (show wd.ownsRow w3.heap.size 34 29 v os.length (clM E os) by rw [← hwd]; exact own_keep HO.out (fun g _ hl => rfl))
            have HAd := Lib.hid (show At wd b1 (o1 + kk * 29) (E k) by rw [← hwd]; exact HAt.out.below (bel_dn (Below.refl _ _) _))
            have HRg := Lib.hid HAd.out.rng
            clear hwd HAt HO p2 q2
            go_wp2_with (first
              | (refine wpList_load_mid rfl 34 _ rfl b1 (o1 + kk * 29) rfl (E k).cs _ HRg.out Try.underlying34 rfl (size34l HFt.out.len) ?_)
              | (refine Great.wpList_buildSliceTo rfl 40 34 1 _ rfl wd.heap.size rfl _ rfl Try.underlying40 (E k).cs.toArray (by first | exact built34 HFt.out.len | (show Try.prog.builtSlice 34 1 [(0, .agg (E k).cs.toArray)] = _; exact built34 HFt.out.len) | (simp only [List.map_toArray, List.map_cons, List.map_nil]; exact built34 HFt.out.len) | (simp [Act.eval]; exact built34 HFt.out.len)) ?_)
              | (at_builtin; refine wpList_append_any _ rfl _ _ 40 rfl w3.heap.size 34 i0 _ 29 376 Try.underlying40 HI.out.1 HI.out.2.1 HI.out.2.2.1 HI.out.2.2.2 rfl (by decide) v os.length (clM E os) rfl (OD.out.alloc _) _ 1 1 (E k).cs rfl (src_ev _ HFt.out) (by unfold maxLen; omega) (by omega) (BD.out.alloc BD.out.size _).size ?_; intro v5 w5 hgr; have B5 := Lib.hid (hgr.below (BD.out.alloc BD.out.size _) (OD.out.alloc _)); have O5 := Lib.hid hgr.own; clear hgr)
              | go_in)
            go_roundg (is.length - (kk + 1))
            case measure => omega
            case rel => exact ⟨kk + 1, v5, by omega, by omega, rfl, by go_num, Lib.hid (by rw [HT2.out, List.length_append, clM_snoc]; exact O5.out), B5⟩
          · have z1 : (sk.toList == sdT.toList) = false := beq_eq_false_iff_ne.2 c1
            have HT2 := Lib.hid (HN.out (HP.out.trans (decide_eq_false c1)))
            clear HY HN HP c1
            go_wp2
            go_quiet (fail)
            go_wp2
            go_roundg (is.length - (kk + 1))
            case measure => omega
            case rel => exact ⟨kk + 1, v, by omega, by omega, rfl, by go_num, Lib.hid (by rw [HT2.out]; exact own_keep HO.out (fun g _ hl => rfl)), Lib.hid (bel_dn BX.out _)⟩
        · have hltz : ¬ (kk : Int) < (is.length : Int) := by omega
          obtain rfl : kk = is.length := by omega
          rw [List.take_length] at HO hol
          obtain ⟨A', c', rfl⟩ := own_slice HO.out
          have HOf := Lib.hid (show ∀ i ∈ is.filter (sdq E sdT), Fits (E i) from fun i hi => HFi.out i (List.mem_filter.1 hi).1)
          have EO := Lib.hid (own_evm HO.out HOf.out (by unfold maxLen; omega))
          have BW := Lib.hid (B3.out.trans (BX.out.mono B3.out.size))
          have HSm := Lib.hid (show ∀ i ∈ is.filter (sdq E sdT), i ∈ is from fun i hi => (List.mem_filter.1 hi).1)
          clear HO
          generalize hos : is.filter (sdq E sdT) = os at EO HOf HSm hol
          have HOs := Lib.hid hos
          clear hos
          by_cases h0 : os.length = 0
          · have e0 : os = [] := List.eq_nil_of_length_eq_zero h0
            subst e0
            have HTx := Lib.hid (show (E t).tx = st by rw [HTx0.out, HOs.out, show idO E (ltL E []) = 0 from rfl, gt_neg (by omega)])
            have k10 := (XE3.out.below BX.out).cell HFt0.out.c10
            clear EO HOf HSm HFi HSd
            generalize (E t).tx = tx at k10 HTx
            go_wp2
            go_ret2
            exact ⟨ret_si HTx.out HSE0.out.symm, BW.out⟩
          · have z0 : ((os.length : Int) == 0) = false := beq_eq_false_iff_ne.2 (by omega)
            obtain ⟨i, hi, him⟩ := ltL_some (E := E) (is := os) (fun e => h0 (by rw [e]; rfl))
            obtain ⟨k, hk, hki⟩ := own_get HSo.out (fun j hj => HSm.out j hj) him
            have HTx := Lib.hid (show (E i).tx = st by
              rw [HTx0.out, HOs.out, hi]
              show _ = (match gt E n (E i).id with | none => (E t).tx | some u => (E u).tx)
              rw [onc_gt (HSo.out i (HSm.out i him))])
            have HFx := Lib.hid (HOf.out i him)
            have HL := Lib.hid (latest34 A' c' E os wr EO.out HOf.out)
            rw [hi] at HL
            have HG2 := Lib.hid (fun u (hb : Below wr.heap.size wr u) => rget25 A' os.length c' (E i).id (fun j => E (os.getD j 0)) u (EO.out.below hb))
            rw [hk] at HG2
            simp only [gtE, Option.isSome_some, hki] at HG2
            simp only [idO] at HL
            clear EO HOf HSm HFi HSd hi hk hki him HSo h0
            generalize (E i).id = id at HL HG2
            go_wp2_with (first
              | (go_at_call 34; (with_reducible refine HL.out.mono ?_); rintro r w6 ⟨rfl, hb⟩; have C6 := Lib.hid hb; have B6 := Lib.hid (BW.out.trans (hb.mono BW.out.size)); clear hb)
              | (go_at_call 25; (with_reducible refine (HG2.out _ C6.out).mono ?_); rintro r w7 ⟨rfl, hb⟩; have B7 := Lib.hid (B6.out.trans (hb.mono B6.out.size)); clear hb)
              | (refine store_mid_as rfl 34 _ _ rfl w7.heap.size 0 (E i).cs.toArray rfl rfl (show World.there (w7.alloc (.cells zE.toArray 34)) w7.heap.size 0 _ from (blk_new w7 zE 34).there (by rw [List.size_toArray, HFx.out.len]; decide)) (size34a HFx.out.len) (all_arr HFx.out.one) ?_; intro w8 hw8; have X8 := Lib.hid (show Blk w8 w7.heap.size (E i).cs 34 by rw [hw8]; exact blk_alloc_set w7 zE (E i).cs 34 HFx.out.len); have B8 := Lib.hid (show Below wa.heap.size wa w8 by rw [hw8]; exact below_setRow (B7.out.alloc B7.out.size _) B7.out.size _ _); have k10 := X8.out.cell HFx.out.c10; clear hw8)
              | go_in)
            go_ret2
            exact ⟨ret_si HTx.out HSE0.out.symm, B8.out⟩
    · rw [if_neg hkd] at HT HSE
      have z1 : ((E t).kd != 11) = true := by simp [hkd]
      clear hgt HR3
      go_enter Try.func18, Try.ntmps18
      go_wp2_with (first
        | (go_at_call 25; (with_reducible refine HG.out.mono ?_); rintro r w1 ⟨rfl, hb⟩; have B1 := Lib.hid hb; clear hb)
        | (refine store_mid_as rfl 34 _ _ rfl w1.heap.size 0 (E t).cs.toArray rfl rfl (show World.there (w1.alloc (.cells zE.toArray 34)) w1.heap.size 0 _ from (blk_new w1 zE 34).there (by rw [List.size_toArray, HFt0.out.len]; decide)) (size34a HFt0.out.len) (all_arr HFt0.out.one) ?_; intro w2 hw2; have XE := Lib.hid (show Blk w2 w1.heap.size (E t).cs 34 by rw [hw2]; exact blk_alloc_set w1 zE (E t).cs 34 HFt0.out.len); have B2 := Lib.hid (show Below wa.heap.size wa w2 by rw [hw2]; exact below_setRow (B1.out.alloc B1.out.size _) B1.out.size _ _); have k3 := XE.out.cell HFt0.out.c3; clear hw2)
        | go_in)
      go_ret2
      exact ⟨ret_si HT.out.symm HSE.out.symm, B2.out⟩
end Go.Proofs.Ytefajhfahnhcgaa
