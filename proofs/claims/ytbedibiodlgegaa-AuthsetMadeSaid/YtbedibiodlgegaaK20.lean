/- The reference's Fits. Bound: 10000 parents. -/
import Derived.Test.YtbedibiodlgegaaK18
import Derived.Test.YtbedibiodlgegaaK15
namespace Go.Proofs.Ytbedibiodlgegaa
open Go Go.RowKit
set_option linter.unusedVariables false
set_option linter.unusedSimpArgs false

theorem fnd_all {E : Nat → Evd} {n : Nat} : ∀ {zs : List Int}, zs.all (fun z => (pl E n z).isSome) = true → fnd E n zs = zs.map (fun z => dat (E (plN E n z)))
  | [], _ => rfl
  | z :: zs, h => by
    rw [List.all_cons, Bool.and_eq_true] at h
    obtain ⟨k, hk⟩ := Option.isSome_iff_exists.1 h.1
    have ih := fnd_all h.2
    unfold fnd at ih ⊢
    rw [List.filterMap_cons, hk, List.map_cons, show plN E n z = k by unfold plN; rw [hk]; rfl]
    show dat (E k) :: _ = _
    rw [ih]
theorem pa_dat {E : Nat → Evd} {n : Nat} {e : Evd} (h : allIn E n e = true) : fnd E n e.p9 = (paE E n e).map dat := by
  rw [fnd_all h]; unfold paE; rw [List.map_map]; rfl
theorem fits_es {E : Nat → Evd} {n : Nat} {e : Evd} {es : List Evd} (h0 : allIn E n e = true) (he : es.map dat = fnd E n e.p9) : fitsE E n e = if es.all (fun a => a.e1.toList == e.e1.toList) = false then 13 else if noBad (keysE e) (es.map kyE) = false then 16 else if e.e3 ≠ 1 ∧ (es.map kyE).any is1 = false then 16 else 0 := by
  have hp : es.map dat = (paE E n e).map dat := he.trans (pa_dat h0)
  have h1 : sameRm E n e = es.all (fun a => a.e1.toList == e.e1.toList) := by
    have a1 : (es.map dat).all (fun a => a.e1.toList == e.e1.toList) = es.all (fun a => a.e1.toList == e.e1.toList) := by rw [List.all_map]; rfl
    have a2 : ((paE E n e).map dat).all (fun a => a.e1.toList == e.e1.toList) = sameRm E n e := by rw [List.all_map]; rfl
    rw [← a1, ← a2, hp]
  have h2 : (paE E n e).map kyE = es.map kyE := by
    have a1 : (es.map dat).map kyE = es.map kyE := by rw [List.map_map]; rfl
    have a2 : ((paE E n e).map dat).map kyE = (paE E n e).map kyE := by rw [List.map_map]; rfl
    rw [← a1, ← a2, hp]
  unfold fitsE
  rw [if_neg (by rw [h0]; decide), h1, h2]
theorem keys_k1 {e : Evd} {x : Ky.Rc} (hx : x ∈ keysE e) (h : x.k = 1) : x = Ky.kz 1 Ky.eS := by
  by_cases h1 : e.e3 = 1
  · unfold keysE Ky.keysL at hx; rw [if_pos h1] at hx; simp at hx
  · unfold keysE at hx
    rw [Ky.mem_keysL h1] at hx
    unfold Ky.rawK at hx
    simp only [List.cons_append, List.nil_append, List.mem_cons] at hx
    rcases hx with rfl | rfl | rfl | hx
    · rfl
    · exact absurd h (by decide)
    · exact absurd h (by show ¬ (2 : Int) = 1; decide)
    · split at hx
      · rcases List.mem_cons.1 hx with rfl | hx
        · exact absurd h (by show ¬ (2 : Int) = 1; decide)
        · split at hx
          · have : x = Ky.kz 4 Ky.eS := by simpa using hx
            subst this
            exact absurd h (by decide)
          · simp at hx
      · simp at hx
theorem isK_eq {k : Int} {s : ByteArray} {p : Ky.Rc} (h : p.id = 0) : isK k s p = isEq (Ky.kz k s) p := by
  unfold isK isEq
  refine decide_eq_decide.2 ⟨fun ⟨a, b⟩ => (Ky.eq_iff3 (Ky.kz k s) p).2 ⟨a.symm, b.symm, h.symm⟩, fun a => ?_⟩
  subst a
  exact ⟨rfl, rfl⟩
theorem any_isK {k : Int} {s : ByteArray} : ∀ {l : List Ky.Rc}, (∀ q ∈ l, q.id = 0) → l.any (isK k s) = l.any (isEq (Ky.kz k s))
  | [], _ => rfl
  | q :: r, h => by rw [List.any_cons, List.any_cons, isK_eq (h q List.mem_cons_self), any_isK fun x hx => h x (List.mem_cons_of_mem _ hx)]
theorem any_one {e : Evd} {ps : List Ky.Rc} (h : noBad (keysE e) ps = true) : ps.any is1 = ps.any (isK 1 ⟨#[]⟩) := by
  have hm : ∀ p ∈ ps, p ∈ keysE e := fun p hp => by
    obtain ⟨j, hj, rfl⟩ := List.getElem_of_mem hp
    unfold noBad at h
    rw [List.all_eq_true] at h
    have h1 := h j (by simpa using hj)
    unfold badK at h1
    rw [Ky.getD_at hj] at h1
    simp only [Bool.not_or, Bool.not_not, Bool.and_eq_true] at h1
    obtain ⟨q, hq, he⟩ := List.any_eq_true.1 h1.1
    have : ps[j] = q := of_decide_eq_true he
    rw [this]; exact hq
  rw [Bool.eq_iff_iff, List.any_eq_true, List.any_eq_true]
  constructor
  · rintro ⟨p, hp, h1⟩
    exact ⟨p, hp, by rw [keys_k1 (hm p hp) (of_decide_eq_true h1)]; exact decide_eq_true ⟨rfl, rfl⟩⟩
  · rintro ⟨p, hp, h1⟩
    exact ⟨p, hp, decide_eq_true (of_decide_eq_true h1).1⟩
set_option maxRecDepth 100000 in
set_option maxHeartbeats 8000000 in
theorem rfits20 (A : Option Addr) (n c : Nat) (E : Nat → Evd) (e : Evd) (w : World) (h : Evx w A n E) (hw : Wfe e) (h9 : Its w e.a9 e.n9 e.c9 e.p9) (hn : e.n9 ≤ 10000) : Calls Try.prog 20 #[.slice A n c, .agg (cellsE e).toArray] w fun r w' => r = .returned (.int .i64 (fitsE E n e)) ∧ Below w.heap.size w w' := by
  show Calls Try.prog 20 #[.slice A n c, .agg #[.int .i64 e.e0, .string e.e1, .string e.e2, .int .i64 e.e3, .bool e.e4, .string e.e5, .int .i64 e.e6, .int .i64 e.e7, .slice e.a8 e.n8 e.c8, .slice e.a9 e.n9 e.c9, .string e.C.tx, .int .i64 e.C.n, .int .i64 e.C.tg, .bool e.C.th, .string e.C.via, .slice e.a.aA e.C.nA e.a.aC, .slice e.a.dA e.C.nD e.a.dC, .slice e.a.uA e.C.lv.nU e.a.uC, .slice e.a.kA e.C.lv.nK e.a.kC, .int .i64 e.C.lv.d, .int .i64 e.C.lv.x3, .int .i64 e.C.lv.x4, .int .i64 e.C.lv.x5, .int .i64 e.C.lv.x6, .int .i64 e.C.lv.x7, .int .i64 e.C.lv.x8, .int .i64 e.e26, .string e.e27, .int .i64 e.e28]] w _
  have BA := Lib.hid ((Below.refl w.heap.size w).alloc (Nat.le_refl _) (.cells #[.int .i64 e.e0, .string e.e1, .string e.e2, .int .i64 e.e3, .bool e.e4, .string e.e5, .int .i64 e.e6, .int .i64 e.e7, .slice e.a8 e.n8 e.c8, .slice e.a9 e.n9 e.c9, .string e.C.tx, .int .i64 e.C.n, .int .i64 e.C.tg, .bool e.C.th, .string e.C.via, .slice e.a.aA e.C.nA e.a.aC, .slice e.a.dA e.C.nD e.a.dC, .slice e.a.uA e.C.lv.nU e.a.uC, .slice e.a.kA e.C.lv.nK e.a.kC, .int .i64 e.C.lv.d, .int .i64 e.C.lv.x3, .int .i64 e.C.lv.x4, .int .i64 e.C.lv.x5, .int .i64 e.C.lv.x6, .int .i64 e.C.lv.x7, .int .i64 e.C.lv.x8, .int .i64 e.e26, .string e.e27, .int .i64 e.e28] 34))
  have XA : Hid (Blk (w.alloc (.cells #[.int .i64 e.e0, .string e.e1, .string e.e2, .int .i64 e.e3, .bool e.e4, .string e.e5, .int .i64 e.e6, .int .i64 e.e7, .slice e.a8 e.n8 e.c8, .slice e.a9 e.n9 e.c9, .string e.C.tx, .int .i64 e.C.n, .int .i64 e.C.tg, .bool e.C.th, .string e.C.via, .slice e.a.aA e.C.nA e.a.aC, .slice e.a.dA e.C.nD e.a.dC, .slice e.a.uA e.C.lv.nU e.a.uC, .slice e.a.kA e.C.lv.nK e.a.kC, .int .i64 e.C.lv.d, .int .i64 e.C.lv.x3, .int .i64 e.C.lv.x4, .int .i64 e.C.lv.x5, .int .i64 e.C.lv.x6, .int .i64 e.C.lv.x7, .int .i64 e.C.lv.x8, .int .i64 e.e26, .string e.e27, .int .i64 e.e28] 34)) w.heap.size (cellsE e) 34) := Lib.hid (blk_new w (cellsE e) 34)
  have H := Lib.hid (h.below BA.out)
  have H9 := Lib.hid (h9.below BA.out)
  have HWf := Lib.hid hw
  have hbig := h.big
  have HL9 := Lib.hid h9.len
  have HN14 := Lib.hid (fun k hk h1 => fits14 (E := E) (n := n) (e := e) (k := k) (by rw [h9.len]; exact hk) h1)
  clear h hw h9
  obtain ⟨i0, hi, hz0, hz1, hz2⟩ := info_parts info56
  have HI := Lib.hid (And.intro hi (And.intro hz0 (And.intro hz1 hz2)))
  clear hi hz0 hz1 hz2
  go_enter Try.func20, Try.ntmps20
  go_upto_region 1 with (fail)
  generalize hwa : w.alloc _ = wa at BA XA H H9 ⊢
  clear hwa
  go_wp2
  go_loopg [5, 6, 7] e.n9 (fun gg s5 _ _ wr => ∃ kk : Nat, kk ≤ e.n9 ∧ e.n9 - kk ≤ gg ∧ s5 = .int .i64 (kk : Int) ∧ Hid (∀ j, j < kk → (pl E n (e.p9.getD j 0)).isSome = true) ∧ Hid (Below wa.heap.size wa wr))
  case atStart => exact ⟨0, Nat.zero_le _, by omega, rfl, Lib.hid (fun j hj => absurd hj (Nat.not_lt_zero _)), Lib.hid (Below.refl _ _)⟩
  case round =>
    obtain ⟨kk, hkk, hg, rfl, HJ, BX⟩ := hrel
    have BW := Lib.hid (BA.out.trans (BX.out.mono BA.out.size))
    have k9 := (XA.out.below BX.out).cell (i := 9) rfl
    by_cases hlt : kk < e.n9
    · have hltz : (kk : Int) < (e.n9 : Int) := by omega
      have hk0 : (0 : Int) ≤ (kk : Int) := by omega
      obtain ⟨b9, o9, ea, hb9, q9, _⟩ := (H9.out.below BX.out).get hlt
      rw [ea] at k9
      clear ea
      have CG := Lib.hid (fun u (hb : Below wr.heap.size wr u) => get40 A n c (e.p9.getD kk 0) E u ((H.out.below BX.out).below hb))
      have HE14 := Lib.hid (HN14.out kk hlt)
      have HJ1 : Hid ((pl E n (e.p9.getD kk 0)).isSome = true → ∀ j, j < kk + 1 → (pl E n (e.p9.getD j 0)).isSome = true) := Lib.hid (fun h1 j hj => by
        by_cases e1 : j = kk
        · subst e1; exact h1
        · exact HJ.out j (by omega))
      generalize e.p9.getD kk 0 = z at q9 CG HE14 HJ1
      cases hp : pl E n z with
      | none =>
        rw [hp, show gotE E none = ev0 from rfl, show (none : Option Nat).isSome = false from rfl] at CG
        have HE := Lib.hid (HE14.out hp)
        clear hp HJ1 HE14
        go_wp2_with (first
          | (go_at_call 40; (with_reducible refine (CG.out _ (Below.refl _ _)).mono ?_); rintro e1 w3 ⟨rfl, hb3⟩; have HB3 := Lib.hid hb3; clear hb3)
          | (refine wpList_store_mid rfl 34 _ _ rfl w3.heap.size 0 (cellsE ev0).toArray rfl rfl (Blk.there (n := 29) (blk_new w3 z29 34) (by decide)) size39 (cellsE_all _) ?_; obtain ⟨w4, hw, hx, hb, hs⟩ := new_event w3 ev0; rw [hw]; have X4 := Lib.hid hx; have Q4 := Lib.hid (HB3.out.trans (hb.mono HB3.out.size)); clear hw hx hb hs)
          | go_in)
        go_ret
        exact ⟨ret_i6 HE.out.symm, BW.out.trans (Q4.out.mono BW.out.size)⟩
      | some k =>
        rw [hp, show gotE E (some k) = E k from rfl, show (some k : Option Nat).isSome = true from rfl] at CG
        have HJ2 := Lib.hid (HJ1.out (by rw [hp]; rfl))
        clear hp HJ1 HE14
        go_wp2_with (first
          | (go_at_call 40; (with_reducible refine (CG.out _ (Below.refl _ _)).mono ?_); rintro e1 w3 ⟨rfl, hb3⟩; have HB3 := Lib.hid hb3; clear hb3)
          | (refine wpList_store_mid rfl 34 _ _ rfl w3.heap.size 0 (cellsE (E k)).toArray rfl rfl (Blk.there (n := 29) (blk_new w3 z29 34) (by decide)) size39 (cellsE_all _) ?_; obtain ⟨w4, hw, hx, hb, hs⟩ := new_event w3 (E k); rw [hw]; have X4 := Lib.hid hx; have Q4 := Lib.hid (HB3.out.trans (hb.mono HB3.out.size)); clear hw hx hb hs)
          | go_in)
        go_roundg (e.n9 - (kk + 1))
        case measure => omega
        case rel => exact ⟨kk + 1, by omega, by omega, by go_num, HJ2, Lib.hid (BX.out.trans (Q4.out.mono BX.out.size))⟩
    · have hltz : ¬ (kk : Int) < (e.n9 : Int) := by omega
      have HIn : Hid (allIn E n e = true) := Lib.hid (all_yes (d := 0) (fun j hj => HJ.out j (by rw [HL9.out] at hj; omega)))
      have HOf := Lib.hid (show Calls Try.prog 41 #[.slice A n c, .slice e.a9 e.n9 e.c9] wr (fun r w' => ∃ (A5 : Option Addr) (c5 : Nat) (es : List Evd), r = .returned (.slice A5 e.n9 c5) ∧ Evx w' A5 e.n9 (fun j => es.getD j ev0) ∧ es.map dat = fnd E n e.p9 ∧ Below wr.heap.size wr w') from by
        have h1 := rof41 A e.a9 n c e.n9 e.c9 E e.p9 wr (H.out.below BX.out) (H9.out.below BX.out) hn
        unfold EvsP at h1
        rw [show (fnd E n e.p9).length = e.n9 by rw [fnd_all HIn.out, List.length_map]; exact HL9.out] at h1
        exact h1)
      clear HJ HN14 hlt hg hkk
      go_upto_region 8 with (first
        | (go_at_call 41; (with_reducible refine HOf.out.mono ?_); rintro e1 w5 ⟨A5, c5, es, rfl, hx, he, hb⟩; have F5 := Lib.hid hx; have HEs := Lib.hid (fits_es HIn.out he); have HEl := Lib.hid (show es.length = e.n9 by have := congrArg List.length he; rw [List.length_map, fnd_all HIn.out, List.length_map] at this; exact this.trans HL9.out); have B5 := Lib.hid (BX.out.trans (hb.mono BX.out.size)); clear hx he hb)
        | fail)
      clear k9 HOf HIn BW BX hltz
      go_wp2
      go_loopg [9] e.n9 (fun gg s9 wr => ∃ kk : Nat, kk ≤ e.n9 ∧ e.n9 - kk ≤ gg ∧ s9 = .int .i64 (kk : Int) ∧ Hid (∀ j, j < kk → (es.getD j ev0).e1.toList = e.e1.toList) ∧ Hid (Below w5.heap.size w5 wr))
      case atStart => exact ⟨0, Nat.zero_le _, by omega, rfl, Lib.hid (fun j hj => absurd hj (Nat.not_lt_zero _)), Lib.hid (Below.refl _ _)⟩
      case round =>
        obtain ⟨kk, hkk, hg, rfl, HJ, BX⟩ := hrel
        have BW5 := Lib.hid (B5.out.trans (BX.out.mono B5.out.size))
        have BW := Lib.hid (BA.out.trans (BW5.out.mono BA.out.size))
        by_cases hlt : kk < e.n9
        · have hltz : (kk : Int) < (e.n9 : Int) := by omega
          have hk0 : (0 : Int) ≤ (kk : Int) := by omega
          obtain ⟨b5, o5, rfl, _⟩ := F5.out.get hlt
          have k1 := (XA.out.below BW5.out).cell (i := 1) rfl
          have q1 := ((F5.out.below BX.out).parts hlt).2
          have HJ2 : Hid ((es.getD kk ev0).e1.toList = e.e1.toList → ∀ j, j < kk + 1 → (es.getD j ev0).e1.toList = e.e1.toList) := Lib.hid (fun h1 j hj => by
            by_cases e1 : j = kk
            · subst e1; exact h1
            · exact HJ.out j (by omega))
          have HE13 : Hid (¬ (es.getD kk ev0).e1.toList = e.e1.toList → fitsE E n e = 13) := Lib.hid (fun h1 => by
            rw [HEs.out, if_pos]
            exact all_no (d := ev0) (k := kk) (by rw [HEl.out]; exact hlt) (beq_eq_false_iff_ne.2 h1))
          generalize (es.getD kk ev0).e1 = r1 at q1 HJ2 HE13
          by_cases hr : r1.toList = e.e1.toList
          · have z1 : (r1.toList == e.e1.toList) = true := beq_iff_eq.2 hr
            have HJ3 := Lib.hid (HJ2.out hr)
            clear hr HJ2 HE13
            go_wp2
            go_quiet (fail)
            go_wp2
            go_roundg (e.n9 - (kk + 1))
            case measure => omega
            case rel => exact ⟨kk + 1, by omega, by omega, by go_num, HJ3, Lib.hid (Q.below_dn BX.out _)⟩
          · have z1 : (r1.toList == e.e1.toList) = false := beq_eq_false_iff_ne.2 hr
            have HE := Lib.hid (HE13.out hr)
            clear hr HJ2 HE13
            go_wp2
            go_quiet (fail)
            go_wp2
            go_ret
            exact ⟨ret_i6 HE.out.symm, Q.below_dn BW.out _⟩
        · have hltz : ¬ (kk : Int) < (e.n9 : Int) := by omega
          have HEs2 : Hid (fitsE E n e = if noBad (keysE e) (es.map kyE) = false then 16 else if e.e3 ≠ 1 ∧ (es.map kyE).any is1 = false then 16 else 0) := Lib.hid (by
            rw [HEs.out, if_neg]
            rw [all_yes (d := ev0) (f := fun a => a.e1.toList == e.e1.toList) (fun j hj => beq_iff_eq.2 (HJ.out j (by rw [HEl.out] at hj; omega)))]; decide)
          have C13 := Lib.hid (rkeys13 e wr HWf.out)
          have HKL := Lib.hid (keys_len e)
          have HKz := Lib.hid (show ∀ q ∈ keysE e, q.id = 0 from Ky.keysL_z _ _ _ _)
          have HOne := Lib.hid (fun h => any_one (e := e) (ps := es.map kyE) h)
          have HPz := Lib.hid (show ∀ q ∈ es.map kyE, q.id = 0 from fun q hq => by obtain ⟨a, _, rfl⟩ := List.mem_map.1 hq; rfl)
          have HPl := Lib.hid (show (es.map kyE).length = e.n9 by rw [List.length_map]; exact HEl.out)
          have HPf := Lib.hid (show ∀ p ∈ es.map kyE, Ky.fitR p from fun p hp => by
            obtain ⟨a, ha, rfl⟩ := List.mem_map.1 hp
            obtain ⟨j, hj, rfl⟩ := List.getElem_of_mem ha
            have := (F5.out.wf j (by rw [← HEl.out]; exact hj)).s5
            rw [List.getD_eq_getElem?_getD, List.getElem?_eq_getElem hj] at this
            exact this)
          have HPj := Lib.hid (show ∀ j, j < e.n9 → (es.map kyE).getD j Ky.t0 = Ky.kz (es.getD j ev0).e3 (es.getD j ev0).e5 from fun j hj => by
            rw [List.getD_eq_getElem?_getD, List.getElem?_map, List.getD_eq_getElem?_getD, List.getElem?_eq_getElem (by rw [HEl.out]; exact hj)]; rfl)
          have R5 := Lib.hid ((XA.out.below BW5.out).range)
          have XA5 := Lib.hid (XA.out.below B5.out)
          unfold EnsP at C13
          generalize keysE e = kl at C13 HKL HKz HEs2 HOne
          generalize es.map kyE = ps at HEs2 HOne HPz HPl HPf HPj
          clear HJ HEs hlt hg hkk
          go_upto_region 14 with (first
            | (refine wpList_load_mid rfl 34 _ rfl w.heap.size 0 rfl (cellsE e) _ R5.out Try.underlying34 rfl size39 ?_)
            | (go_at_call 13; (with_reducible refine C13.out.mono ?_); rintro e1 w6 ⟨A6, c6, rfl, h6, hb⟩; have G6 := Lib.hid h6; have C6 := Lib.hid (BX.out.trans (hb.mono BX.out.size)); have F6 := Lib.hid (F5.out.below C6.out); have X6 := Lib.hid (XA5.out.below C6.out); have B6 := Lib.hid (B5.out.trans (C6.out.mono B5.out.size)); clear h6 hb)
            | fail)
          clear F5 XA5 R5 BW BW5 C13 BX C6 hltz
          have B6w := Lib.hid (BA.out.trans (B6.out.mono BA.out.size))
          have O6 : Hid (w6.ownsRow w6.heap.size 56 3 (.slice none 0 0) 0 (clK (ps.take 0))) := Lib.hid (World.ownsRow_nil w6 _ _ _)
          go_wp2
          go_loopg [11, 12] e.n9 (fun gg s11 s12 wr => ∃ (kk : Nat) (v : Value), kk ≤ e.n9 ∧ e.n9 - kk ≤ gg ∧ v = s11 ∧ s12 = .int .i64 (kk : Int) ∧ Hid (wr.ownsRow w6.heap.size 56 3 v kk (clK (ps.take kk))) ∧ Hid (∀ j, j < kk → badK kl ps j = false) ∧ Hid (Below w6.heap.size w6 wr))
          case atStart => exact ⟨0, _, Nat.zero_le _, by omega, rfl, rfl, O6, Lib.hid (fun j hj => absurd hj (Nat.not_lt_zero _)), Lib.hid (Below.refl _ _)⟩
          case round =>
            obtain ⟨kk, v, hkk, hg, rfl, rfl, HO, HJ, BZ⟩ := hrel
            have BW := Lib.hid (B6w.out.trans (BZ.out.mono B6w.out.size))
            obtain ⟨As, cs, hv, RS0, _⟩ := En.Rcs.ofOwn (zs := (ps.take kk).map toE) HO.out (by rw [List.length_map, List.length_take, HPl.out]; omega) (by omega) (fun p hp => by obtain ⟨q, hq, rfl⟩ := List.mem_map.1 hp; exact HPf.out q (List.mem_of_mem_take hq))
            have HSe := Lib.hid (show EnR wr As kk cs (ps.take kk) from RS0)
            clear RS0
            by_cases hlt : kk < e.n9
            · have hltz : (kk : Int) < (e.n9 : Int) := by omega
              have hk0 : (0 : Int) ≤ (kk : Int) := by omega
              obtain ⟨b5, o5, rfl, hb5, hc5⟩ := F6.out.at_ (by omega)
              have HQ6 := Lib.hid (show ∀ u, Below w6.heap.size w6 u → u.cell? ⟨b5, o5 + kk * 29 + 3, none⟩ = some (.int .i64 (es.getD kk ev0).e3) ∧ u.cell? ⟨b5, o5 + kk * 29 + 5, none⟩ = some (.string (es.getD kk ev0).e5) from fun u hb => ⟨((F6.out.below hb).parts hlt).1.c3, ((F6.out.below hb).parts hlt).1.c5⟩)
              have HQ := Lib.hid (fun u (hb : Below wr.heap.size wr u) => HQ6.out u (BZ.out.trans (hb.mono BZ.out.size)))
              have hkj := HPj.out kk hlt
              have HTk := Lib.hid (show ps.take (kk + 1) = ps.take kk ++ [Ky.kz (es.getD kk ev0).e3 (es.getD kk ev0).e5] by rw [List.take_succ_eq_append_getElem (by rw [HPl.out]; exact hlt), ← Ky.getD_at, hkj])
              have HBd := Lib.hid (show badK kl ps kk = (!(kl.any (isK (es.getD kk ev0).e3 (es.getD kk ev0).e5)) || (ps.take kk).any (isK (es.getD kk ev0).e3 (es.getD kk ev0).e5)) by unfold badK; rw [hkj, any_isK HKz.out, any_isK (fun q hq => HPz.out q (List.mem_of_mem_take hq))])
              have HBk := Lib.hid (fun h1 => noBad_no (kl := kl) (ps := ps) (k := kk) (by rw [HPl.out]; exact hlt) h1)
              have HJ1 : Hid (badK kl ps kk = false → ∀ j, j < kk + 1 → badK kl ps j = false) := Lib.hid (fun h1 j hj => by
                by_cases e1 : j = kk
                · subst e1; exact h1
                · exact HJ.out j (by omega))
              clear hkj hc5 hb5
              generalize (es.getD kk ev0).e3 = kd at HQ HQ6 HTk HBd
              generalize (es.getD kk ev0).e5 = ke at HQ HQ6 HTk HBd
              have HC1 := Lib.hid (fun u (hb : Below wr.heap.size wr u) => is28 A6 kl.length c6 kl kd ke u (G6.out.below (BZ.out.trans (hb.mono BZ.out.size))) (by have := HKL.out; omega))
              have HC2 := Lib.hid (fun u (hb : Below wr.heap.size wr u) => is28 As kk cs (ps.take kk) kd ke u (HSe.out.below hb) (by omega))
              cases t1 : kl.any (isK kd ke) with
              | false =>
                rw [t1] at HC1 HBd
                have HE : Hid (fitsE E n e = 16) := Lib.hid (by rw [HEs2.out, if_pos (HBk.out (by rw [HBd.out]; rfl))])
                clear t1 HBd HBk HJ1
                subst hv
                go_upto_region 18 with (fail)
                refine wp_region_held_drew (S := (fun y => Below wr.heap.size wr y)) (by kernel_rfl) ((Below.refl wr.heap.size wr).drew) (fun hH0 => ?_)
                generalize hy0 : World.drew _ = y0 at hH0 ⊢
                have RB0 : Hid (Below wr.heap.size wr y0) := Lib.hid hH0
                clear hy0
                refine wpAnyH_take (i := 0) (oi := ({ dst := some 58, op := Op.move (Operand.tmp 10), type := 37, pos := "ref.go:84", after := #[], guard := none } : Oper)) (v := ?hv1) rfl (by kernel_rfl) (by kernel_rfl) (by kernel_rfl) (fun _ _ _ h => h) (Or.inl ⟨by rfl, ?hy1⟩) (by assumption) ?hr1
                case hy1 => (intro w hSw; (try dsimp only at hSw); go_simp; (try with_reducible rfl))
                try simp only [Act.put, List.setIfInBounds_toArray, List.set_cons_zero, List.set_cons_succ]
                refine wpAnyH_take (i := 1) (oi := ({ dst := some 59, op := Op.move (Operand.tmp 8), type := 44, pos := "ref.go:84", after := #[], guard := none } : Oper)) (v := ?hv2) rfl (by kernel_rfl) (by kernel_rfl) (by kernel_rfl) (fun _ _ _ h => h) (Or.inl ⟨by rfl, ?hy2⟩) (by assumption) ?hr2
                case hy2 => (intro w hSw; (try dsimp only at hSw); go_simp; (try with_reducible rfl))
                try simp only [Act.put, List.setIfInBounds_toArray, List.set_cons_zero, List.set_cons_succ]
                refine wpAnyH_take (i := 2) (oi := ({ dst := some 60, op := Op.move (Operand.tmp 12), type := 3, pos := "ref.go:84", after := #[], guard := none } : Oper)) (v := ?hv3) rfl (by kernel_rfl) (by kernel_rfl) (by kernel_rfl) (fun _ _ _ h => h) (Or.inl ⟨by rfl, ?hy3⟩) (by assumption) ?hr3
                case hy3 => (intro w hSw; (try dsimp only at hSw); go_simp; (try with_reducible rfl))
                try simp only [Act.put, List.setIfInBounds_toArray, List.set_cons_zero, List.set_cons_succ]
                refine wpAnyH_take (i := 3) (oi := ({ dst := some 61, op := Op.indexAddr 44 (Operand.tmp 59) (Operand.tmp 60), type := 0, pos := "ref.go:84", after := #[{ on := 1, ground := Ground.data }, { on := 2, ground := Ground.data }], guard := none } : Oper)) (v := ?hv4) rfl (by kernel_rfl) (by kernel_rfl) (by kernel_rfl) (fun _ _ _ h => h) (Or.inl ⟨by rfl, ?hy4⟩) (by assumption) ?hr4
                case hy4 => (intro w hSw; (try dsimp only at hSw); go_simp; (try with_reducible rfl))
                try simp only [Act.put, List.setIfInBounds_toArray, List.set_cons_zero, List.set_cons_succ]
                refine wpAnyH_take (i := 4) (oi := ({ dst := some 62, op := Op.fieldAddr 34 (Operand.tmp 61) 3, type := 0, pos := "ref.go:84", after := #[{ on := 3, ground := Ground.data }], guard := none } : Oper)) (v := ?hv5) rfl (by kernel_rfl) (by kernel_rfl) (by kernel_rfl) (fun _ _ _ h => h) (Or.inl ⟨by rfl, ?hy5⟩) (by assumption) ?hr5
                case hy5 => (intro w hSw; (try dsimp only at hSw); go_simp; (try with_reducible rfl))
                try simp only [Act.put, List.setIfInBounds_toArray, List.set_cons_zero, List.set_cons_succ]
                refine wpAnyH_take (i := 5) (oi := ({ dst := some 63, op := Op.load 22 (Operand.tmp 62), type := 22, pos := "ref.go:84", after := #[{ on := 4, ground := Ground.data }], guard := none } : Oper)) (v := .int .i64 kd) rfl (by kernel_rfl) (by kernel_rfl) (by kernel_rfl) (fun _ _ _ h => h) (Or.inl ⟨by rfl, fun w0 hw0 => by obtain ⟨q0, q1⟩ := HQ.out w0 hw0; go_simp⟩) (by assumption) ?_
                try simp only [Act.put, List.setIfInBounds_toArray, List.set_cons_zero, List.set_cons_succ]
                refine wpAnyH_take (i := 6) (oi := ({ dst := some 64, op := Op.move (Operand.tmp 8), type := 44, pos := "ref.go:84", after := #[], guard := none } : Oper)) (v := ?hv6) rfl (by kernel_rfl) (by kernel_rfl) (by kernel_rfl) (fun _ _ _ h => h) (Or.inl ⟨by rfl, ?hy6⟩) (by assumption) ?hr6
                case hy6 => (intro w hSw; (try dsimp only at hSw); go_simp; (try with_reducible rfl))
                try simp only [Act.put, List.setIfInBounds_toArray, List.set_cons_zero, List.set_cons_succ]
                refine wpAnyH_take (i := 7) (oi := ({ dst := some 65, op := Op.move (Operand.tmp 12), type := 3, pos := "ref.go:84", after := #[], guard := none } : Oper)) (v := ?hv7) rfl (by kernel_rfl) (by kernel_rfl) (by kernel_rfl) (fun _ _ _ h => h) (Or.inl ⟨by rfl, ?hy7⟩) (by assumption) ?hr7
                case hy7 => (intro w hSw; (try dsimp only at hSw); go_simp; (try with_reducible rfl))
                try simp only [Act.put, List.setIfInBounds_toArray, List.set_cons_zero, List.set_cons_succ]
                refine wpAnyH_take (i := 8) (oi := ({ dst := some 66, op := Op.indexAddr 44 (Operand.tmp 64) (Operand.tmp 65), type := 0, pos := "ref.go:84", after := #[{ on := 6, ground := Ground.data }, { on := 7, ground := Ground.data }], guard := none } : Oper)) (v := ?hv8) rfl (by kernel_rfl) (by kernel_rfl) (by kernel_rfl) (fun _ _ _ h => h) (Or.inl ⟨by rfl, ?hy8⟩) (by assumption) ?hr8
                case hy8 => (intro w hSw; (try dsimp only at hSw); go_simp; (try with_reducible rfl))
                try simp only [Act.put, List.setIfInBounds_toArray, List.set_cons_zero, List.set_cons_succ]
                refine wpAnyH_take (i := 9) (oi := ({ dst := some 67, op := Op.fieldAddr 34 (Operand.tmp 66) 5, type := 0, pos := "ref.go:84", after := #[{ on := 8, ground := Ground.data }], guard := none } : Oper)) (v := ?hv9) rfl (by kernel_rfl) (by kernel_rfl) (by kernel_rfl) (fun _ _ _ h => h) (Or.inl ⟨by rfl, ?hy9⟩) (by assumption) ?hr9
                case hy9 => (intro w hSw; (try dsimp only at hSw); go_simp; (try with_reducible rfl))
                try simp only [Act.put, List.setIfInBounds_toArray, List.set_cons_zero, List.set_cons_succ]
                refine wpAnyH_take (i := 10) (oi := ({ dst := some 68, op := Op.load 9 (Operand.tmp 67), type := 9, pos := "ref.go:84", after := #[{ on := 9, ground := Ground.data }], guard := none } : Oper)) (v := .string ke) rfl (by kernel_rfl) (by kernel_rfl) (by kernel_rfl) (fun _ _ _ h => h) (Or.inl ⟨by rfl, fun w0 hw0 => by obtain ⟨q0, q1⟩ := HQ.out w0 hw0; go_simp⟩) (by assumption) ?_
                try simp only [Act.put, List.setIfInBounds_toArray, List.set_cons_zero, List.set_cons_succ]
                refine wpAnyH_ready (rs := [11]) (by kernel_rfl) (by simp) ?_
                refine AllReadyH.cons (o := ({ dst := some 69, op := Op.call { callee := Callee.value (Operand.func 28), args := #[Operand.tmp 58, Operand.tmp 63, Operand.tmp 68], argTypes := #[37, 22, 9] }, type := 4, pos := "ref.go:84", after := #[{ on := 0, ground := Ground.data }, { on := 5, ground := Ground.data }, { on := 10, ground := Ground.data }], guard := none } : Oper)) rfl (fun KK hKK => ?_) AllReadyH.nil
                go_simp
                (with_reducible refine (HC1.out _ RB0.out).mono ?_)
                rintro e0 y1 ⟨rfl, hw⟩
                have RB1 : Hid (Below wr.heap.size wr y1) := Lib.hid (by rw [hw]; exact RB0.out)
                clear hw
                refine hKK.out _ _ (RB1.out) (fun hH1 => ?_)
                clear hKK KK
                try simp only [Act.put, List.setIfInBounds_toArray, List.set_cons_zero, List.set_cons_succ]
                refine wpAnyH_take (i := 12) (oi := ({ dst := some 70, op := Op.unOp UnOp.not 4 (Operand.tmp 69), type := 4, pos := "ref.go:84", after := #[{ on := 11, ground := Ground.data }], guard := none } : Oper)) (v := ?hv10) rfl (by kernel_rfl) (by kernel_rfl) (by kernel_rfl) (fun _ _ _ h => h) (Or.inl ⟨by rfl, ?hy10⟩) (by assumption) ?hr10
                case hy10 => (intro w hSw; (try dsimp only at hSw); go_simp; (try with_reducible rfl))
                try simp only [Act.put, List.setIfInBounds_toArray, List.set_cons_zero, List.set_cons_succ]
                refine wpAnyH_take (i := 13) (oi := ({ dst := some 71, op := Op.move (Operand.tmp 70), type := 4, pos := "ref.go:84", after := #[{ on := 12, ground := Ground.data }, { on := 11, ground := Ground.chain }], guard := none } : Oper)) (v := ?hv11) rfl (by kernel_rfl) (by kernel_rfl) (by kernel_rfl) (fun _ _ _ h => h) (Or.inl ⟨by rfl, ?hy11⟩) (by assumption) ?hr11
                case hy11 => (intro w hSw; (try dsimp only at hSw); go_simp; (try with_reducible rfl))
                try simp only [Act.put, List.setIfInBounds_toArray, List.set_cons_zero, List.set_cons_succ]
                refine wpAnyH_take (i := 14) (oi := ({ dst := some 72, op := Op.move (Operand.tmp 11), type := 37, pos := "ref.go:84", after := #[{ on := 13, ground := Ground.guard }], guard := some (13, false) } : Oper)) (v := undef) rfl (by kernel_rfl) (by kernel_rfl) (by kernel_rfl) (fun _ _ _ h => h) (Or.inr ⟨by rfl, rfl⟩) (by assumption) ?_
                try simp only [Act.put, List.setIfInBounds_toArray, List.set_cons_zero, List.set_cons_succ]
                refine wpAnyH_take (i := 15) (oi := ({ dst := some 73, op := Op.move (Operand.tmp 8), type := 44, pos := "ref.go:84", after := #[{ on := 13, ground := Ground.guard }], guard := some (13, false) } : Oper)) (v := undef) rfl (by kernel_rfl) (by kernel_rfl) (by kernel_rfl) (fun _ _ _ h => h) (Or.inr ⟨by rfl, rfl⟩) (by assumption) ?_
                try simp only [Act.put, List.setIfInBounds_toArray, List.set_cons_zero, List.set_cons_succ]
                refine wpAnyH_take (i := 16) (oi := ({ dst := some 74, op := Op.move (Operand.tmp 12), type := 3, pos := "ref.go:84", after := #[{ on := 13, ground := Ground.guard }], guard := some (13, false) } : Oper)) (v := undef) rfl (by kernel_rfl) (by kernel_rfl) (by kernel_rfl) (fun _ _ _ h => h) (Or.inr ⟨by rfl, rfl⟩) (by assumption) ?_
                try simp only [Act.put, List.setIfInBounds_toArray, List.set_cons_zero, List.set_cons_succ]
                refine wpAnyH_take (i := 17) (oi := ({ dst := some 75, op := Op.indexAddr 44 (Operand.tmp 73) (Operand.tmp 74), type := 0, pos := "ref.go:84", after := #[{ on := 15, ground := Ground.data }, { on := 16, ground := Ground.data }, { on := 13, ground := Ground.guard }], guard := some (13, false) } : Oper)) (v := undef) rfl (by kernel_rfl) (by kernel_rfl) (by kernel_rfl) (fun _ _ _ h => h) (Or.inr ⟨by rfl, rfl⟩) (by assumption) ?_
                try simp only [Act.put, List.setIfInBounds_toArray, List.set_cons_zero, List.set_cons_succ]
                refine wpAnyH_take (i := 18) (oi := ({ dst := some 76, op := Op.fieldAddr 34 (Operand.tmp 75) 3, type := 0, pos := "ref.go:84", after := #[{ on := 17, ground := Ground.data }, { on := 13, ground := Ground.guard }], guard := some (13, false) } : Oper)) (v := undef) rfl (by kernel_rfl) (by kernel_rfl) (by kernel_rfl) (fun _ _ _ h => h) (Or.inr ⟨by rfl, rfl⟩) (by assumption) ?_
                try simp only [Act.put, List.setIfInBounds_toArray, List.set_cons_zero, List.set_cons_succ]
                refine wpAnyH_take (i := 19) (oi := ({ dst := some 77, op := Op.load 22 (Operand.tmp 76), type := 22, pos := "ref.go:84", after := #[{ on := 18, ground := Ground.data }, { on := 13, ground := Ground.guard }], guard := some (13, false) } : Oper)) (v := undef) rfl (by kernel_rfl) (by kernel_rfl) (by kernel_rfl) (fun _ _ _ h => h) (Or.inr ⟨by rfl, rfl⟩) (by assumption) ?_
                try simp only [Act.put, List.setIfInBounds_toArray, List.set_cons_zero, List.set_cons_succ]
                refine wpAnyH_take (i := 20) (oi := ({ dst := some 78, op := Op.move (Operand.tmp 8), type := 44, pos := "ref.go:84", after := #[{ on := 13, ground := Ground.guard }], guard := some (13, false) } : Oper)) (v := undef) rfl (by kernel_rfl) (by kernel_rfl) (by kernel_rfl) (fun _ _ _ h => h) (Or.inr ⟨by rfl, rfl⟩) (by assumption) ?_
                try simp only [Act.put, List.setIfInBounds_toArray, List.set_cons_zero, List.set_cons_succ]
                refine wpAnyH_take (i := 21) (oi := ({ dst := some 79, op := Op.move (Operand.tmp 12), type := 3, pos := "ref.go:84", after := #[{ on := 13, ground := Ground.guard }], guard := some (13, false) } : Oper)) (v := undef) rfl (by kernel_rfl) (by kernel_rfl) (by kernel_rfl) (fun _ _ _ h => h) (Or.inr ⟨by rfl, rfl⟩) (by assumption) ?_
                try simp only [Act.put, List.setIfInBounds_toArray, List.set_cons_zero, List.set_cons_succ]
                refine wpAnyH_take (i := 22) (oi := ({ dst := some 80, op := Op.indexAddr 44 (Operand.tmp 78) (Operand.tmp 79), type := 0, pos := "ref.go:84", after := #[{ on := 20, ground := Ground.data }, { on := 21, ground := Ground.data }, { on := 13, ground := Ground.guard }], guard := some (13, false) } : Oper)) (v := undef) rfl (by kernel_rfl) (by kernel_rfl) (by kernel_rfl) (fun _ _ _ h => h) (Or.inr ⟨by rfl, rfl⟩) (by assumption) ?_
                try simp only [Act.put, List.setIfInBounds_toArray, List.set_cons_zero, List.set_cons_succ]
                refine wpAnyH_take (i := 23) (oi := ({ dst := some 81, op := Op.fieldAddr 34 (Operand.tmp 80) 5, type := 0, pos := "ref.go:84", after := #[{ on := 22, ground := Ground.data }, { on := 13, ground := Ground.guard }], guard := some (13, false) } : Oper)) (v := undef) rfl (by kernel_rfl) (by kernel_rfl) (by kernel_rfl) (fun _ _ _ h => h) (Or.inr ⟨by rfl, rfl⟩) (by assumption) ?_
                try simp only [Act.put, List.setIfInBounds_toArray, List.set_cons_zero, List.set_cons_succ]
                refine wpAnyH_take (i := 24) (oi := ({ dst := some 82, op := Op.load 9 (Operand.tmp 81), type := 9, pos := "ref.go:84", after := #[{ on := 23, ground := Ground.data }, { on := 13, ground := Ground.guard }], guard := some (13, false) } : Oper)) (v := undef) rfl (by kernel_rfl) (by kernel_rfl) (by kernel_rfl) (fun _ _ _ h => h) (Or.inr ⟨by rfl, rfl⟩) (by assumption) ?_
                try simp only [Act.put, List.setIfInBounds_toArray, List.set_cons_zero, List.set_cons_succ]
                refine wpAnyH_ready (rs := [25]) (by kernel_rfl) (by simp) ?_
                refine AllReadyH.cons (o := ({ dst := some 83, op := Op.call { callee := Callee.value (Operand.func 28), args := #[Operand.tmp 72, Operand.tmp 77, Operand.tmp 82], argTypes := #[37, 22, 9] }, type := 4, pos := "ref.go:84", after := #[{ on := 14, ground := Ground.data }, { on := 19, ground := Ground.data }, { on := 24, ground := Ground.data }, { on := 13, ground := Ground.chain }, { on := 13, ground := Ground.guard }], guard := some (13, false) } : Oper)) rfl (fun KK hKK => ?_) AllReadyH.nil
                go_simp
                refine hKK.out _ _ (hH1) (fun hH2 => ?_)
                clear hKK KK
                try simp only [Act.put, List.setIfInBounds_toArray, List.set_cons_zero, List.set_cons_succ]
                refine wpAnyH_take (i := 26) (oi := ({ dst := some 84, op := Op.pick (Operand.tmp 71) (Operand.const (Value.bool true)) (Operand.tmp 83), type := 4, pos := "ref.go:84", after := #[{ on := 13, ground := Ground.data }, { on := 25, ground := Ground.data }], guard := none } : Oper)) (v := ?hv12) rfl (by kernel_rfl) (by kernel_rfl) (by kernel_rfl) (fun _ _ _ h => h) (Or.inl ⟨by rfl, ?hy12⟩) (by assumption) ?hr12
                case hy12 => (intro w hSw; (try dsimp only at hSw); go_simp; (try with_reducible rfl))
                try simp only [Act.put, List.setIfInBounds_toArray, List.set_cons_zero, List.set_cons_succ]
                refine wpAnyH_done (by kernel_rfl) ?_ _
                go_wp2
                go_ret
                exact ⟨ret_i6 HE.out.symm, BW.out.trans (RB1.out.mono BW.out.size)⟩
              | true =>
                rw [t1] at HC1 HBd
                cases t2 : (ps.take kk).any (isK kd ke) with
                | true =>
                  rw [t2] at HC2 HBd
                  have HE : Hid (fitsE E n e = 16) := Lib.hid (by rw [HEs2.out, if_pos (HBk.out (by rw [HBd.out]; rfl))])
                  clear t1 t2 HBd HBk HJ1
                  subst hv
                  go_upto_region 18 with (fail)
                  refine wp_region_held_drew (S := (fun y => Below wr.heap.size wr y)) (by kernel_rfl) ((Below.refl wr.heap.size wr).drew) (fun hH0 => ?_)
                  generalize hy0 : World.drew _ = y0 at hH0 ⊢
                  have RB0 : Hid (Below wr.heap.size wr y0) := Lib.hid hH0
                  clear hy0
                  refine wpAnyH_take (i := 0) (oi := ({ dst := some 58, op := Op.move (Operand.tmp 10), type := 37, pos := "ref.go:84", after := #[], guard := none } : Oper)) (v := ?hv13) rfl (by kernel_rfl) (by kernel_rfl) (by kernel_rfl) (fun _ _ _ h => h) (Or.inl ⟨by rfl, ?hy13⟩) (by assumption) ?hr13
                  case hy13 => (intro w hSw; (try dsimp only at hSw); go_simp; (try with_reducible rfl))
                  try simp only [Act.put, List.setIfInBounds_toArray, List.set_cons_zero, List.set_cons_succ]
                  refine wpAnyH_take (i := 1) (oi := ({ dst := some 59, op := Op.move (Operand.tmp 8), type := 44, pos := "ref.go:84", after := #[], guard := none } : Oper)) (v := ?hv14) rfl (by kernel_rfl) (by kernel_rfl) (by kernel_rfl) (fun _ _ _ h => h) (Or.inl ⟨by rfl, ?hy14⟩) (by assumption) ?hr14
                  case hy14 => (intro w hSw; (try dsimp only at hSw); go_simp; (try with_reducible rfl))
                  try simp only [Act.put, List.setIfInBounds_toArray, List.set_cons_zero, List.set_cons_succ]
                  refine wpAnyH_take (i := 2) (oi := ({ dst := some 60, op := Op.move (Operand.tmp 12), type := 3, pos := "ref.go:84", after := #[], guard := none } : Oper)) (v := ?hv15) rfl (by kernel_rfl) (by kernel_rfl) (by kernel_rfl) (fun _ _ _ h => h) (Or.inl ⟨by rfl, ?hy15⟩) (by assumption) ?hr15
                  case hy15 => (intro w hSw; (try dsimp only at hSw); go_simp; (try with_reducible rfl))
                  try simp only [Act.put, List.setIfInBounds_toArray, List.set_cons_zero, List.set_cons_succ]
                  refine wpAnyH_take (i := 3) (oi := ({ dst := some 61, op := Op.indexAddr 44 (Operand.tmp 59) (Operand.tmp 60), type := 0, pos := "ref.go:84", after := #[{ on := 1, ground := Ground.data }, { on := 2, ground := Ground.data }], guard := none } : Oper)) (v := ?hv16) rfl (by kernel_rfl) (by kernel_rfl) (by kernel_rfl) (fun _ _ _ h => h) (Or.inl ⟨by rfl, ?hy16⟩) (by assumption) ?hr16
                  case hy16 => (intro w hSw; (try dsimp only at hSw); go_simp; (try with_reducible rfl))
                  try simp only [Act.put, List.setIfInBounds_toArray, List.set_cons_zero, List.set_cons_succ]
                  refine wpAnyH_take (i := 4) (oi := ({ dst := some 62, op := Op.fieldAddr 34 (Operand.tmp 61) 3, type := 0, pos := "ref.go:84", after := #[{ on := 3, ground := Ground.data }], guard := none } : Oper)) (v := ?hv17) rfl (by kernel_rfl) (by kernel_rfl) (by kernel_rfl) (fun _ _ _ h => h) (Or.inl ⟨by rfl, ?hy17⟩) (by assumption) ?hr17
                  case hy17 => (intro w hSw; (try dsimp only at hSw); go_simp; (try with_reducible rfl))
                  try simp only [Act.put, List.setIfInBounds_toArray, List.set_cons_zero, List.set_cons_succ]
                  refine wpAnyH_take (i := 5) (oi := ({ dst := some 63, op := Op.load 22 (Operand.tmp 62), type := 22, pos := "ref.go:84", after := #[{ on := 4, ground := Ground.data }], guard := none } : Oper)) (v := .int .i64 kd) rfl (by kernel_rfl) (by kernel_rfl) (by kernel_rfl) (fun _ _ _ h => h) (Or.inl ⟨by rfl, fun w0 hw0 => by obtain ⟨q0, q1⟩ := HQ.out w0 hw0; go_simp⟩) (by assumption) ?_
                  try simp only [Act.put, List.setIfInBounds_toArray, List.set_cons_zero, List.set_cons_succ]
                  refine wpAnyH_take (i := 6) (oi := ({ dst := some 64, op := Op.move (Operand.tmp 8), type := 44, pos := "ref.go:84", after := #[], guard := none } : Oper)) (v := ?hv18) rfl (by kernel_rfl) (by kernel_rfl) (by kernel_rfl) (fun _ _ _ h => h) (Or.inl ⟨by rfl, ?hy18⟩) (by assumption) ?hr18
                  case hy18 => (intro w hSw; (try dsimp only at hSw); go_simp; (try with_reducible rfl))
                  try simp only [Act.put, List.setIfInBounds_toArray, List.set_cons_zero, List.set_cons_succ]
                  refine wpAnyH_take (i := 7) (oi := ({ dst := some 65, op := Op.move (Operand.tmp 12), type := 3, pos := "ref.go:84", after := #[], guard := none } : Oper)) (v := ?hv19) rfl (by kernel_rfl) (by kernel_rfl) (by kernel_rfl) (fun _ _ _ h => h) (Or.inl ⟨by rfl, ?hy19⟩) (by assumption) ?hr19
                  case hy19 => (intro w hSw; (try dsimp only at hSw); go_simp; (try with_reducible rfl))
                  try simp only [Act.put, List.setIfInBounds_toArray, List.set_cons_zero, List.set_cons_succ]
                  refine wpAnyH_take (i := 8) (oi := ({ dst := some 66, op := Op.indexAddr 44 (Operand.tmp 64) (Operand.tmp 65), type := 0, pos := "ref.go:84", after := #[{ on := 6, ground := Ground.data }, { on := 7, ground := Ground.data }], guard := none } : Oper)) (v := ?hv20) rfl (by kernel_rfl) (by kernel_rfl) (by kernel_rfl) (fun _ _ _ h => h) (Or.inl ⟨by rfl, ?hy20⟩) (by assumption) ?hr20
                  case hy20 => (intro w hSw; (try dsimp only at hSw); go_simp; (try with_reducible rfl))
                  try simp only [Act.put, List.setIfInBounds_toArray, List.set_cons_zero, List.set_cons_succ]
                  refine wpAnyH_take (i := 9) (oi := ({ dst := some 67, op := Op.fieldAddr 34 (Operand.tmp 66) 5, type := 0, pos := "ref.go:84", after := #[{ on := 8, ground := Ground.data }], guard := none } : Oper)) (v := ?hv21) rfl (by kernel_rfl) (by kernel_rfl) (by kernel_rfl) (fun _ _ _ h => h) (Or.inl ⟨by rfl, ?hy21⟩) (by assumption) ?hr21
                  case hy21 => (intro w hSw; (try dsimp only at hSw); go_simp; (try with_reducible rfl))
                  try simp only [Act.put, List.setIfInBounds_toArray, List.set_cons_zero, List.set_cons_succ]
                  refine wpAnyH_take (i := 10) (oi := ({ dst := some 68, op := Op.load 9 (Operand.tmp 67), type := 9, pos := "ref.go:84", after := #[{ on := 9, ground := Ground.data }], guard := none } : Oper)) (v := .string ke) rfl (by kernel_rfl) (by kernel_rfl) (by kernel_rfl) (fun _ _ _ h => h) (Or.inl ⟨by rfl, fun w0 hw0 => by obtain ⟨q0, q1⟩ := HQ.out w0 hw0; go_simp⟩) (by assumption) ?_
                  try simp only [Act.put, List.setIfInBounds_toArray, List.set_cons_zero, List.set_cons_succ]
                  refine wpAnyH_ready (rs := [11]) (by kernel_rfl) (by simp) ?_
                  refine AllReadyH.cons (o := ({ dst := some 69, op := Op.call { callee := Callee.value (Operand.func 28), args := #[Operand.tmp 58, Operand.tmp 63, Operand.tmp 68], argTypes := #[37, 22, 9] }, type := 4, pos := "ref.go:84", after := #[{ on := 0, ground := Ground.data }, { on := 5, ground := Ground.data }, { on := 10, ground := Ground.data }], guard := none } : Oper)) rfl (fun KK hKK => ?_) AllReadyH.nil
                  go_simp
                  (with_reducible refine (HC1.out _ RB0.out).mono ?_)
                  rintro e0 y1 ⟨rfl, hw⟩
                  have RB1 : Hid (Below wr.heap.size wr y1) := Lib.hid (by rw [hw]; exact RB0.out)
                  clear hw
                  refine hKK.out _ _ (RB1.out) (fun hH1 => ?_)
                  clear hKK KK
                  try simp only [Act.put, List.setIfInBounds_toArray, List.set_cons_zero, List.set_cons_succ]
                  refine wpAnyH_take (i := 12) (oi := ({ dst := some 70, op := Op.unOp UnOp.not 4 (Operand.tmp 69), type := 4, pos := "ref.go:84", after := #[{ on := 11, ground := Ground.data }], guard := none } : Oper)) (v := ?hv22) rfl (by kernel_rfl) (by kernel_rfl) (by kernel_rfl) (fun _ _ _ h => h) (Or.inl ⟨by rfl, ?hy22⟩) (by assumption) ?hr22
                  case hy22 => (intro w hSw; (try dsimp only at hSw); go_simp; (try with_reducible rfl))
                  try simp only [Act.put, List.setIfInBounds_toArray, List.set_cons_zero, List.set_cons_succ]
                  refine wpAnyH_take (i := 13) (oi := ({ dst := some 71, op := Op.move (Operand.tmp 70), type := 4, pos := "ref.go:84", after := #[{ on := 12, ground := Ground.data }, { on := 11, ground := Ground.chain }], guard := none } : Oper)) (v := ?hv23) rfl (by kernel_rfl) (by kernel_rfl) (by kernel_rfl) (fun _ _ _ h => h) (Or.inl ⟨by rfl, ?hy23⟩) (by assumption) ?hr23
                  case hy23 => (intro w hSw; (try dsimp only at hSw); go_simp; (try with_reducible rfl))
                  try simp only [Act.put, List.setIfInBounds_toArray, List.set_cons_zero, List.set_cons_succ]
                  refine wpAnyH_take (i := 14) (oi := ({ dst := some 72, op := Op.move (Operand.tmp 11), type := 37, pos := "ref.go:84", after := #[{ on := 13, ground := Ground.guard }], guard := some (13, false) } : Oper)) (v := ?hv24) rfl (by kernel_rfl) (by kernel_rfl) (by kernel_rfl) (fun _ _ _ h => h) (Or.inl ⟨by rfl, ?hy24⟩) (by assumption) ?hr24
                  case hy24 => (intro w hSw; (try dsimp only at hSw); go_simp; (try with_reducible rfl))
                  try simp only [Act.put, List.setIfInBounds_toArray, List.set_cons_zero, List.set_cons_succ]
                  refine wpAnyH_take (i := 15) (oi := ({ dst := some 73, op := Op.move (Operand.tmp 8), type := 44, pos := "ref.go:84", after := #[{ on := 13, ground := Ground.guard }], guard := some (13, false) } : Oper)) (v := ?hv25) rfl (by kernel_rfl) (by kernel_rfl) (by kernel_rfl) (fun _ _ _ h => h) (Or.inl ⟨by rfl, ?hy25⟩) (by assumption) ?hr25
                  case hy25 => (intro w hSw; (try dsimp only at hSw); go_simp; (try with_reducible rfl))
                  try simp only [Act.put, List.setIfInBounds_toArray, List.set_cons_zero, List.set_cons_succ]
                  refine wpAnyH_take (i := 16) (oi := ({ dst := some 74, op := Op.move (Operand.tmp 12), type := 3, pos := "ref.go:84", after := #[{ on := 13, ground := Ground.guard }], guard := some (13, false) } : Oper)) (v := ?hv26) rfl (by kernel_rfl) (by kernel_rfl) (by kernel_rfl) (fun _ _ _ h => h) (Or.inl ⟨by rfl, ?hy26⟩) (by assumption) ?hr26
                  case hy26 => (intro w hSw; (try dsimp only at hSw); go_simp; (try with_reducible rfl))
                  try simp only [Act.put, List.setIfInBounds_toArray, List.set_cons_zero, List.set_cons_succ]
                  refine wpAnyH_take (i := 17) (oi := ({ dst := some 75, op := Op.indexAddr 44 (Operand.tmp 73) (Operand.tmp 74), type := 0, pos := "ref.go:84", after := #[{ on := 15, ground := Ground.data }, { on := 16, ground := Ground.data }, { on := 13, ground := Ground.guard }], guard := some (13, false) } : Oper)) (v := ?hv27) rfl (by kernel_rfl) (by kernel_rfl) (by kernel_rfl) (fun _ _ _ h => h) (Or.inl ⟨by rfl, ?hy27⟩) (by assumption) ?hr27
                  case hy27 => (intro w hSw; (try dsimp only at hSw); go_simp; (try with_reducible rfl))
                  try simp only [Act.put, List.setIfInBounds_toArray, List.set_cons_zero, List.set_cons_succ]
                  refine wpAnyH_take (i := 18) (oi := ({ dst := some 76, op := Op.fieldAddr 34 (Operand.tmp 75) 3, type := 0, pos := "ref.go:84", after := #[{ on := 17, ground := Ground.data }, { on := 13, ground := Ground.guard }], guard := some (13, false) } : Oper)) (v := ?hv28) rfl (by kernel_rfl) (by kernel_rfl) (by kernel_rfl) (fun _ _ _ h => h) (Or.inl ⟨by rfl, ?hy28⟩) (by assumption) ?hr28
                  case hy28 => (intro w hSw; (try dsimp only at hSw); go_simp; (try with_reducible rfl))
                  try simp only [Act.put, List.setIfInBounds_toArray, List.set_cons_zero, List.set_cons_succ]
                  refine wpAnyH_take (i := 19) (oi := ({ dst := some 77, op := Op.load 22 (Operand.tmp 76), type := 22, pos := "ref.go:84", after := #[{ on := 18, ground := Ground.data }, { on := 13, ground := Ground.guard }], guard := some (13, false) } : Oper)) (v := .int .i64 kd) rfl (by kernel_rfl) (by kernel_rfl) (by kernel_rfl) (fun _ _ _ h => h) (Or.inl ⟨by rfl, fun w0 hw0 => by obtain ⟨q0, q1⟩ := HQ.out w0 hw0; go_simp⟩) (by assumption) ?_
                  try simp only [Act.put, List.setIfInBounds_toArray, List.set_cons_zero, List.set_cons_succ]
                  refine wpAnyH_take (i := 20) (oi := ({ dst := some 78, op := Op.move (Operand.tmp 8), type := 44, pos := "ref.go:84", after := #[{ on := 13, ground := Ground.guard }], guard := some (13, false) } : Oper)) (v := ?hv29) rfl (by kernel_rfl) (by kernel_rfl) (by kernel_rfl) (fun _ _ _ h => h) (Or.inl ⟨by rfl, ?hy29⟩) (by assumption) ?hr29
                  case hy29 => (intro w hSw; (try dsimp only at hSw); go_simp; (try with_reducible rfl))
                  try simp only [Act.put, List.setIfInBounds_toArray, List.set_cons_zero, List.set_cons_succ]
                  refine wpAnyH_take (i := 21) (oi := ({ dst := some 79, op := Op.move (Operand.tmp 12), type := 3, pos := "ref.go:84", after := #[{ on := 13, ground := Ground.guard }], guard := some (13, false) } : Oper)) (v := ?hv30) rfl (by kernel_rfl) (by kernel_rfl) (by kernel_rfl) (fun _ _ _ h => h) (Or.inl ⟨by rfl, ?hy30⟩) (by assumption) ?hr30
                  case hy30 => (intro w hSw; (try dsimp only at hSw); go_simp; (try with_reducible rfl))
                  try simp only [Act.put, List.setIfInBounds_toArray, List.set_cons_zero, List.set_cons_succ]
                  refine wpAnyH_take (i := 22) (oi := ({ dst := some 80, op := Op.indexAddr 44 (Operand.tmp 78) (Operand.tmp 79), type := 0, pos := "ref.go:84", after := #[{ on := 20, ground := Ground.data }, { on := 21, ground := Ground.data }, { on := 13, ground := Ground.guard }], guard := some (13, false) } : Oper)) (v := ?hv31) rfl (by kernel_rfl) (by kernel_rfl) (by kernel_rfl) (fun _ _ _ h => h) (Or.inl ⟨by rfl, ?hy31⟩) (by assumption) ?hr31
                  case hy31 => (intro w hSw; (try dsimp only at hSw); go_simp; (try with_reducible rfl))
                  try simp only [Act.put, List.setIfInBounds_toArray, List.set_cons_zero, List.set_cons_succ]
                  refine wpAnyH_take (i := 23) (oi := ({ dst := some 81, op := Op.fieldAddr 34 (Operand.tmp 80) 5, type := 0, pos := "ref.go:84", after := #[{ on := 22, ground := Ground.data }, { on := 13, ground := Ground.guard }], guard := some (13, false) } : Oper)) (v := ?hv32) rfl (by kernel_rfl) (by kernel_rfl) (by kernel_rfl) (fun _ _ _ h => h) (Or.inl ⟨by rfl, ?hy32⟩) (by assumption) ?hr32
                  case hy32 => (intro w hSw; (try dsimp only at hSw); go_simp; (try with_reducible rfl))
                  try simp only [Act.put, List.setIfInBounds_toArray, List.set_cons_zero, List.set_cons_succ]
                  refine wpAnyH_take (i := 24) (oi := ({ dst := some 82, op := Op.load 9 (Operand.tmp 81), type := 9, pos := "ref.go:84", after := #[{ on := 23, ground := Ground.data }, { on := 13, ground := Ground.guard }], guard := some (13, false) } : Oper)) (v := .string ke) rfl (by kernel_rfl) (by kernel_rfl) (by kernel_rfl) (fun _ _ _ h => h) (Or.inl ⟨by rfl, fun w0 hw0 => by obtain ⟨q0, q1⟩ := HQ.out w0 hw0; go_simp⟩) (by assumption) ?_
                  try simp only [Act.put, List.setIfInBounds_toArray, List.set_cons_zero, List.set_cons_succ]
                  refine wpAnyH_ready (rs := [25]) (by kernel_rfl) (by simp) ?_
                  refine AllReadyH.cons (o := ({ dst := some 83, op := Op.call { callee := Callee.value (Operand.func 28), args := #[Operand.tmp 72, Operand.tmp 77, Operand.tmp 82], argTypes := #[37, 22, 9] }, type := 4, pos := "ref.go:84", after := #[{ on := 14, ground := Ground.data }, { on := 19, ground := Ground.data }, { on := 24, ground := Ground.data }, { on := 13, ground := Ground.chain }, { on := 13, ground := Ground.guard }], guard := some (13, false) } : Oper)) rfl (fun KK hKK => ?_) AllReadyH.nil
                  go_simp
                  (with_reducible refine (HC2.out _ RB1.out).mono ?_)
                  rintro e0 y2 ⟨rfl, hw⟩
                  have RB2 : Hid (Below wr.heap.size wr y2) := Lib.hid (by rw [hw]; exact RB1.out)
                  clear hw
                  refine hKK.out _ _ (RB2.out) (fun hH2 => ?_)
                  clear hKK KK
                  try simp only [Act.put, List.setIfInBounds_toArray, List.set_cons_zero, List.set_cons_succ]
                  refine wpAnyH_take (i := 26) (oi := ({ dst := some 84, op := Op.pick (Operand.tmp 71) (Operand.const (Value.bool true)) (Operand.tmp 83), type := 4, pos := "ref.go:84", after := #[{ on := 13, ground := Ground.data }, { on := 25, ground := Ground.data }], guard := none } : Oper)) (v := ?hv33) rfl (by kernel_rfl) (by kernel_rfl) (by kernel_rfl) (fun _ _ _ h => h) (Or.inl ⟨by rfl, ?hy33⟩) (by assumption) ?hr33
                  case hy33 => (intro w hSw; (try dsimp only at hSw); go_simp; (try with_reducible rfl))
                  try simp only [Act.put, List.setIfInBounds_toArray, List.set_cons_zero, List.set_cons_succ]
                  refine wpAnyH_done (by kernel_rfl) ?_ _
                  go_wp2
                  go_ret
                  exact ⟨ret_i6 HE.out.symm, BW.out.trans (RB2.out.mono BW.out.size)⟩
                | false =>
                  rw [t2] at HC2 HBd
                  have HJ3 := Lib.hid (HJ1.out (by rw [HBd.out]; rfl))
                  clear t1 t2 HBd HBk HJ1
                  subst hv
                  go_upto_region 18 with (fail)
                  refine wp_region_held_drew (S := (fun y => Below wr.heap.size wr y)) (by kernel_rfl) ((Below.refl wr.heap.size wr).drew) (fun hH0 => ?_)
                  generalize hy0 : World.drew _ = y0 at hH0 ⊢
                  have RB0 : Hid (Below wr.heap.size wr y0) := Lib.hid hH0
                  clear hy0
                  refine wpAnyH_take (i := 0) (oi := ({ dst := some 58, op := Op.move (Operand.tmp 10), type := 37, pos := "ref.go:84", after := #[], guard := none } : Oper)) (v := ?hv56) rfl (by kernel_rfl) (by kernel_rfl) (by kernel_rfl) (fun _ _ _ h => h) (Or.inl ⟨by rfl, ?hy56⟩) (by assumption) ?hr56
                  case hy56 => (intro w hSw; (try dsimp only at hSw); go_simp; (try with_reducible rfl))
                  try simp only [Act.put, List.setIfInBounds_toArray, List.set_cons_zero, List.set_cons_succ]
                  refine wpAnyH_take (i := 1) (oi := ({ dst := some 59, op := Op.move (Operand.tmp 8), type := 44, pos := "ref.go:84", after := #[], guard := none } : Oper)) (v := ?hv57) rfl (by kernel_rfl) (by kernel_rfl) (by kernel_rfl) (fun _ _ _ h => h) (Or.inl ⟨by rfl, ?hy57⟩) (by assumption) ?hr57
                  case hy57 => (intro w hSw; (try dsimp only at hSw); go_simp; (try with_reducible rfl))
                  try simp only [Act.put, List.setIfInBounds_toArray, List.set_cons_zero, List.set_cons_succ]
                  refine wpAnyH_take (i := 2) (oi := ({ dst := some 60, op := Op.move (Operand.tmp 12), type := 3, pos := "ref.go:84", after := #[], guard := none } : Oper)) (v := ?hv58) rfl (by kernel_rfl) (by kernel_rfl) (by kernel_rfl) (fun _ _ _ h => h) (Or.inl ⟨by rfl, ?hy58⟩) (by assumption) ?hr58
                  case hy58 => (intro w hSw; (try dsimp only at hSw); go_simp; (try with_reducible rfl))
                  try simp only [Act.put, List.setIfInBounds_toArray, List.set_cons_zero, List.set_cons_succ]
                  refine wpAnyH_take (i := 3) (oi := ({ dst := some 61, op := Op.indexAddr 44 (Operand.tmp 59) (Operand.tmp 60), type := 0, pos := "ref.go:84", after := #[{ on := 1, ground := Ground.data }, { on := 2, ground := Ground.data }], guard := none } : Oper)) (v := ?hv59) rfl (by kernel_rfl) (by kernel_rfl) (by kernel_rfl) (fun _ _ _ h => h) (Or.inl ⟨by rfl, ?hy59⟩) (by assumption) ?hr59
                  case hy59 => (intro w hSw; (try dsimp only at hSw); go_simp; (try with_reducible rfl))
                  try simp only [Act.put, List.setIfInBounds_toArray, List.set_cons_zero, List.set_cons_succ]
                  refine wpAnyH_take (i := 4) (oi := ({ dst := some 62, op := Op.fieldAddr 34 (Operand.tmp 61) 3, type := 0, pos := "ref.go:84", after := #[{ on := 3, ground := Ground.data }], guard := none } : Oper)) (v := ?hv60) rfl (by kernel_rfl) (by kernel_rfl) (by kernel_rfl) (fun _ _ _ h => h) (Or.inl ⟨by rfl, ?hy60⟩) (by assumption) ?hr60
                  case hy60 => (intro w hSw; (try dsimp only at hSw); go_simp; (try with_reducible rfl))
                  try simp only [Act.put, List.setIfInBounds_toArray, List.set_cons_zero, List.set_cons_succ]
                  refine wpAnyH_take (i := 5) (oi := ({ dst := some 63, op := Op.load 22 (Operand.tmp 62), type := 22, pos := "ref.go:84", after := #[{ on := 4, ground := Ground.data }], guard := none } : Oper)) (v := .int .i64 kd) rfl (by kernel_rfl) (by kernel_rfl) (by kernel_rfl) (fun _ _ _ h => h) (Or.inl ⟨by rfl, fun w0 hw0 => by obtain ⟨q0, q1⟩ := HQ.out w0 hw0; go_simp⟩) (by assumption) ?_
                  try simp only [Act.put, List.setIfInBounds_toArray, List.set_cons_zero, List.set_cons_succ]
                  refine wpAnyH_take (i := 6) (oi := ({ dst := some 64, op := Op.move (Operand.tmp 8), type := 44, pos := "ref.go:84", after := #[], guard := none } : Oper)) (v := ?hv61) rfl (by kernel_rfl) (by kernel_rfl) (by kernel_rfl) (fun _ _ _ h => h) (Or.inl ⟨by rfl, ?hy61⟩) (by assumption) ?hr61
                  case hy61 => (intro w hSw; (try dsimp only at hSw); go_simp; (try with_reducible rfl))
                  try simp only [Act.put, List.setIfInBounds_toArray, List.set_cons_zero, List.set_cons_succ]
                  refine wpAnyH_take (i := 7) (oi := ({ dst := some 65, op := Op.move (Operand.tmp 12), type := 3, pos := "ref.go:84", after := #[], guard := none } : Oper)) (v := ?hv62) rfl (by kernel_rfl) (by kernel_rfl) (by kernel_rfl) (fun _ _ _ h => h) (Or.inl ⟨by rfl, ?hy62⟩) (by assumption) ?hr62
                  case hy62 => (intro w hSw; (try dsimp only at hSw); go_simp; (try with_reducible rfl))
                  try simp only [Act.put, List.setIfInBounds_toArray, List.set_cons_zero, List.set_cons_succ]
                  refine wpAnyH_take (i := 8) (oi := ({ dst := some 66, op := Op.indexAddr 44 (Operand.tmp 64) (Operand.tmp 65), type := 0, pos := "ref.go:84", after := #[{ on := 6, ground := Ground.data }, { on := 7, ground := Ground.data }], guard := none } : Oper)) (v := ?hv63) rfl (by kernel_rfl) (by kernel_rfl) (by kernel_rfl) (fun _ _ _ h => h) (Or.inl ⟨by rfl, ?hy63⟩) (by assumption) ?hr63
                  case hy63 => (intro w hSw; (try dsimp only at hSw); go_simp; (try with_reducible rfl))
                  try simp only [Act.put, List.setIfInBounds_toArray, List.set_cons_zero, List.set_cons_succ]
                  refine wpAnyH_take (i := 9) (oi := ({ dst := some 67, op := Op.fieldAddr 34 (Operand.tmp 66) 5, type := 0, pos := "ref.go:84", after := #[{ on := 8, ground := Ground.data }], guard := none } : Oper)) (v := ?hv64) rfl (by kernel_rfl) (by kernel_rfl) (by kernel_rfl) (fun _ _ _ h => h) (Or.inl ⟨by rfl, ?hy64⟩) (by assumption) ?hr64
                  case hy64 => (intro w hSw; (try dsimp only at hSw); go_simp; (try with_reducible rfl))
                  try simp only [Act.put, List.setIfInBounds_toArray, List.set_cons_zero, List.set_cons_succ]
                  refine wpAnyH_take (i := 10) (oi := ({ dst := some 68, op := Op.load 9 (Operand.tmp 67), type := 9, pos := "ref.go:84", after := #[{ on := 9, ground := Ground.data }], guard := none } : Oper)) (v := .string ke) rfl (by kernel_rfl) (by kernel_rfl) (by kernel_rfl) (fun _ _ _ h => h) (Or.inl ⟨by rfl, fun w0 hw0 => by obtain ⟨q0, q1⟩ := HQ.out w0 hw0; go_simp⟩) (by assumption) ?_
                  try simp only [Act.put, List.setIfInBounds_toArray, List.set_cons_zero, List.set_cons_succ]
                  refine wpAnyH_ready (rs := [11]) (by kernel_rfl) (by simp) ?_
                  refine AllReadyH.cons (o := ({ dst := some 69, op := Op.call { callee := Callee.value (Operand.func 28), args := #[Operand.tmp 58, Operand.tmp 63, Operand.tmp 68], argTypes := #[37, 22, 9] }, type := 4, pos := "ref.go:84", after := #[{ on := 0, ground := Ground.data }, { on := 5, ground := Ground.data }, { on := 10, ground := Ground.data }], guard := none } : Oper)) rfl (fun KK hKK => ?_) AllReadyH.nil
                  go_simp
                  (with_reducible refine (HC1.out _ RB0.out).mono ?_)
                  rintro e0 y1 ⟨rfl, hw⟩
                  have RB1 : Hid (Below wr.heap.size wr y1) := Lib.hid (by rw [hw]; exact RB0.out)
                  clear hw
                  refine hKK.out _ _ (RB1.out) (fun hH1 => ?_)
                  clear hKK KK
                  try simp only [Act.put, List.setIfInBounds_toArray, List.set_cons_zero, List.set_cons_succ]
                  refine wpAnyH_take (i := 12) (oi := ({ dst := some 70, op := Op.unOp UnOp.not 4 (Operand.tmp 69), type := 4, pos := "ref.go:84", after := #[{ on := 11, ground := Ground.data }], guard := none } : Oper)) (v := ?hv65) rfl (by kernel_rfl) (by kernel_rfl) (by kernel_rfl) (fun _ _ _ h => h) (Or.inl ⟨by rfl, ?hy65⟩) (by assumption) ?hr65
                  case hy65 => (intro w hSw; (try dsimp only at hSw); go_simp; (try with_reducible rfl))
                  try simp only [Act.put, List.setIfInBounds_toArray, List.set_cons_zero, List.set_cons_succ]
                  refine wpAnyH_take (i := 13) (oi := ({ dst := some 71, op := Op.move (Operand.tmp 70), type := 4, pos := "ref.go:84", after := #[{ on := 12, ground := Ground.data }, { on := 11, ground := Ground.chain }], guard := none } : Oper)) (v := ?hv66) rfl (by kernel_rfl) (by kernel_rfl) (by kernel_rfl) (fun _ _ _ h => h) (Or.inl ⟨by rfl, ?hy66⟩) (by assumption) ?hr66
                  case hy66 => (intro w hSw; (try dsimp only at hSw); go_simp; (try with_reducible rfl))
                  try simp only [Act.put, List.setIfInBounds_toArray, List.set_cons_zero, List.set_cons_succ]
                  refine wpAnyH_take (i := 14) (oi := ({ dst := some 72, op := Op.move (Operand.tmp 11), type := 37, pos := "ref.go:84", after := #[{ on := 13, ground := Ground.guard }], guard := some (13, false) } : Oper)) (v := ?hv67) rfl (by kernel_rfl) (by kernel_rfl) (by kernel_rfl) (fun _ _ _ h => h) (Or.inl ⟨by rfl, ?hy67⟩) (by assumption) ?hr67
                  case hy67 => (intro w hSw; (try dsimp only at hSw); go_simp; (try with_reducible rfl))
                  try simp only [Act.put, List.setIfInBounds_toArray, List.set_cons_zero, List.set_cons_succ]
                  refine wpAnyH_take (i := 15) (oi := ({ dst := some 73, op := Op.move (Operand.tmp 8), type := 44, pos := "ref.go:84", after := #[{ on := 13, ground := Ground.guard }], guard := some (13, false) } : Oper)) (v := ?hv68) rfl (by kernel_rfl) (by kernel_rfl) (by kernel_rfl) (fun _ _ _ h => h) (Or.inl ⟨by rfl, ?hy68⟩) (by assumption) ?hr68
                  case hy68 => (intro w hSw; (try dsimp only at hSw); go_simp; (try with_reducible rfl))
                  try simp only [Act.put, List.setIfInBounds_toArray, List.set_cons_zero, List.set_cons_succ]
                  refine wpAnyH_take (i := 16) (oi := ({ dst := some 74, op := Op.move (Operand.tmp 12), type := 3, pos := "ref.go:84", after := #[{ on := 13, ground := Ground.guard }], guard := some (13, false) } : Oper)) (v := ?hv69) rfl (by kernel_rfl) (by kernel_rfl) (by kernel_rfl) (fun _ _ _ h => h) (Or.inl ⟨by rfl, ?hy69⟩) (by assumption) ?hr69
                  case hy69 => (intro w hSw; (try dsimp only at hSw); go_simp; (try with_reducible rfl))
                  try simp only [Act.put, List.setIfInBounds_toArray, List.set_cons_zero, List.set_cons_succ]
                  refine wpAnyH_take (i := 17) (oi := ({ dst := some 75, op := Op.indexAddr 44 (Operand.tmp 73) (Operand.tmp 74), type := 0, pos := "ref.go:84", after := #[{ on := 15, ground := Ground.data }, { on := 16, ground := Ground.data }, { on := 13, ground := Ground.guard }], guard := some (13, false) } : Oper)) (v := ?hv70) rfl (by kernel_rfl) (by kernel_rfl) (by kernel_rfl) (fun _ _ _ h => h) (Or.inl ⟨by rfl, ?hy70⟩) (by assumption) ?hr70
                  case hy70 => (intro w hSw; (try dsimp only at hSw); go_simp; (try with_reducible rfl))
                  try simp only [Act.put, List.setIfInBounds_toArray, List.set_cons_zero, List.set_cons_succ]
                  refine wpAnyH_take (i := 18) (oi := ({ dst := some 76, op := Op.fieldAddr 34 (Operand.tmp 75) 3, type := 0, pos := "ref.go:84", after := #[{ on := 17, ground := Ground.data }, { on := 13, ground := Ground.guard }], guard := some (13, false) } : Oper)) (v := ?hv71) rfl (by kernel_rfl) (by kernel_rfl) (by kernel_rfl) (fun _ _ _ h => h) (Or.inl ⟨by rfl, ?hy71⟩) (by assumption) ?hr71
                  case hy71 => (intro w hSw; (try dsimp only at hSw); go_simp; (try with_reducible rfl))
                  try simp only [Act.put, List.setIfInBounds_toArray, List.set_cons_zero, List.set_cons_succ]
                  refine wpAnyH_take (i := 19) (oi := ({ dst := some 77, op := Op.load 22 (Operand.tmp 76), type := 22, pos := "ref.go:84", after := #[{ on := 18, ground := Ground.data }, { on := 13, ground := Ground.guard }], guard := some (13, false) } : Oper)) (v := .int .i64 kd) rfl (by kernel_rfl) (by kernel_rfl) (by kernel_rfl) (fun _ _ _ h => h) (Or.inl ⟨by rfl, fun w0 hw0 => by obtain ⟨q0, q1⟩ := HQ.out w0 hw0; go_simp⟩) (by assumption) ?_
                  try simp only [Act.put, List.setIfInBounds_toArray, List.set_cons_zero, List.set_cons_succ]
                  refine wpAnyH_take (i := 20) (oi := ({ dst := some 78, op := Op.move (Operand.tmp 8), type := 44, pos := "ref.go:84", after := #[{ on := 13, ground := Ground.guard }], guard := some (13, false) } : Oper)) (v := ?hv72) rfl (by kernel_rfl) (by kernel_rfl) (by kernel_rfl) (fun _ _ _ h => h) (Or.inl ⟨by rfl, ?hy72⟩) (by assumption) ?hr72
                  case hy72 => (intro w hSw; (try dsimp only at hSw); go_simp; (try with_reducible rfl))
                  try simp only [Act.put, List.setIfInBounds_toArray, List.set_cons_zero, List.set_cons_succ]
                  refine wpAnyH_take (i := 21) (oi := ({ dst := some 79, op := Op.move (Operand.tmp 12), type := 3, pos := "ref.go:84", after := #[{ on := 13, ground := Ground.guard }], guard := some (13, false) } : Oper)) (v := ?hv73) rfl (by kernel_rfl) (by kernel_rfl) (by kernel_rfl) (fun _ _ _ h => h) (Or.inl ⟨by rfl, ?hy73⟩) (by assumption) ?hr73
                  case hy73 => (intro w hSw; (try dsimp only at hSw); go_simp; (try with_reducible rfl))
                  try simp only [Act.put, List.setIfInBounds_toArray, List.set_cons_zero, List.set_cons_succ]
                  refine wpAnyH_take (i := 22) (oi := ({ dst := some 80, op := Op.indexAddr 44 (Operand.tmp 78) (Operand.tmp 79), type := 0, pos := "ref.go:84", after := #[{ on := 20, ground := Ground.data }, { on := 21, ground := Ground.data }, { on := 13, ground := Ground.guard }], guard := some (13, false) } : Oper)) (v := ?hv74) rfl (by kernel_rfl) (by kernel_rfl) (by kernel_rfl) (fun _ _ _ h => h) (Or.inl ⟨by rfl, ?hy74⟩) (by assumption) ?hr74
                  case hy74 => (intro w hSw; (try dsimp only at hSw); go_simp; (try with_reducible rfl))
                  try simp only [Act.put, List.setIfInBounds_toArray, List.set_cons_zero, List.set_cons_succ]
                  refine wpAnyH_take (i := 23) (oi := ({ dst := some 81, op := Op.fieldAddr 34 (Operand.tmp 80) 5, type := 0, pos := "ref.go:84", after := #[{ on := 22, ground := Ground.data }, { on := 13, ground := Ground.guard }], guard := some (13, false) } : Oper)) (v := ?hv75) rfl (by kernel_rfl) (by kernel_rfl) (by kernel_rfl) (fun _ _ _ h => h) (Or.inl ⟨by rfl, ?hy75⟩) (by assumption) ?hr75
                  case hy75 => (intro w hSw; (try dsimp only at hSw); go_simp; (try with_reducible rfl))
                  try simp only [Act.put, List.setIfInBounds_toArray, List.set_cons_zero, List.set_cons_succ]
                  refine wpAnyH_take (i := 24) (oi := ({ dst := some 82, op := Op.load 9 (Operand.tmp 81), type := 9, pos := "ref.go:84", after := #[{ on := 23, ground := Ground.data }, { on := 13, ground := Ground.guard }], guard := some (13, false) } : Oper)) (v := .string ke) rfl (by kernel_rfl) (by kernel_rfl) (by kernel_rfl) (fun _ _ _ h => h) (Or.inl ⟨by rfl, fun w0 hw0 => by obtain ⟨q0, q1⟩ := HQ.out w0 hw0; go_simp⟩) (by assumption) ?_
                  try simp only [Act.put, List.setIfInBounds_toArray, List.set_cons_zero, List.set_cons_succ]
                  refine wpAnyH_ready (rs := [25]) (by kernel_rfl) (by simp) ?_
                  refine AllReadyH.cons (o := ({ dst := some 83, op := Op.call { callee := Callee.value (Operand.func 28), args := #[Operand.tmp 72, Operand.tmp 77, Operand.tmp 82], argTypes := #[37, 22, 9] }, type := 4, pos := "ref.go:84", after := #[{ on := 14, ground := Ground.data }, { on := 19, ground := Ground.data }, { on := 24, ground := Ground.data }, { on := 13, ground := Ground.chain }, { on := 13, ground := Ground.guard }], guard := some (13, false) } : Oper)) rfl (fun KK hKK => ?_) AllReadyH.nil
                  go_simp
                  (with_reducible refine (HC2.out _ RB1.out).mono ?_)
                  rintro e0 y2 ⟨rfl, hw⟩
                  have RB2 : Hid (Below wr.heap.size wr y2) := Lib.hid (by rw [hw]; exact RB1.out)
                  clear hw
                  refine hKK.out _ _ (RB2.out) (fun hH2 => ?_)
                  clear hKK KK
                  try simp only [Act.put, List.setIfInBounds_toArray, List.set_cons_zero, List.set_cons_succ]
                  refine wpAnyH_take (i := 26) (oi := ({ dst := some 84, op := Op.pick (Operand.tmp 71) (Operand.const (Value.bool true)) (Operand.tmp 83), type := 4, pos := "ref.go:84", after := #[{ on := 13, ground := Ground.data }, { on := 25, ground := Ground.data }], guard := none } : Oper)) (v := ?hv76) rfl (by kernel_rfl) (by kernel_rfl) (by kernel_rfl) (fun _ _ _ h => h) (Or.inl ⟨by rfl, ?hy76⟩) (by assumption) ?hr76
                  case hy76 => (intro w hSw; (try dsimp only at hSw); go_simp; (try with_reducible rfl))
                  try simp only [Act.put, List.setIfInBounds_toArray, List.set_cons_zero, List.set_cons_succ]
                  refine wpAnyH_done (by kernel_rfl) ?_ _
                  go_upto_region 20 with (fail)
                  have hX1 := Lib.hid RB2.out
                  have HB6 := Lib.hid (BZ.out.trans (RB2.out.mono BZ.out.size))
                  generalize y2 = yy at hX1 HB6 ⊢
                  refine wp_region_held_drew (S := (fun y => Below w6.heap.size w6 y)) (by kernel_rfl) (HB6.out.drew) (fun hH0 => ?_)
                  generalize hy0 : World.drew _ = z0 at hH0 ⊢
                  have SB0 : Hid (Below w6.heap.size w6 z0) := Lib.hid hH0
                  have RO0 := Lib.hid (show World.ownsRow z0 w6.heap.size 56 3 (.slice As kk cs) kk (clK (ps.take kk)) by rw [← hy0]; exact own_keep (own_keep HO.out (fun b _ hl => hX1.out.block b hl)) (fun b _ hl => (show _ = _ from rfl)))
                  clear hy0
                  refine wpAnyH_take (i := 0) (oi := ({ dst := some 85, op := Op.move (Operand.tmp 11), type := 37, pos := "ref.go:87", after := #[], guard := none } : Oper)) (v := ?hv45) rfl (by kernel_rfl) (by kernel_rfl) (by kernel_rfl) (fun _ _ _ h => h) (Or.inl ⟨by rfl, ?hy45⟩) (by assumption) ?hr45
                  case hy45 => (intro w hSw; (try dsimp only at hSw); go_simp; (try with_reducible rfl))
                  try simp only [Act.put, List.setIfInBounds_toArray, List.set_cons_zero, List.set_cons_succ]
                  refine wpAnyH_take (i := 1) (oi := ({ dst := some 86, op := Op.move (Operand.tmp 8), type := 44, pos := "ref.go:87", after := #[], guard := none } : Oper)) (v := ?hv46) rfl (by kernel_rfl) (by kernel_rfl) (by kernel_rfl) (fun _ _ _ h => h) (Or.inl ⟨by rfl, ?hy46⟩) (by assumption) ?hr46
                  case hy46 => (intro w hSw; (try dsimp only at hSw); go_simp; (try with_reducible rfl))
                  try simp only [Act.put, List.setIfInBounds_toArray, List.set_cons_zero, List.set_cons_succ]
                  refine wpAnyH_take (i := 2) (oi := ({ dst := some 87, op := Op.move (Operand.tmp 12), type := 3, pos := "ref.go:87", after := #[], guard := none } : Oper)) (v := ?hv47) rfl (by kernel_rfl) (by kernel_rfl) (by kernel_rfl) (fun _ _ _ h => h) (Or.inl ⟨by rfl, ?hy47⟩) (by assumption) ?hr47
                  case hy47 => (intro w hSw; (try dsimp only at hSw); go_simp; (try with_reducible rfl))
                  try simp only [Act.put, List.setIfInBounds_toArray, List.set_cons_zero, List.set_cons_succ]
                  refine wpAnyH_take (i := 3) (oi := ({ dst := some 88, op := Op.indexAddr 44 (Operand.tmp 86) (Operand.tmp 87), type := 0, pos := "ref.go:87", after := #[{ on := 1, ground := Ground.data }, { on := 2, ground := Ground.data }], guard := none } : Oper)) (v := ?hv48) rfl (by kernel_rfl) (by kernel_rfl) (by kernel_rfl) (fun _ _ _ h => h) (Or.inl ⟨by rfl, ?hy48⟩) (by assumption) ?hr48
                  case hy48 => (intro w hSw; (try dsimp only at hSw); go_simp; (try with_reducible rfl))
                  try simp only [Act.put, List.setIfInBounds_toArray, List.set_cons_zero, List.set_cons_succ]
                  refine wpAnyH_take (i := 4) (oi := ({ dst := some 89, op := Op.fieldAddr 34 (Operand.tmp 88) 3, type := 0, pos := "ref.go:87", after := #[{ on := 3, ground := Ground.data }], guard := none } : Oper)) (v := ?hv49) rfl (by kernel_rfl) (by kernel_rfl) (by kernel_rfl) (fun _ _ _ h => h) (Or.inl ⟨by rfl, ?hy49⟩) (by assumption) ?hr49
                  case hy49 => (intro w hSw; (try dsimp only at hSw); go_simp; (try with_reducible rfl))
                  try simp only [Act.put, List.setIfInBounds_toArray, List.set_cons_zero, List.set_cons_succ]
                  refine wpAnyH_take (i := 5) (oi := ({ dst := some 90, op := Op.load 22 (Operand.tmp 89), type := 22, pos := "ref.go:87", after := #[{ on := 4, ground := Ground.data }], guard := none } : Oper)) (v := .int .i64 kd) rfl (by kernel_rfl) (by kernel_rfl) (by kernel_rfl) (fun _ _ _ h => h) (Or.inl ⟨by rfl, fun w0 hw0 => by obtain ⟨q0, q1⟩ := HQ6.out w0 hw0; go_simp⟩) (by assumption) ?_
                  try simp only [Act.put, List.setIfInBounds_toArray, List.set_cons_zero, List.set_cons_succ]
                  refine wpAnyH_take (i := 6) (oi := ({ dst := some 91, op := Op.move (Operand.tmp 8), type := 44, pos := "ref.go:87", after := #[], guard := none } : Oper)) (v := ?hv50) rfl (by kernel_rfl) (by kernel_rfl) (by kernel_rfl) (fun _ _ _ h => h) (Or.inl ⟨by rfl, ?hy50⟩) (by assumption) ?hr50
                  case hy50 => (intro w hSw; (try dsimp only at hSw); go_simp; (try with_reducible rfl))
                  try simp only [Act.put, List.setIfInBounds_toArray, List.set_cons_zero, List.set_cons_succ]
                  refine wpAnyH_take (i := 7) (oi := ({ dst := some 92, op := Op.move (Operand.tmp 12), type := 3, pos := "ref.go:87", after := #[], guard := none } : Oper)) (v := ?hv51) rfl (by kernel_rfl) (by kernel_rfl) (by kernel_rfl) (fun _ _ _ h => h) (Or.inl ⟨by rfl, ?hy51⟩) (by assumption) ?hr51
                  case hy51 => (intro w hSw; (try dsimp only at hSw); go_simp; (try with_reducible rfl))
                  try simp only [Act.put, List.setIfInBounds_toArray, List.set_cons_zero, List.set_cons_succ]
                  refine wpAnyH_take (i := 8) (oi := ({ dst := some 93, op := Op.indexAddr 44 (Operand.tmp 91) (Operand.tmp 92), type := 0, pos := "ref.go:87", after := #[{ on := 6, ground := Ground.data }, { on := 7, ground := Ground.data }], guard := none } : Oper)) (v := ?hv52) rfl (by kernel_rfl) (by kernel_rfl) (by kernel_rfl) (fun _ _ _ h => h) (Or.inl ⟨by rfl, ?hy52⟩) (by assumption) ?hr52
                  case hy52 => (intro w hSw; (try dsimp only at hSw); go_simp; (try with_reducible rfl))
                  try simp only [Act.put, List.setIfInBounds_toArray, List.set_cons_zero, List.set_cons_succ]
                  refine wpAnyH_take (i := 9) (oi := ({ dst := some 94, op := Op.fieldAddr 34 (Operand.tmp 93) 5, type := 0, pos := "ref.go:87", after := #[{ on := 8, ground := Ground.data }], guard := none } : Oper)) (v := ?hv53) rfl (by kernel_rfl) (by kernel_rfl) (by kernel_rfl) (fun _ _ _ h => h) (Or.inl ⟨by rfl, ?hy53⟩) (by assumption) ?hr53
                  case hy53 => (intro w hSw; (try dsimp only at hSw); go_simp; (try with_reducible rfl))
                  try simp only [Act.put, List.setIfInBounds_toArray, List.set_cons_zero, List.set_cons_succ]
                  refine wpAnyH_take (i := 10) (oi := ({ dst := some 95, op := Op.load 9 (Operand.tmp 94), type := 9, pos := "ref.go:87", after := #[{ on := 9, ground := Ground.data }], guard := none } : Oper)) (v := .string ke) rfl (by kernel_rfl) (by kernel_rfl) (by kernel_rfl) (fun _ _ _ h => h) (Or.inl ⟨by rfl, fun w0 hw0 => by obtain ⟨q0, q1⟩ := HQ6.out w0 hw0; go_simp⟩) (by assumption) ?_
                  try simp only [Act.put, List.setIfInBounds_toArray, List.set_cons_zero, List.set_cons_succ]
                  refine wpAnyH_take (i := 11) (oi := ({ dst := some 96, op := Op.build 56 #[(0, Operand.tmp 90), (1, Operand.tmp 95)], type := 56, pos := "ref.go:87", after := #[{ on := 5, ground := Ground.data }, { on := 10, ground := Ground.data }], guard := none } : Oper)) (v := ?hv54) rfl (by kernel_rfl) (by kernel_rfl) (by kernel_rfl) (fun _ _ _ h => h) (Or.inl ⟨by rfl, ?hy54⟩) (by assumption) ?hr54
                  case hy54 => (intro w hSw; (try dsimp only at hSw); go_simp; (try with_reducible rfl))
                  try simp only [Act.put, List.setIfInBounds_toArray, List.set_cons_zero, List.set_cons_succ]
                  refine wpAnyH_ready (rs := [12]) (by kernel_rfl) (by simp) ?_
                  refine AllReadyH.cons (o := ({ dst := some 97, op := Op.buildSlice 37 1 #[(0, Operand.tmp 96)], type := 37, pos := "ref.go:87", after := #[{ on := 11, ground := Ground.data }], guard := none } : Oper)) rfl (fun KK hKK => ?_) AllReadyH.nil
                  go_simp
                  generalize hy1 : World.alloc z0 _ = z1
                  have hba : Below z0.heap.size z0 z1 := by rw [← hy1]; exact (Below.refl z0.heap.size z0).alloc (Nat.le_refl _) _
                  have SB1 := Lib.hid (SB0.out.trans (hba.mono SB0.out.size)); have RO1 := Lib.hid (own_keep RO0.out (fun b _ hl => hba.block b hl))
                  have RS := Lib.hid (show Src z1 (some ⟨z0.heap.size, 0, none⟩) 1 1 3 (En.enc ⟨kd, ke, 0⟩) by rw [← hy1]; exact one56 z0 kd ke)
                  clear hy1 hba
                  refine hKK.out _ _ (SB1.out) (fun hH1 => ?_)
                  clear hKK KK
                  try simp only [Act.put, List.setIfInBounds_toArray, List.set_cons_zero, List.set_cons_succ]
                  refine wpAnyH_ready (rs := [13]) (by kernel_rfl) (by simp) ?_
                  refine AllReadyH.cons (o := ({ dst := some 98, op := Op.call { callee := Callee.builtin Builtin.append, args := #[Operand.tmp 85, Operand.tmp 97], argTypes := #[37, 37] }, type := 37, pos := "ref.go:87", after := #[{ on := 0, ground := Ground.data }, { on := 12, ground := Ground.data }], guard := none } : Oper)) rfl (fun KK hKK => ?_) AllReadyH.nil
                  refine step_append_any _ rfl (.tmp 85) (.tmp 97) 37 rfl w6.heap.size 56 i0 _ 3 32 Try.underlying37 HI.out.1 HI.out.2.1 HI.out.2.2.1 HI.out.2.2.2 rfl (by decide) (.slice As kk cs) kk (clK (ps.take kk)) rfl RO1.out (some ⟨z0.heap.size, 0, none⟩) 1 1 (En.enc ⟨kd, ke, 0⟩) rfl RS.out (by unfold maxLen; omega) (by omega) SB1.out.size ?_
                  intro v2 z2 hgr
                  have SB2 := Lib.hid (hgr.below SB1.out RO1.out); have RW := Lib.hid hgr.own; clear hgr
                  refine hKK.out _ _ (SB2.out) (fun hH2 => ?_)
                  clear hKK KK
                  try simp only [Act.put, List.setIfInBounds_toArray, List.set_cons_zero, List.set_cons_succ]
                  refine wpAnyH_take (i := 14) (oi := ({ dst := some 11, op := Op.assign (Operand.tmp 98), type := 37, pos := "ref.go:87", after := #[{ on := 13, ground := Ground.data }, { on := 13, ground := Ground.chain }, { on := 0, ground := Ground.phase }, { on := 1, ground := Ground.phase }, { on := 2, ground := Ground.phase }, { on := 3, ground := Ground.phase }, { on := 4, ground := Ground.phase }, { on := 5, ground := Ground.phase }, { on := 6, ground := Ground.phase }, { on := 7, ground := Ground.phase }, { on := 8, ground := Ground.phase }, { on := 9, ground := Ground.phase }, { on := 10, ground := Ground.phase }, { on := 11, ground := Ground.phase }, { on := 12, ground := Ground.phase }, { on := 13, ground := Ground.phase }], guard := none } : Oper)) (v := ?hv55) rfl (by kernel_rfl) (by kernel_rfl) (by kernel_rfl) (fun _ _ _ h => h) (Or.inl ⟨by rfl, ?hy55⟩) (by assumption) ?hr55
                  case hy55 => (intro w hSw; (try dsimp only at hSw); go_simp; (try with_reducible rfl))
                  try simp only [Act.put, List.setIfInBounds_toArray, List.set_cons_zero, List.set_cons_succ]
                  refine wpAnyH_done (by kernel_rfl) ?_ _
                  go_wp2
                  go_roundg (e.n9 - (kk + 1))
                  case measure => omega
                  case rel => exact ⟨kk + 1, v2, by omega, by omega, rfl, by go_num, Lib.hid (by rw [HTk.out, clK_append, ← clK_one]; exact RW.out), HJ3, SB2⟩
            · have hltz : ¬ (kk : Int) < (e.n9 : Int) := by omega
              have HTa := Lib.hid (show ps.take kk = ps from List.take_of_length_le (by rw [HPl.out]; omega))
              have HNb := Lib.hid (show noBad kl ps = true from noBad_yes (fun k hk => HJ.out k (by rw [HPl.out] at hk; omega)))
              have HE2 : Hid (fitsE E n e = if e.e3 ≠ 1 ∧ ps.any (isK 1 ⟨#[]⟩) = false then 16 else 0) := Lib.hid (by rw [HEs2.out, if_neg (by rw [HNb.out]; decide), HOne.out HNb.out])
              have HC := Lib.hid (is28 As kk cs (ps.take kk) 1 ⟨#[]⟩ wr HSe.out (by omega))
              rw [HTa.out] at HC
              have k3 := (X6.out.below BZ.out).cell (i := 3) rfl
              clear HJ HO hlt hg hkk
              subst hv
              generalize e.e3 = x3 at k3 HE2
              by_cases h3 : x3 = 1
              · have HE : Hid (fitsE E n e = 0) := Lib.hid (by rw [HE2.out, if_neg (fun hh => hh.1 h3)])
                subst h3
                go_wp2
                go_ret
                exact ⟨ret_i6 HE.out.symm, BW.out⟩
              · have z3 : (x3 == 1) = false := beq_eq_false_iff_ne.2 h3
                have z4 : (x3 != 1) = true := bne_iff_ne.2 h3
                cases t1 : ps.any (isK 1 ⟨#[]⟩) with
                | true =>
                  rw [t1] at HC
                  have HE : Hid (fitsE E n e = 0) := Lib.hid (by rw [HE2.out, t1, if_neg (fun hh => by cases hh.2)])
                  clear h3 t1
                  go_wp2_with (first
                    | (go_at_call 28; (with_reducible refine HC.out.mono ?_); rintro e1 w7 ⟨rfl, rfl⟩)
                    | go_in)
                  go_ret
                  exact ⟨ret_i6 HE.out.symm, BW.out⟩
                | false =>
                  rw [t1] at HC
                  have HE : Hid (fitsE E n e = 16) := Lib.hid (by rw [HE2.out, t1, if_pos ⟨h3, rfl⟩])
                  clear h3 t1
                  go_wp2_with (first
                    | (go_at_call 28; (with_reducible refine HC.out.mono ?_); rintro e1 w7 ⟨rfl, rfl⟩)
                    | go_in)
                  go_ret
                  exact ⟨ret_i6 HE.out.symm, BW.out⟩
end Go.Proofs.Ytbedibiodlgegaa
