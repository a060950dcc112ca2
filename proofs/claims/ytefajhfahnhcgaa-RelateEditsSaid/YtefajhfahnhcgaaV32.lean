/- RelateEdits: its walk. -/
import Derived.Test.YtefajhfahnhcgaaV29
namespace Go.Proofs.Ytefajhfahnhcgaa
open Go Go.RowKit
set_option linter.unusedVariables false
set_option linter.unusedSimpArgs false

theorem rel3 {y : Me} (h : relK y = 3) : y.kd = 13 ∧ relI y = y.tg := by
  unfold relK at h
  unfold relI
  by_cases h0 : y.tg ≤ 0
  · rw [if_pos h0] at h; omega
  · rw [if_neg h0] at h ⊢
    by_cases h1 : y.kd = 12
    · rw [if_pos h1] at h; omega
    · rw [if_neg h1] at h ⊢
      by_cases h2 : y.kd = 13
      · exact ⟨h2, if_pos h2⟩
      · rw [if_neg h2] at h
        by_cases h3 : y.kd = 11
        · rw [if_pos h3] at h; split at h <;> omega
        · rw [if_neg h3] at h; omega
theorem ed_facts {E : Nat → Me} {n : Nat} {z : Int} {sd : ByteArray} {i : Nat} (h : i ∈ (onc E n).filter (isEd E z sd)) : (E i).kd = 13 ∧ (E i).tg = z ∧ (E i).sd = sd ∧ i ∈ onc E n ∧ 0 < (E i).id := by
  obtain ⟨h1, h2⟩ := List.mem_filter.1 h
  unfold isEd isR at h2
  rw [Bool.and_eq_true, Bool.and_eq_true, decide_eq_true_eq, decide_eq_true_eq, decide_eq_true_eq] at h2
  obtain ⟨⟨h3, h4⟩, h5⟩ := h2
  obtain ⟨h6, h7⟩ := rel3 h3
  refine ⟨h6, by rw [← h7]; exact h4, eq_of_toList h5, h1, ?_⟩
  have h8 := (List.mem_filter.1 h1).2
  unfold nw at h8
  rw [Bool.and_eq_true, decide_eq_true_eq] at h8
  exact h8.1
theorem isSum_edit {w : World} {E : Nat → Me} {is : List Nat} {z : Int} {t : Nat} {v : Value} (h : IsSum w E is z (some t) v) : ∃ A n c b l, v = .agg #[.int .i64 (idO E (ltL E (is.filter (isEd E z (E t).sd)))), .slice A n c, .int .i64 b, .int .i64 l] := by
  obtain ⟨A', c', e, hr⟩ := h
  exact ⟨_, _, _, _, _, e⟩
set_option maxRecDepth 100000 in
set_option maxHeartbeats 16000000 in
theorem edits_walk (A : Option Addr) (n c : Nat) (E : Nat → Me) (z : Int) (w : World) (h : Evm w A n E) (hc : n ≤ c) : Calls Try.prog 8 #[.slice A n c, .int .i64 z] w fun r w' => r = .returned (.bool true) ∧ Below w.heap.size w w' := by
  have HFe := Lib.hid (few13 A n c E w h)
  cases hq : fewE E n with
  | false =>
    rw [hq] at HFe
    have B1 := Lib.hid (Below.refl w.heap.size w)
    clear h hc
    go_enter Try.func8, Try.ntmps8
    go_wp2_with (first
      | (go_at_call 13; (with_reducible refine HFe.out.mono ?_); rintro r w0 ⟨rfl, he⟩; obtain rfl : w = w0 := he.symm)
      | (go_at_call 12; (with_reducible refine (lives12 _).mono ?_); rintro r w9 ⟨rfl, hb⟩; have B9 := Lib.hid (B1.out.trans (hb.mono B1.out.size)); clear hb)
      | go_in)
    go_ret
    exact ⟨rfl, B9.out⟩
  | true =>
    rw [hq] at HFe
    have hn := fewE_le hq
    have HSg := Lib.hid (single24 A n c E w h hc)
    cases hs : sglE E n with
    | false =>
      rw [hs] at HSg
      clear h hc hq hs
      go_enter Try.func8, Try.ntmps8
      go_wp2_with (first
        | (go_at_call 13; (with_reducible refine HFe.out.mono ?_); rintro r w0 ⟨rfl, he⟩; obtain rfl : w = w0 := he.symm)
        | (go_at_call 24; (with_reducible refine HSg.out.mono ?_); rintro r w1 ⟨rfl, hb⟩; have B1 := Lib.hid hb; clear hb)
        | (go_at_call 12; (with_reducible refine (lives12 _).mono ?_); rintro r w9 ⟨rfl, hb⟩; have B9 := Lib.hid (B1.out.trans (hb.mono B1.out.size)); clear hb)
        | go_in)
      go_ret
      exact ⟨rfl, B9.out⟩
    | true =>
      rw [hs] at HSg
      have HS := Lib.hid (fun u (hb : Below w.heap.size w u) => show17e A n c E z u (h.below hb) (by omega))
      have HG := Lib.hid (fun u (hb : Below w.heap.size w u) => rget25 A n c z E u (h.below hb))
      have HG2 := Lib.hid (fun y u (hb : Below w.heap.size w u) => rget25 A n c y E u (h.below hb))
      have HSm := Lib.hid (fun u (hb : Below w.heap.size w u) => sum15e A n c E z u (h.below hb) (by omega))
      have HFa := Lib.hid h.fit
      clear h hc hq hs
      have HT := Lib.hid (show shwT E n z = (match gt E n z with
        | none => ⟨#[]⟩
        | some t => if (E t).kd = 11 then (match gt E n (idO E (ltL E ((onc E n).filter (isEd E z (E t).sd)))) with | none => (E t).tx | some u => (E u).tx) else ⟨#[]⟩) from rfl)
      have HE := Lib.hid (show shwE E n z = (match gt E n z with
        | none => 5
        | some t => if (E t).kd = 11 then 0 else 1) from rfl)
      cases hg : gt E n z with
      | none =>
        rw [hg] at HG HT HE
        simp only [gtE, Option.isSome_none] at HG
        simp only at HT HE
        rw [HT.out, HE.out] at HS
        clear hg HSm HG2 HT HE
        go_enter Try.func8, Try.ntmps8
        go_wp2_with (first
          | (go_at_call 13; (with_reducible refine HFe.out.mono ?_); rintro r w0 ⟨rfl, he⟩; obtain rfl : w = w0 := he.symm)
          | (go_at_call 24; (with_reducible refine HSg.out.mono ?_); rintro r w1 ⟨rfl, hb⟩; have B1 := Lib.hid hb; clear hb)
          | (go_at_call 17; (with_reducible refine (HS.out _ B1.out).mono ?_); rintro r w2 ⟨rfl, hb⟩; have B2 := Lib.hid (B1.out.trans (hb.mono B1.out.size)); clear hb)
          | (go_at_call 25; (with_reducible refine (HG.out _ B2.out).mono ?_); rintro r w3 ⟨rfl, hb⟩; have B3 := Lib.hid (B2.out.trans (hb.mono B2.out.size)); clear hb)
          | (refine store_mid_as rfl 34 _ _ rfl w3.heap.size 0 (me0).cs.toArray rfl rfl (show World.there (w3.alloc (.cells zE.toArray 34)) w3.heap.size 0 _ from (blk_new w3 zE 34).there (by rw [List.size_toArray, fits0.len]; decide)) (size34a fits0.len) (all_arr fits0.one) ?_; intro w4 hw; have XE := Lib.hid (show Blk w4 w3.heap.size (me0).cs 34 by rw [hw]; exact blk_alloc_set w3 zE (me0).cs 34 fits0.len); have B4 := Lib.hid (show Below w.heap.size w w4 by rw [hw]; exact below_setRow (B3.out.alloc B3.out.size _) B3.out.size _ _); clear hw; skip)
          | (go_at_call 12; (with_reducible refine (lives12 _).mono ?_); rintro r w9 ⟨rfl, hb⟩; have B9 := Lib.hid (B4.out.trans (hb.mono B4.out.size)); clear hb)
          | go_in)
        go_ret
        exact ⟨rfl, B9.out⟩
      | some t =>
        have HF0 := Lib.hid (HFa.out t (gt_lt hg).1)
        rw [hg] at HG HT HE HSm
        simp only [gtE, Option.isSome_some] at HG
        simp only at HT HE
        by_cases hkd : (E t).kd = 11
        · rw [if_pos hkd] at HT HE
          rw [HE.out] at HS
          have hfl := field45
          cases hl : ltL E ((onc E n).filter (isEd E z (E t).sd)) with
          | none =>
            have HTt := Lib.hid (show shwT E n z = (E t).tx by rw [HT.out, hl, show idO E none = 0 from rfl, gt_neg (by omega)])
            rw [HTt.out] at HS
            have HSm2 := Lib.hid (fun u hb => (HSm.out u hb).mono fun r w' ⟨v, e, h1, h2⟩ => (show ∃ A n c b l, r = Ending.returned (.agg #[.int .i64 0, .slice A n c, .int .i64 b, .int .i64 l]) ∧ Below u.heap.size u w' from (by
              obtain ⟨A1, n1, c1, b1, l1, e1⟩ := isSum_edit h1
              rw [hl] at e1
              exact ⟨A1, n1, c1, b1, l1, by rw [e, e1]; rfl, h2⟩)))
            clear hg HSm HG2 HT HE HTt hl hkd
            go_enter Try.func8, Try.ntmps8
            go_wp2_with (first
              | (go_at_call 13; (with_reducible refine HFe.out.mono ?_); rintro r w0 ⟨rfl, he⟩; obtain rfl : w = w0 := he.symm)
              | (go_at_call 24; (with_reducible refine HSg.out.mono ?_); rintro r w1 ⟨rfl, hb⟩; have B1 := Lib.hid hb; clear hb)
              | (go_at_call 17; (with_reducible refine (HS.out _ B1.out).mono ?_); rintro r w2 ⟨rfl, hb⟩; have B2 := Lib.hid (B1.out.trans (hb.mono B1.out.size)); clear hb)
              | (go_at_call 25; (with_reducible refine (HG.out _ B2.out).mono ?_); rintro r w3 ⟨rfl, hb⟩; have B3 := Lib.hid (B2.out.trans (hb.mono B2.out.size)); clear hb)
              | (refine store_mid_as rfl 34 _ _ rfl w3.heap.size 0 (E t).cs.toArray rfl rfl (show World.there (w3.alloc (.cells zE.toArray 34)) w3.heap.size 0 _ from (blk_new w3 zE 34).there (by rw [List.size_toArray, HF0.out.len]; decide)) (size34a HF0.out.len) (all_arr HF0.out.one) ?_; intro w4 hw; have XE := Lib.hid (show Blk w4 w3.heap.size (E t).cs 34 by rw [hw]; exact blk_alloc_set w3 zE (E t).cs 34 HF0.out.len); have B4 := Lib.hid (show Below w.heap.size w w4 by rw [hw]; exact below_setRow (B3.out.alloc B3.out.size _) B3.out.size _ _); clear hw; skip)
              | (go_at_call 15; (with_reducible refine (HSm2.out _ B4.out).mono ?_); rintro r w5 ⟨A5, n5, c5, b5, l5, rfl, hb⟩; have X5 := Lib.hid (XE.out.below hb); have k10 := X5.out.cell HF0.out.c10; have B5 := Lib.hid (B4.out.trans (hb.mono B4.out.size)); clear hb)
              | (go_at_call 12; (with_reducible refine (lives12 _).mono ?_); rintro r w9 ⟨rfl, hb⟩; have B9 := Lib.hid (B5.out.trans (hb.mono B5.out.size)); clear hb)
              | go_in)
            go_ret
            exact ⟨rfl, B9.out⟩
          | some i =>
            obtain ⟨f1, f2, f3, f4, f5⟩ := ed_facts (ltL_mem hl)
            have HFi := Lib.hid (HFa.out i (onc_lt f4))
            have hgi := onc_gt f4
            have HTt := Lib.hid (show shwT E n z = (E i).tx by
              rw [HT.out, hl]
              show (match gt E n (E i).id with | none => (E t).tx | some u => (E u).tx) = _
              rw [hgi])
            rw [HTt.out] at HS
            have HSm2 := Lib.hid (fun u hb => (HSm.out u hb).mono fun r w' ⟨v, e, h1, h2⟩ => (show ∃ A n c b l, r = Ending.returned (.agg #[.int .i64 (E i).id, .slice A n c, .int .i64 b, .int .i64 l]) ∧ Below u.heap.size u w' from (by
              obtain ⟨A1, n1, c1, b1, l1, e1⟩ := isSum_edit h1
              rw [hl] at e1
              exact ⟨A1, n1, c1, b1, l1, by rw [e, e1]; rfl, h2⟩)))
            have HG3 := Lib.hid (HG2.out (E i).id)
            rw [hgi] at HG3
            simp only [gtE, Option.isSome_some] at HG3
            have z1 : ((E i).id == 0) = false := beq_eq_false_iff_ne.2 (by omega)
            have HK := Lib.hid (And.intro f1 (And.intro f2 f3))
            clear hg HSm HG2 HT HE HTt hl hkd hgi f1 f2 f3 f4 f5
            go_enter Try.func8, Try.ntmps8
            go_wp2_with (first
              | (go_at_call 13; (with_reducible refine HFe.out.mono ?_); rintro r w0 ⟨rfl, he⟩; obtain rfl : w = w0 := he.symm)
              | (go_at_call 24; (with_reducible refine HSg.out.mono ?_); rintro r w1 ⟨rfl, hb⟩; have B1 := Lib.hid hb; clear hb)
              | (go_at_call 17; (with_reducible refine (HS.out _ B1.out).mono ?_); rintro r w2 ⟨rfl, hb⟩; have B2 := Lib.hid (B1.out.trans (hb.mono B1.out.size)); clear hb)
              | (go_at_call 25; (with_reducible refine (HG.out _ B2.out).mono ?_); rintro r w3 ⟨rfl, hb⟩; have B3 := Lib.hid (B2.out.trans (hb.mono B2.out.size)); clear hb)
              | (refine store_mid_as rfl 34 _ _ rfl w3.heap.size 0 (E t).cs.toArray rfl rfl (show World.there (w3.alloc (.cells zE.toArray 34)) w3.heap.size 0 _ from (blk_new w3 zE 34).there (by rw [List.size_toArray, HF0.out.len]; decide)) (size34a HF0.out.len) (all_arr HF0.out.one) ?_; intro w4 hw; have XE := Lib.hid (show Blk w4 w3.heap.size (E t).cs 34 by rw [hw]; exact blk_alloc_set w3 zE (E t).cs 34 HF0.out.len); have B4 := Lib.hid (show Below w.heap.size w w4 by rw [hw]; exact below_setRow (B3.out.alloc B3.out.size _) B3.out.size _ _); clear hw; skip)
              | (go_at_call 15; (with_reducible refine (HSm2.out _ B4.out).mono ?_); rintro r w5 ⟨A5, n5, c5, b5, l5, rfl, hb⟩; have X5 := Lib.hid (XE.out.below hb); have k10 := X5.out.cell HF0.out.c10; have B5 := Lib.hid (B4.out.trans (hb.mono B4.out.size)); clear hb)
              | (go_at_call 25; (with_reducible refine (HG3.out _ B5.out).mono ?_); rintro r w6 ⟨rfl, hb⟩; have X6 := Lib.hid (X5.out.below hb); have B6 := Lib.hid (B5.out.trans (hb.mono B5.out.size)); clear hb)
              | (refine store_mid_as rfl 34 _ _ rfl w6.heap.size 0 (E i).cs.toArray rfl rfl (show World.there (w6.alloc (.cells zE.toArray 34)) w6.heap.size 0 _ from (blk_new w6 zE 34).there (by rw [List.size_toArray, HFi.out.len]; decide)) (size34a HFi.out.len) (all_arr HFi.out.one) ?_; intro w7 hw; have XF := Lib.hid (show Blk w7 w6.heap.size (E i).cs 34 by rw [hw]; exact blk_alloc_set w6 zE (E i).cs 34 HFi.out.len); have C7 := Lib.hid (show Below w6.heap.size w6 w7 by rw [hw]; exact below_setRow ((Below.refl _ _).alloc (Nat.le_refl _) _) (Nat.le_refl _) _ _); have X7 := Lib.hid (X6.out.below C7.out); have B7 := Lib.hid (B6.out.trans (C7.out.mono B6.out.size)); clear hw k10; have a2 := X7.out.cell HF0.out.c2; have b2 := XF.out.cell HFi.out.c2; have b3 := XF.out.cell HFi.out.c3; have b10 := XF.out.cell HFi.out.c10; have b12 := XF.out.cell HFi.out.c12; rw [HK.out.1] at b3; rw [HK.out.2.1] at b12; rw [HK.out.2.2] at b2)
              | (go_at_call 12; (with_reducible refine (lives12 _).mono ?_); rintro r w9 ⟨rfl, hb⟩; have B9 := Lib.hid (B7.out.trans (hb.mono B7.out.size)); clear hb)
              | go_in)
            go_ret
            exact ⟨rfl, B9.out⟩
        · have z1 : ((E t).kd != 11) = true := by simp [hkd]
          rw [if_neg hkd] at HT HE
          rw [HT.out, HE.out] at HS
          clear hg HSm HG2 HT HE
          go_enter Try.func8, Try.ntmps8
          go_wp2_with (first
            | (go_at_call 13; (with_reducible refine HFe.out.mono ?_); rintro r w0 ⟨rfl, he⟩; obtain rfl : w = w0 := he.symm)
            | (go_at_call 24; (with_reducible refine HSg.out.mono ?_); rintro r w1 ⟨rfl, hb⟩; have B1 := Lib.hid hb; clear hb)
            | (go_at_call 17; (with_reducible refine (HS.out _ B1.out).mono ?_); rintro r w2 ⟨rfl, hb⟩; have B2 := Lib.hid (B1.out.trans (hb.mono B1.out.size)); clear hb)
            | (go_at_call 25; (with_reducible refine (HG.out _ B2.out).mono ?_); rintro r w3 ⟨rfl, hb⟩; have B3 := Lib.hid (B2.out.trans (hb.mono B2.out.size)); clear hb)
            | (refine store_mid_as rfl 34 _ _ rfl w3.heap.size 0 (E t).cs.toArray rfl rfl (show World.there (w3.alloc (.cells zE.toArray 34)) w3.heap.size 0 _ from (blk_new w3 zE 34).there (by rw [List.size_toArray, HF0.out.len]; decide)) (size34a HF0.out.len) (all_arr HF0.out.one) ?_; intro w4 hw; have XE := Lib.hid (show Blk w4 w3.heap.size (E t).cs 34 by rw [hw]; exact blk_alloc_set w3 zE (E t).cs 34 HF0.out.len); have B4 := Lib.hid (show Below w.heap.size w w4 by rw [hw]; exact below_setRow (B3.out.alloc B3.out.size _) B3.out.size _ _); clear hw; have k3 := XE.out.cell HF0.out.c3)
            | (go_at_call 12; (with_reducible refine (lives12 _).mono ?_); rintro r w9 ⟨rfl, hb⟩; have B9 := Lib.hid (B4.out.trans (hb.mono B4.out.size)); clear hb)
            | go_in)
          go_ret
          exact ⟨rfl, B9.out⟩
end Go.Proofs.Ytefajhfahnhcgaa
