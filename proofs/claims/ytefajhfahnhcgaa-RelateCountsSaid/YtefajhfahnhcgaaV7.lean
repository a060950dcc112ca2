/- Relations: the reference's Latest. No condition. -/
import Derived.Test.YtefajhfahnhcgaaV6
namespace Go.Proofs.Ytefajhfahnhcgaa
open Go Go.RowKit
set_option linter.unusedVariables false
set_option linter.unusedSimpArgs false

theorem bel_dn {B : Nat} {a w : World} (h : Below B a w) (n : Nat) : Below B a (w.drewN n) := h.trans ⟨rfl, rfl, rfl, Nat.le_refl _, fun _ _ => rfl⟩
set_option maxRecDepth 100000 in
set_option maxHeartbeats 8000000 in
theorem latest34 (A : Option Addr) (c : Nat) (E : Nat → Me) (is : List Nat) (w : World) (h : Evm w A is.length (fun j => E (is.getD j 0))) (hf : ∀ i ∈ is, Fits (E i)) : Calls Try.prog 34 #[.slice A is.length c] w fun r w' => r = .returned (.int .i64 (idO E (ltL E is))) ∧ Below w.heap.size w w' := by
  by_cases h0 : is.length = 0
  · have e : is = [] := List.eq_nil_of_length_eq_zero h0
    subst e
    go_enter Try.func34, Try.ntmps34
    go_wp2
    go_ret
    exact ⟨rfl, Below.refl _ _⟩
  · have hz : ¬ ((is.length : Int) = 0) := by omega
    have hz1 : (0 : Int) < (is.length : Int) := by omega
    have H := Lib.hid h
    have HF := Lib.hid hf
    have hbig := h.big
    unfold maxLen at hbig
    obtain ⟨b1, o1, rfl, hat0⟩ := h.get (show 0 < is.length by omega)
    have HAt0 := Lib.hid hat0
    have BA := Lib.hid ((Below.refl w.heap.size w).alloc (Nat.le_refl _) (.cells #[.int .i64 0, .string ⟨#[]⟩, .string ⟨#[]⟩, .int .i64 0, .bool false, .string ⟨#[]⟩, .int .i64 0, .int .i64 0, .slice none 0 0, .slice none 0 0, .string ⟨#[]⟩, .int .i64 0, .int .i64 0, .bool false, .string ⟨#[]⟩, .slice none 0 0, .slice none 0 0, .slice none 0 0, .slice none 0 0, .int .i64 0, .int .i64 0, .int .i64 0, .int .i64 0, .int .i64 0, .int .i64 0, .int .i64 0, .int .i64 0, .string ⟨#[]⟩, .int .i64 0] 34))
    have X0 := Lib.hid (show Blk (w.alloc (.cells #[.int .i64 0, .string ⟨#[]⟩, .string ⟨#[]⟩, .int .i64 0, .bool false, .string ⟨#[]⟩, .int .i64 0, .int .i64 0, .slice none 0 0, .slice none 0 0, .string ⟨#[]⟩, .int .i64 0, .int .i64 0, .bool false, .string ⟨#[]⟩, .slice none 0 0, .slice none 0 0, .slice none 0 0, .slice none 0 0, .int .i64 0, .int .i64 0, .int .i64 0, .int .i64 0, .int .i64 0, .int .i64 0, .int .i64 0, .int .i64 0, .string ⟨#[]⟩, .int .i64 0] 34)) w.heap.size zE 34 from blk_new w zE 34)
    have HR0 := Lib.hid (show World.rangeAt w b1 o1 (E (is.getD 0 0)).cs from by have := hat0.rng; rwa [Nat.zero_mul] at this)
    have HFt := Lib.hid (show Fits (E (is.getD 0 0)) from hat0.fit)
    have HT0 := Lib.hid (show ltL E (is.take 1) = some (is.getD 0 0) from by rw [ltL_take (k := 0) (by omega)]; rfl)
    clear h hf hat0
    generalize is.getD 0 0 = i at HAt0 HR0 HFt HT0
    go_enter Try.func34, Try.ntmps34
    go_wp2_with (first
      | (refine wpList_load_mid rfl 34 _ rfl b1 o1 rfl (E i).cs _ HR0.out Try.underlying34 rfl (size34l HFt.out.len) ?_)
      | (refine store_mid_as rfl 34 _ _ rfl w.heap.size 0 (E i).cs.toArray rfl rfl (X0.out.there (by rw [List.size_toArray, HFt.out.len]; decide)) (size34a HFt.out.len) (all_arr HFt.out.one) ?_; intro w4 hw4; have X4 := Lib.hid (show Blk w4 w.heap.size (E i).cs 34 by rw [hw4]; exact X0.out.setAll (E i).cs HFt.out.len); have B4 := Lib.hid (show Below w.heap.size w w4 by rw [hw4]; exact below_setRow BA.out (Nat.le_refl _) _ _); clear hw4)
      | go_in)
    go_loopg [4] is.length (fun gg s4 wr => ∃ kk i : Nat, kk ≤ is.length ∧ 0 < kk ∧ is.length - kk ≤ gg ∧ s4 = .int .i64 (kk : Int) ∧ Hid (Blk wr w.heap.size (E i).cs 34) ∧ Hid (ltL E (is.take kk) = some i) ∧ Hid (Below w.heap.size w wr))
    case atStart => exact ⟨1, i, by omega, by omega, by omega, rfl, X4, HT0, B4⟩
    case round =>
      clear HT0 X4 B4 HFt HAt0 HR0
      obtain ⟨kk, i, hkk, hk1, hg, rfl, HX, HT, BW⟩ := hrel
      have HFi := Lib.hid (HF.out i (List.mem_of_mem_take (ltL_mem HT.out)))
      have x0 := HX.out.cell HFi.out.c0
      have x6 := HX.out.cell HFi.out.c6
      by_cases hlt : kk < is.length
      · have hltz : (kk : Int) < (is.length : Int) := by omega
        have hk0 : (0 : Int) ≤ (kk : Int) := by omega
        obtain ⟨b2, o2, e2, hat⟩ := (H.out.below BW.out).get hlt
        cases e2
        have HTk := Lib.hid (show ltL E (is.take (kk + 1)) = if beats (E i) (E (is.getD kk 0)) = true then some (is.getD kk 0) else some i by rw [ltL_take hlt, HT.out]; rfl)
        have HAt : Hid (At wr b1 (o1 + kk * 29) (E (is.getD kk 0))) := Lib.hid hat
        have HFt := Lib.hid HAt.out.fit
        have y0 := HAt.out.k0
        have y6 := HAt.out.k6
        have HBt := Lib.hid (show beats (E i) (E (is.getD kk 0)) = decide ((E i).tm < (E (is.getD kk 0)).tm ∨ ((E (is.getD kk 0)).tm = (E i).tm ∧ (E i).id < (E (is.getD kk 0)).id)) from rfl)
        clear hat HT
        generalize is.getD kk 0 = k at HTk HAt HFt y0 y6 HBt
        generalize beats (E i) (E k) = bt at HTk HBt
        generalize (E i).id = xi at x0 HBt
        generalize (E i).tm = xt at x6 HBt
        generalize (E k).id = yi at y0 HBt
        generalize (E k).tm = yt at y6 HBt
        by_cases c1 : xt < yt
        · have c2 : decide (xt < yt) = true := decide_eq_true c1
          have HT2 := Lib.hid (HTk.out.trans (if_pos (HBt.out.trans (decide_eq_true (Or.inl c1)))))
          clear HTk HBt
          go_wp2
          go_quiet (fail)
          generalize hwd : World.drewN wr _ = wd
          have BD := Lib.hid (show Below w.heap.size w wd by rw [← hwd]; exact bel_dn BW.out _)
          have XD := Lib.hid (show Blk wd w.heap.size (E i).cs 34 by rw [← hwd]; exact HX.out.below (bel_dn (Below.refl _ _) _))
          have HAd := Lib.hid (show At wd b1 (o1 + kk * 29) (E k) by rw [← hwd]; exact HAt.out.below (bel_dn (Below.refl _ _) _))
          clear hwd
          have HRg := Lib.hid HAd.out.rng
          go_wp2_with (first
            | (refine wpList_load_mid rfl 34 _ rfl b1 (o1 + kk * 29) rfl (E k).cs _ HRg.out Try.underlying34 rfl (size34l HFt.out.len) ?_)
            | (refine store_mid_as rfl 34 _ _ rfl w.heap.size 0 (E k).cs.toArray rfl rfl (XD.out.there (by rw [List.size_toArray, HFt.out.len, HFi.out.len]; decide)) (size34a HFt.out.len) (all_arr HFt.out.one) ?_; intro w4 hw4; have X4 := Lib.hid (show Blk w4 w.heap.size (E k).cs 34 by rw [hw4]; exact XD.out.setAll (E k).cs (by rw [HFt.out.len, HFi.out.len])); have B4 := Lib.hid (show Below w.heap.size w w4 by rw [hw4]; exact below_setRow BD.out (Nat.le_refl _) _ _); clear hw4)
            | go_in)
          go_roundg (is.length - (kk + 1))
          case measure => omega
          case rel => exact ⟨kk + 1, k, by omega, by omega, by omega, by go_num, X4, HT2, B4⟩
        · have c2 : decide (xt < yt) = false := decide_eq_false c1
          by_cases c3 : yt = xt
          · subst c3
            by_cases c5 : xi < yi
            · have c6 : decide (xi < yi) = true := decide_eq_true c5
              have HT2 := Lib.hid (HTk.out.trans (if_pos (HBt.out.trans (decide_eq_true (Or.inr ⟨rfl, c5⟩)))))
              clear HTk HBt
              go_wp2
              go_quiet (fail)
              generalize hwd : World.drewN wr _ = wd
              have BD := Lib.hid (show Below w.heap.size w wd by rw [← hwd]; exact bel_dn BW.out _)
              have XD := Lib.hid (show Blk wd w.heap.size (E i).cs 34 by rw [← hwd]; exact HX.out.below (bel_dn (Below.refl _ _) _))
              have HAd := Lib.hid (show At wd b1 (o1 + kk * 29) (E k) by rw [← hwd]; exact HAt.out.below (bel_dn (Below.refl _ _) _))
              clear hwd
              have HRg := Lib.hid HAd.out.rng
              go_wp2_with (first
                | (refine wpList_load_mid rfl 34 _ rfl b1 (o1 + kk * 29) rfl (E k).cs _ HRg.out Try.underlying34 rfl (size34l HFt.out.len) ?_)
                | (refine store_mid_as rfl 34 _ _ rfl w.heap.size 0 (E k).cs.toArray rfl rfl (XD.out.there (by rw [List.size_toArray, HFt.out.len, HFi.out.len]; decide)) (size34a HFt.out.len) (all_arr HFt.out.one) ?_; intro w4 hw4; have X4 := Lib.hid (show Blk w4 w.heap.size (E k).cs 34 by rw [hw4]; exact XD.out.setAll (E k).cs (by rw [HFt.out.len, HFi.out.len])); have B4 := Lib.hid (show Below w.heap.size w w4 by rw [hw4]; exact below_setRow BD.out (Nat.le_refl _) _ _); clear hw4)
                | go_in)
              go_roundg (is.length - (kk + 1))
              case measure => omega
              case rel => exact ⟨kk + 1, k, by omega, by omega, by omega, by go_num, X4, HT2, B4⟩
            · have c6 : decide (xi < yi) = false := decide_eq_false c5
              have HT2 := Lib.hid (HTk.out.trans (if_neg (by rw [HBt.out, decide_eq_false (fun h : _ ∨ _ => h.elim c1 (fun h => c5 h.2))]; decide)))
              clear HTk HBt
              go_wp2
              go_quiet (fail)
              go_wp2
              go_roundg (is.length - (kk + 1))
              case measure => omega
              case rel => exact ⟨kk + 1, i, by omega, by omega, by omega, by go_num, Lib.hid (HX.out.below (bel_dn (Below.refl _ _) _)), HT2, Lib.hid (bel_dn BW.out _)⟩
          · have HT2 := Lib.hid (HTk.out.trans (if_neg (by rw [HBt.out, decide_eq_false (fun h : _ ∨ _ => h.elim c1 (fun h => c3 h.1))]; decide)))
            have c4 : (yt == xt) = false := by simpa using c3
            clear HTk HBt
            go_wp2
            go_quiet (fail)
            go_wp2
            go_roundg (is.length - (kk + 1))
            case measure => omega
            case rel => exact ⟨kk + 1, i, by omega, by omega, by omega, by go_num, Lib.hid (HX.out.below (bel_dn (Below.refl _ _) _)), HT2, Lib.hid (bel_dn BW.out _)⟩
      · have hltz : ¬ (kk : Int) < (is.length : Int) := by omega
        obtain rfl : kk = is.length := by omega
        rw [List.take_length] at HT
        go_wp2
        go_ret
        exact ⟨ret_v (by rw [HT.out]; rfl), BW.out⟩
end Go.Proofs.Ytefajhfahnhcgaa
