/- RelateOrder: its walk. -/
import Derived.Test.YtefajhfahnhcgaaV30
namespace Go.Proofs.Ytefajhfahnhcgaa
open Go Go.RowKit
set_option linter.unusedVariables false
set_option linter.unusedSimpArgs false

/-- The last ones of n, from the end on. -/
def lst (n m : Nat) : List Nat := (List.range (n - m)).map (fun j => n - 1 - j)
theorem lst_len (n m : Nat) : (lst n m).length = n - m := by unfold lst; rw [List.length_map, List.length_range]
theorem lst_snoc {n k : Nat} (h : k + 1 ≤ n) : lst n k = lst n (k + 1) ++ [k] := by
  unfold lst
  rw [show n - k = (n - (k + 1)) + 1 by omega, List.range_succ, List.map_append, List.map_singleton, show n - 1 - (n - (k + 1)) = k by omega]
theorem lst_get (n j : Nat) : (lst n 0).getD j 0 = n - 1 - j := by
  unfold lst
  rw [List.getD_eq_getElem?_getD, List.getElem?_map]
  by_cases h : j < n - 0
  · rw [List.getElem?_range h]; rfl
  · rw [List.getElem?_eq_none (by rw [List.length_range]; omega)]
    show 0 = _
    omega
set_option maxRecDepth 100000 in
set_option maxHeartbeats 16000000 in
theorem order_walk (A : Option Addr) (n c : Nat) (E : Nat → Me) (z : Int) (w : World) (h : Evm w A n E) (hc : n ≤ c) : Calls Try.prog 7 #[.slice A n c, .int .i64 z] w fun r w' => r = .returned (.bool true) ∧ Below w.heap.size w w' := by
  have HFe := Lib.hid (few13 A n c E w h)
  cases hq : fewE E n with
  | false =>
    rw [hq] at HFe
    have B1 := Lib.hid (Below.refl w.heap.size w)
    clear h hc
    go_enter Try.func7, Try.ntmps7
    go_wp2_with (first
      | (go_at_call 13; (with_reducible refine HFe.out.mono ?_); rintro r w0 ⟨rfl, he⟩; obtain rfl : w = w0 := he.symm)
      | (go_at_call 12; (with_reducible refine (lives12 _).mono ?_); rintro r w9 ⟨rfl, hb⟩; have B9 := Lib.hid (B1.out.trans (hb.mono B1.out.size)); clear hb)
      | go_in)
    go_ret
    exact ⟨rfl, B9.out⟩
  | true =>
    rw [hq] at HFe
    have hn := fewE_le hq
    have HSg := Lib.hid (single24 A n c E w h hc)
    cases hs : sglE E n with
    | false =>
      rw [hs] at HSg
      clear h hc hq hs
      go_enter Try.func7, Try.ntmps7
      go_wp2_with (first
        | (go_at_call 13; (with_reducible refine HFe.out.mono ?_); rintro r w0 ⟨rfl, he⟩; obtain rfl : w = w0 := he.symm)
        | (go_at_call 24; (with_reducible refine HSg.out.mono ?_); rintro r w1 ⟨rfl, hb⟩; have B1 := Lib.hid hb; clear hb)
        | (go_at_call 12; (with_reducible refine (lives12 _).mono ?_); rintro r w9 ⟨rfl, hb⟩; have B9 := Lib.hid (B1.out.trans (hb.mono B1.out.size)); clear hb)
        | go_in)
      go_ret
      exact ⟨rfl, B9.out⟩
    | true =>
      rw [hs] at HSg
      have HS := Lib.hid (fun u (hb : Below w.heap.size w u) => show17e A n c E z u (h.below hb) (by omega))
      have HSm := Lib.hid (fun u (hb : Below w.heap.size w u) => sum15e A n c E z u (h.below hb) (by omega))
      have HSB := Lib.hid (fun A' c' u (he : Evm u A' n (bk E n)) => show17e A' n c' (bk E n) z u he (by omega))
      rw [(shw_back hs z).1, (shw_back hs z).2] at HSB
      have HMB := Lib.hid (fun A' c' u (he : Evm u A' n (bk E n)) => (sum15e A' n c' (bk E n) z u he (by omega)).mono fun r w' h => (show ∃ v, r = Ending.returned v ∧ IsSum w' E (onc E n) z (gt E n z) v ∧ Below u.heap.size u w' from by
        obtain ⟨v, e, h1, h2⟩ := h
        exact ⟨v, e, isSum_back hs h1, h2⟩))
      have HH := Lib.hid h
      have HFa := Lib.hid h.fit
      obtain ⟨i0, hi, hz0, hz1, hz2⟩ := info_parts info34
      have HI := Lib.hid (And.intro hi (And.intro hz0 (And.intro hz1 hz2)))
      generalize shwT E n z = st at HS HSB
      generalize shwE E n z = se at HS HSB
      clear h hc hq hs hi hz0 hz1 hz2
      go_enter Try.func7, Try.ntmps7
      go_wp2_with (first
        | (go_at_call 13; (with_reducible refine HFe.out.mono ?_); rintro r w0 ⟨rfl, he⟩; obtain rfl : w = w0 := he.symm)
        | (go_at_call 24; (with_reducible refine HSg.out.mono ?_); rintro r w1 ⟨rfl, hb⟩; have B1 := Lib.hid hb; clear hb)
        | go_in)
      have O0 : Hid ((w1.alloc (.cells #[] 34)).ownsRow w1.heap.size 34 29 (.slice (some ⟨w1.heap.size, 0, none⟩) 0 0) 0 []) := Lib.hid (World.ownsRow_made (base := w1.heap.size) (e := 34) (size := 29) w1 #[] 0 (Nat.le_refl _) (by decide) (by simp))
      have BA := Lib.hid ((Below.refl w1.heap.size w1).alloc (Nat.le_refl _) (.cells #[] 34))
      go_loopg [5, 6] n (fun gg s5 s6 wr => ∃ (m : Nat) (z6 : Int) (v : Value), m ≤ n ∧ m ≤ gg ∧ v = s5 ∧ s6 = .int .i64 z6 ∧ Hid (z6 = (m : Int) - 1) ∧ Hid (wr.ownsRow w1.heap.size 34 29 v (n - m) (clM E (lst n m))) ∧ Hid (Below w1.heap.size w1 wr))
      case atStart => exact ⟨n, _, _, Nat.le_refl _, Nat.le_refl _, rfl, rfl, Lib.hid (by omega), Lib.hid (by have := O0.out; unfold lst; rw [Nat.sub_self]; exact this), BA⟩
      case round =>
        clear O0 BA
        obtain ⟨m, z6, v, hm, hg, rfl, rfl, HZ, HO, BX⟩ := hrel
        by_cases h0 : 0 < m
        · obtain ⟨k, rfl⟩ : ∃ k, m = k + 1 := ⟨m - 1, by omega⟩
          obtain rfl : z6 = (k : Int) := by have := HZ.out; omega
          have hk0 : (0 : Int) ≤ (k : Int) := by omega
          have hkn : (k : Int) < (n : Int) := by omega
          obtain ⟨b1, o1, rfl, hat⟩ := (HH.out.below (B1.out.trans (BX.out.mono B1.out.size))).get (show k < n by omega)
          have HRg := Lib.hid hat.rng
          have HFt := Lib.hid hat.fit
          clear hat HZ
          go_wp2_with (first
            | (refine wpList_load_mid rfl 34 _ rfl b1 (o1 + k * 29) rfl (E k).cs _ HRg.out Try.underlying34 rfl (size34l HFt.out.len) ?_)
            | (refine Great.wpList_buildSliceTo rfl 40 34 1 _ rfl wr.heap.size rfl _ rfl Try.underlying40 (E k).cs.toArray (by first | exact built34 HFt.out.len | (show Try.prog.builtSlice 34 1 [(0, .agg (E k).cs.toArray)] = _; exact built34 HFt.out.len) | (simp only [List.map_toArray, List.map_cons, List.map_nil]; exact built34 HFt.out.len) | (simp [Act.eval]; exact built34 HFt.out.len)) ?_)
            | (at_builtin; refine wpList_append_any _ rfl _ _ 40 rfl w1.heap.size 34 i0 _ 29 376 Try.underlying40 HI.out.1 HI.out.2.1 HI.out.2.2.1 HI.out.2.2.2 rfl (by decide) v (n - (k + 1)) (clM E (lst n (k + 1))) rfl (HO.out.alloc _) _ 1 1 (E k).cs rfl (src_ev _ HFt.out) (by unfold maxLen; omega) (by omega) (BX.out.alloc BX.out.size _).size ?_; intro v5 w5 hgr; have B5 := Lib.hid (hgr.below (BX.out.alloc BX.out.size _) (HO.out.alloc _)); have O5 := Lib.hid hgr.own; clear hgr)
            | go_in)
          go_roundg k
          case measure => omega
          case rel => exact ⟨k, (k : Int) - 1, v5, by omega, by omega, rfl, by go_num, Lib.hid rfl, Lib.hid (by rw [lst_snoc hm, clM_snoc]; have := O5.out; rw [show n - (k + 1) + 1 = n - k by omega] at this; exact this), B5⟩
        · obtain rfl : m = 0 := by omega
          obtain rfl : z6 = -1 := by have := HZ.out; omega
          clear HZ h0
          obtain ⟨A', c', rfl⟩ := own_slice HO.out
          have EO := Lib.hid (show Evm wr A' n (bk E n) from by
            have h1 := HO.out
            rw [show n - 0 = (lst n 0).length by rw [lst_len]] at h1
            have h2 := own_evm h1 (fun i hi => HFa.out i (by
              unfold lst at hi
              obtain ⟨j, hj, rfl⟩ := List.mem_map.1 hi
              have := List.mem_range.1 hj
              omega)) (by rw [lst_len]; unfold maxLen; omega)
            rw [lst_len] at h2
            have h3 : (fun j => E ((lst n 0).getD j 0)) = bk E n := by funext j; rw [lst_get]; rfl
            rw [h3] at h2
            exact h2)
          have BW := Lib.hid (B1.out.trans (BX.out.mono B1.out.size))
          clear HO
          rw [Nat.sub_zero]
          go_wp2_with (first
            | (go_at_call 17; (first
                | (with_reducible refine (HS.out _ BW.out).mono ?_; rintro r w2 ⟨rfl, hb⟩; have E2 := Lib.hid (EO.out.below hb); have B2 := Lib.hid (BW.out.trans (hb.mono BW.out.size)); clear hb)
                | (with_reducible refine (HSB.out _ _ _ E2.out).mono ?_; rintro r w3 ⟨rfl, hb⟩; have E3 := Lib.hid (E2.out.below hb); have B3 := Lib.hid (B2.out.trans (hb.mono B2.out.size)); clear hb)))
            | (go_at_call 15; (first
                | (with_reducible refine (HSm.out _ B3.out).mono ?_; rintro r w4 ⟨v4, rfl, hs, hb⟩; have S4 := Lib.hid hs; have E4 := Lib.hid (E3.out.below hb); have B4 := Lib.hid (B3.out.trans (hb.mono B3.out.size)); clear hs hb)
                | (with_reducible refine (HMB.out _ _ _ E4.out).mono ?_; rintro r w5 ⟨v5, rfl, hs, hb⟩; have S5 := Lib.hid hs; have T5 := Lib.hid (S4.out.below hb); have B5 := Lib.hid (B4.out.trans (hb.mono B4.out.size)); clear hs hb)))
            | (go_at_call 14; (with_reducible refine (same14_is T5.out S5.out).mono ?_); rintro r w6 ⟨rfl, hb⟩; have B6 := Lib.hid (B5.out.trans (hb.mono B5.out.size)); clear hb)
            | (go_at_call 12; (with_reducible refine (lives12 _).mono ?_); rintro r w9 ⟨rfl, hb⟩; have B9 := Lib.hid (B6.out.trans (hb.mono B6.out.size)); clear hb)
            | go_in)
          go_ret
          exact ⟨rfl, B9.out⟩
end Go.Proofs.Ytefajhfahnhcgaa
