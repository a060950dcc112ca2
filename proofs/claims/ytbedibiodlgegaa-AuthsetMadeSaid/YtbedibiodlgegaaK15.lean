/- The reference's Of of a store: the events with some ids, whole. Bound: at most 10000 ids. -/
import Derived.Test.YtbedibiodlgegaaK13
namespace Go.Proofs.Ytbedibiodlgegaa
open Go Go.RowKit
set_option linter.unusedVariables false
set_option linter.unusedSimpArgs false

/-- What is found. -/
def fnd (E : Nat → Evd) (n : Nat) (zs : List Int) : List Evd := zs.filterMap fun z => (pl E n z).map fun k => dat (E k)
theorem fnd_none {E : Nat → Evd} {n kk : Nat} {zs : List Int} (hk : kk < zs.length) (h : pl E n (zs.getD kk 0) = none) : fnd E n (zs.take (kk + 1)) = fnd E n (zs.take kk) := by
  rw [List.getD_eq_getElem?_getD, List.getElem?_eq_getElem hk] at h
  unfold fnd
  rw [List.take_succ_eq_append_getElem hk, List.filterMap_append]
  simp only [List.filterMap_cons, List.filterMap_nil]
  rw [show pl E n zs[kk] = none from h]
  simp
theorem fnd_some {E : Nat → Evd} {n kk k : Nat} {zs : List Int} (hk : kk < zs.length) (h : pl E n (zs.getD kk 0) = some k) : fnd E n (zs.take (kk + 1)) = fnd E n (zs.take kk) ++ [dat (E k)] := by
  rw [List.getD_eq_getElem?_getD, List.getElem?_eq_getElem hk] at h
  unfold fnd
  rw [List.take_succ_eq_append_getElem hk, List.filterMap_append]
  simp only [List.filterMap_cons, List.filterMap_nil]
  rw [show pl E n zs[kk] = some k from h]
  simp
theorem fnd_len (E : Nat → Evd) (n : Nat) (zs : List Int) : (fnd E n zs).length ≤ zs.length := List.length_filterMap_le _ _
set_option maxRecDepth 100000 in
set_option maxHeartbeats 8000000 in
theorem rof41 (A Z : Option Addr) (n c m d : Nat) (E : Nat → Evd) (zs : List Int) (w : World) (h : Evx w A n E) (hz : Its w Z m d zs) (hm : m ≤ 10000) : Calls Try.prog 41 #[.slice A n c, .slice Z m d] w (EvsP w (fnd E n zs)) := by
  have H := Lib.hid h
  have HZ := Lib.hid hz
  obtain ⟨i0, hi, hz0, hz1, hz2⟩ := info_parts info34s
  have HI := Lib.hid (And.intro hi (And.intro hz0 (And.intro hz1 hz2)))
  have HL := Lib.hid hz.len
  clear h hz hi hz0 hz1 hz2
  go_enter Try.func41, Try.ntmps41
  go_wp2
  go_loopg [5, 6, 7, 8] m (fun gg s5 s6 _ _ wr => ∃ (kk nf : Nat) (es : List Evd) (A1 : Option Addr) (c1 : Nat), kk ≤ m ∧ m - kk ≤ gg ∧ s6 = .int .i64 kk ∧ s5 = .slice A1 nf c1 ∧ nf ≤ kk ∧ Hid (es.length = nf) ∧ Hid (es.map dat = fnd E n (zs.take kk)) ∧ Hid (Kept wr (.slice A1 nf c1) es) ∧ Hid (wr.ownsRow w.heap.size 34 29 (.slice A1 nf c1) nf (clE es)) ∧ Hid (Below w.heap.size w wr))
  case atStart => exact ⟨0, 0, [], none, 0, Nat.zero_le _, by omega, rfl, rfl, Nat.le_refl _, Lib.hid rfl, Lib.hid rfl, Lib.hid (Kept.nil _ _), Lib.hid (World.ownsRow_nil w _ _ _), Lib.hid (Below.refl _ _)⟩
  case round =>
    obtain ⟨kk, nf, es, A1, c1, hkk, hg, rfl, rfl, hnf, HEl, HEs, HKe, HO, BW⟩ := hrel
    by_cases hlt : kk < m
    · have hltz : (kk : Int) < (m : Int) := by omega
      obtain ⟨b, off, rfl, _, k0, hb0⟩ := (HZ.out.below BW.out).get hlt
      have hkl : kk < zs.length := by rw [HL.out]; exact hlt
      have CG := Lib.hid (fun wr' (hb : Below w.heap.size w wr') => get40 A n c (zs.getD kk 0) E wr' (H.out.below hb))
      cases hp : pl E n (zs.getD kk 0) with
      | none =>
        have HN := Lib.hid (fnd_none hkl hp)
        rw [hp] at CG
        clear hp
        generalize zs.getD kk 0 = z at *
        go_wp2_with (first
          | (go_at_call 40; refine (CG.out _ BW.out).mono ?_; rintro e w3 ⟨rfl, hb3⟩; have HB3 := Lib.hid hb3; clear hb3)
          | (refine wpList_store_mid rfl 34 _ _ rfl w3.heap.size 0 (cellsE ev0).toArray rfl rfl (Blk.there (n := 29) (blk_new w3 z29' 34) (by decide)) size39 (by simp [Value.oneCell']) ?_; generalize hw4 : (w3.alloc (.cells z29'.toArray 34)).setCells w3.heap.size 0 (cellsE ev0).toArray.toList = w4; have Q4 : Hid (Below wr.heap.size wr w4) := Lib.hid (by rw [← hw4]; exact HB3.out.trans ((below_setAll (Nat.le_refl _) _ _ _ ((Below.refl _ w3).alloc (Nat.le_refl _) _)).mono HB3.out.size)); clear hw4))
        go_roundg (m - (kk + 1))
        case measure => omega
        case rel => exact ⟨kk + 1, nf, es, A1, c1, by omega, by omega, by go_num, rfl, by omega, HEl, by rw [HN.out]; exact HEs, Lib.hid (HKe.out.below Q4.out), Lib.hid (own_below HO.out Q4.out), Lib.hid (BW.out.trans (Q4.out.mono BW.out.size))⟩
      | some k =>
        have HN := Lib.hid (fnd_some hkl hp)
        have hkn := pl_lt hp
        have HWx := Lib.hid (H.out.wf k hkn)
        rw [hp] at CG
        clear hp
        generalize zs.getD kk 0 = z at *
        go_wp2_with (first
          | (go_at_call 40; refine (CG.out _ BW.out).mono ?_; rintro e w3 ⟨rfl, hb3⟩; have HB3 := Lib.hid (BW.out.trans (hb3.mono BW.out.size)); have O3 := Lib.hid (own_below HO.out hb3); have K3 := Lib.hid (HKe.out.below hb3); clear hb3)
          | (refine wpList_store_mid rfl 34 _ _ rfl w3.heap.size 0 (cellsE (E k)).toArray rfl rfl (Blk.there (n := 29) (blk_new w3 z29' 34) (by decide)) size39 (by simp [Value.oneCell']) ?_; generalize hw4 : (w3.alloc (.cells z29'.toArray 34)).setCells w3.heap.size 0 (cellsE (E k)).toArray.toList = w4; have X4 : Hid (Blk w4 w3.heap.size (cellsE (E k)) 34) := Lib.hid (by rw [← hw4]; exact (blk_new w3 z29' 34).setAll _ rfl); have Q4 : Hid (Below w3.heap.size w3 w4) := Lib.hid (by rw [← hw4]; exact below_setAll (Nat.le_refl _) _ _ _ ((Below.refl _ w3).alloc (Nat.le_refl _) _)); clear hw4; have B4 := Lib.hid (HB3.out.trans (Q4.out.mono HB3.out.size)); have O4 := Lib.hid (own_below O3.out Q4.out); have K4 := Lib.hid (K3.out.below Q4.out); have B4a := Lib.hid (B4.out.alloc B4.out.size (.cells (cellsE (E k)).toArray 34)); have HBx := Lib.hid ((H.out.below B4a.out).beh hkn); have HNx := Lib.hid (fun g (hg : w.heap.size ≤ g) => (H.out.beh hkn).apart hg))
          | (refine wpList_load_mid rfl 34 _ rfl w3.heap.size 0 rfl (cellsE (E k)) _ X4.out.range Try.underlying34 rfl size39 ?_)
          | (refine wpList_buildSliceTo rfl 44 34 1 _ rfl w4.heap.size rfl _ rfl Try.underlying44 (cellsE (E k)).toArray (built34 (E k)) ?_)
          | (at_builtin; refine wpList_append_any _ rfl _ _ 44 rfl w.heap.size 34 i0 _ 29 376 Try.underlying44 HI.out.1 HI.out.2.1 HI.out.2.2.1 HI.out.2.2.2 rfl (by decide) (.slice A1 nf c1) nf (clE es) rfl (own_below O4.out ((Below.refl _ w4).alloc (Nat.le_refl _) (.cells (cellsE (E k)).toArray 34))) (some ⟨w4.heap.size, 0, none⟩) 1 1 (cellsE (E k)) rfl (srcE w4 (E k)) (by unfold maxLen; omega) (by omega) (by have := B4.out.size; simp; omega) ?_; intro v6 w6 hgr; have B6 := Lib.hid (hgr.below (B4.out.alloc B4.out.size (.cells (cellsE (E k)).toArray 34)) (own_below O4.out ((Below.refl _ w4).alloc (Nat.le_refl _) (.cells (cellsE (E k)).toArray 34)))); have O6 := Lib.hid hgr.own; have K6 := Lib.hid (((K4.out.below ((Below.refl _ w4).alloc (Nat.le_refl _) (.cells (cellsE (E k)).toArray 34))).snoc HBx.out HWx.out (fun g hg => HNx.out g (O4.out.lt g hg).1)).grew hgr); clear hgr; rw [clE_snoc] at O6; obtain ⟨A6, c6, rfl⟩ := own_slice O6.out))
        go_roundg (m - (kk + 1))
        case measure => omega
        case rel => exact ⟨kk + 1, nf + 1, es ++ [E k], A6, c6, by omega, by omega, by go_num, rfl, by omega, Lib.hid (by rw [List.length_append, HEl.out]; rfl), Lib.hid (by rw [HN.out, List.map_append, HEs.out]; rfl), K6, O6, B6⟩
    · have hltz : ¬ (kk : Int) < (m : Int) := by omega
      have HE := Lib.hid (evs_end (ds := fnd E n zs) HO.out HEl.out (by omega) HKe.out (by have := HEs.out; rw [List.take_of_length_le (by rw [HL.out]; omega)] at this; exact this) BW.out)
      go_wp2
      go_ret
      exact HE.out
end Go.Proofs.Ytbedibiodlgegaa
