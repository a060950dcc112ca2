/- The reference's Of of a store: the events with some ids. Bound: at most 10000 ids. -/
import Derived.Test.YtnhjbknhbeicfaaDoorW12
import Derived.Great.Walk
namespace Go.Proofs.YtnhjbknhbeicfaaDoor
open Go.RowKit
set_option linter.unusedVariables false
set_option linter.unusedSimpArgs false

theorem info48s : (Tryd.prog.info? 48).map (fun i => (i.zero, i.size, i.bytes)) = some (some (.agg (cellsE ev0).toArray), 29, 376) := by kernel_rfl
theorem built48 (e : Evd) : Tryd.prog.builtSlice 48 1 [(0, .agg (cellsE e).toArray)] = some (cellsE e).toArray := by kernel_rfl
theorem cellsE_len (e : Evd) : (cellsE e).length = 29 := rfl
theorem cellsE_one (e : Evd) : ∀ u ∈ cellsE e, u.oneCell' = true := by
  intro u hu
  simp only [cellsE, evc, List.mem_cons, List.not_mem_nil, or_false] at hu
  rcases hu with rfl | rfl | rfl | rfl | rfl | rfl | rfl | rfl | rfl | rfl | rfl | rfl | rfl | rfl | rfl | rfl | rfl | rfl | rfl | rfl | rfl | rfl | rfl | rfl | rfl | rfl | rfl | rfl | rfl <;> rfl
def clE (es : List Evd) : List Value := es.flatMap cellsE
theorem clE_snoc (es : List Evd) (e : Evd) : clE es ++ cellsE e = clE (es ++ [e]) := by
  unfold clE; rw [List.flatMap_append]; simp
theorem flat_clE (es : List Evd) : flat es.length (fun j => cellsE (es.getD j ev0)) = clE es := by
  have : ∀ n, n ≤ es.length → flat n (fun j => cellsE (es.getD j ev0)) = clE (es.take n) := by
    intro n
    induction n with
    | zero => intro _; rfl
    | succ n ih =>
      intro hn
      rw [flat_succ, ih (by omega), List.take_succ_eq_append_getElem (by omega), ← clE_snoc, List.getD_eq_getElem?_getD, List.getElem?_eq_getElem (by omega)]
      rfl
  rw [this _ (Nat.le_refl _), List.take_length]
theorem srcE (w : World) (e : Evd) : Src (w.alloc (.cells (cellsE e).toArray 48)) (some ⟨w.heap.size, 0, none⟩) 1 1 29 (cellsE e) :=
  ⟨rfl, (fun e => by cases e), .inr ⟨w.heap.size, 0, rfl, by simp, fun j u hu => by rw [Nat.zero_add]; exact (blk_new w (cellsE e) 48).cell hu⟩, cellsE_one e⟩
def kc0 : Kc := ⟨0, ByteArray.empty, 0⟩
/-- What is found. -/
def fnd (E : Nat → Evd) (n : Nat) (zs : List Int) : List Kc := zs.filterMap fun z => (pl E n z).map fun k => kcd (E k)
theorem fnd_none {E : Nat → Evd} {n kk : Nat} {zs : List Int} (hk : kk < zs.length) (h : pl E n (zs.getD kk 0) = none) : fnd E n (zs.take (kk + 1)) = fnd E n (zs.take kk) := by
  rw [List.getD_eq_getElem?_getD, List.getElem?_eq_getElem hk] at h
  unfold fnd
  rw [List.take_succ_eq_append_getElem hk, List.filterMap_append]
  simp only [List.filterMap_cons, List.filterMap_nil]
  rw [show pl E n zs[kk] = none from h]
  simp
theorem fnd_some {E : Nat → Evd} {n kk k : Nat} {zs : List Int} (hk : kk < zs.length) (h : pl E n (zs.getD kk 0) = some k) : fnd E n (zs.take (kk + 1)) = fnd E n (zs.take kk) ++ [kcd (E k)] := by
  rw [List.getD_eq_getElem?_getD, List.getElem?_eq_getElem hk] at h
  unfold fnd
  rw [List.take_succ_eq_append_getElem hk, List.filterMap_append]
  simp only [List.filterMap_cons, List.filterMap_nil]
  rw [show pl E n zs[kk] = some k from h]
  simp
theorem fnd_len (E : Nat → Evd) (n : Nat) (zs : List Int) : (fnd E n zs).length ≤ zs.length := List.length_filterMap_le _ _
theorem fnd_fit {E : Nat → Evd} {n : Nat} {zs : List Int} (h : ∀ j, j < n → Wfe (E j)) : ∀ p ∈ fnd E n zs, p.key.size ≤ 9223372036854775807 := by
  intro p hp
  obtain ⟨z, _, hz⟩ := List.mem_filterMap.1 hp
  cases e : pl E n z with
  | none => rw [e] at hz; cases hz
  | some k =>
    rw [e] at hz
    simp only [Option.map_some, Option.some.injEq] at hz
    subst hz
    exact (h k (pl_lt e)).s5
/-- A list of events of which l is read. -/
def EvO (w : World) (l : List Kc) (e : Ending) (w' : World) : Prop := ∃ A c, e = .returned (.slice A l.length c) ∧ Evk w' A l.length (fun j => l.getD j kc0) ∧ Below w.heap.size w w'
theorem evo_end {w w1 : World} {A : Option Addr} {nf c B : Nat} {es : List Evd} {l : List Kc} (h : w1.ownsRow B 48 29 (.slice A nf c) nf (clE es)) (hl : es.length = nf) (hn : nf ≤ 100000) (he : es.map kcd = l) (hf : ∀ p ∈ l, p.key.size ≤ 9223372036854775807) (hb : Below w.heap.size w w1) : EvO w l (.returned (.slice A nf c)) w1 := by
  have hll : l.length = nf := by rw [← he, List.length_map, hl]
  rw [← flat_clE, hl] at h
  have hr := own_rows h (fun j _ => rfl) (fun j _ => cellsE_one _) (by unfold maxLen; omega)
  have hk : ∀ j, j < nf → l.getD j kc0 = kcd (es.getD j ev0) := fun j hj => by
    have e1 : j < es.length := by omega
    rw [← he, List.getD_eq_getElem?_getD, List.getD_eq_getElem?_getD, List.getElem?_map, List.getElem?_eq_getElem e1]
    rfl
  refine ⟨A, c, by rw [hll], ?_, hb⟩
  rw [hll]
  refine ⟨by omega, fun h0 => ?_, fun j hj => hf _ ?_⟩
  · rcases hr.at_ with h1 | ⟨b, off, e, hlt, hc⟩
    · omega
    · refine ⟨b, off, e, hlt, fun j hj => ?_⟩
      show w1.cell? _ = some (.int .i64 (l.getD j kc0).kd) ∧ w1.cell? _ = some (.string (l.getD j kc0).key) ∧ w1.cell? _ = some (.int .i64 (l.getD j kc0).n)
      rw [hk j hj]
      exact ⟨hc j hj 3 _ rfl, hc j hj 5 _ rfl, hc j hj 11 _ rfl⟩
  · rw [List.getD_eq_getElem?_getD, List.getElem?_eq_getElem (by omega)]
    exact List.getElem_mem _
set_option maxRecDepth 100000 in
set_option maxHeartbeats 8000000 in
theorem rof31 (A Z : Option Addr) (n c m d : Nat) (E : Nat → Evd) (zs : List Int) (w : World) (h : Evx w A n E) (hz : Its w Z m d zs) (hm : m ≤ 10000) : Calls Tryd.prog 31 #[.slice A n c, .slice Z m d] w (EvO w (fnd E n zs)) := by
  have H := Lib.hid h
  have HZ := Lib.hid hz
  obtain ⟨i0, hi, hz0, hz1, hz2⟩ := info_parts info48s
  have HI := Lib.hid (And.intro hi (And.intro hz0 (And.intro hz1 hz2)))
  have HF := Lib.hid (fnd_fit (zs := zs) h.wf)
  have HL := Lib.hid hz.len
  clear h hz hi hz0 hz1 hz2
  go_enter Tryd.func31, Tryd.ntmps31
  go_wp2
  go_loopg [5, 6, 7, 8] m (fun gg s5 s6 _ _ wr => ∃ (kk nf : Nat) (es : List Evd) (A1 : Option Addr) (c1 : Nat), kk ≤ m ∧ m - kk ≤ gg ∧ s6 = .int .i64 kk ∧ s5 = .slice A1 nf c1 ∧ nf ≤ kk ∧ Hid (es.length = nf) ∧ Hid (es.map kcd = fnd E n (zs.take kk)) ∧ Hid (wr.ownsRow w.heap.size 48 29 (.slice A1 nf c1) nf (clE es)) ∧ Hid (Below w.heap.size w wr))
  case atStart => exact ⟨0, 0, [], none, 0, Nat.zero_le _, by omega, rfl, rfl, Nat.le_refl _, Lib.hid rfl, Lib.hid rfl, Lib.hid (World.ownsRow_nil w _ _ _), Lib.hid (Below.refl _ _)⟩
  case round =>
    obtain ⟨kk, nf, es, A1, c1, hkk, hg, rfl, rfl, hnf, HEl, HEs, HO, BW⟩ := hrel
    by_cases hlt : kk < m
    · have hltz : (kk : Int) < (m : Int) := by omega
      obtain ⟨b, off, rfl, _, k0, hb0⟩ := (HZ.out.below BW.out).get hlt
      have hkl : kk < zs.length := by rw [HL.out]; exact hlt
      have CG := Lib.hid (fun wr' (hb : Below w.heap.size w wr') => get40 A n c (zs.getD kk 0) E wr' (H.out.below hb))
      cases hp : pl E n (zs.getD kk 0) with
      | none =>
        have HN := Lib.hid (fnd_none hkl hp)
        rw [hp] at CG
        clear hp
        generalize zs.getD kk 0 = z at *
        go_wp2_with (first
          | (go_at_call 40; refine (CG.out _ BW.out).mono ?_; rintro e w3 ⟨rfl, hb3⟩; have HB3 := Lib.hid hb3; clear hb3)
          | (refine wpList_store_mid rfl 48 _ _ rfl w3.heap.size 0 (cellsE ev0).toArray rfl rfl (Blk.there (n := 29) (blk_new w3 z29' 48) (by decide)) size39 (by simp [Value.oneCell']) ?_; generalize hw4 : (w3.alloc (.cells z29'.toArray 48)).setCells w3.heap.size 0 (cellsE ev0).toArray.toList = w4; have Q4 : Hid (Below wr.heap.size wr w4) := Lib.hid (by rw [← hw4]; exact HB3.out.trans ((below_setAll (Nat.le_refl _) _ _ _ ((Below.refl _ w3).alloc (Nat.le_refl _) _)).mono HB3.out.size)); clear hw4))
        go_roundg (m - (kk + 1))
        case measure => omega
        case rel => exact ⟨kk + 1, nf, es, A1, c1, by omega, by omega, by go_num, rfl, by omega, HEl, by rw [HN.out]; exact HEs, Lib.hid (own_below HO.out Q4.out), Lib.hid (BW.out.trans (Q4.out.mono BW.out.size))⟩
      | some k =>
        have HN := Lib.hid (fnd_some hkl hp)
        rw [hp] at CG
        clear hp
        generalize zs.getD kk 0 = z at *
        go_wp2_with (first
          | (go_at_call 40; refine (CG.out _ BW.out).mono ?_; rintro e w3 ⟨rfl, hb3⟩; have HB3 := Lib.hid (BW.out.trans (hb3.mono BW.out.size)); have O3 := Lib.hid (own_below HO.out hb3); clear hb3)
          | (refine wpList_store_mid rfl 48 _ _ rfl w3.heap.size 0 (cellsE (E k)).toArray rfl rfl (Blk.there (n := 29) (blk_new w3 z29' 48) (by decide)) size39 (by simp [Value.oneCell']) ?_; generalize hw4 : (w3.alloc (.cells z29'.toArray 48)).setCells w3.heap.size 0 (cellsE (E k)).toArray.toList = w4; have X4 : Hid (Blk w4 w3.heap.size (cellsE (E k)) 48) := Lib.hid (by rw [← hw4]; exact (blk_new w3 z29' 48).setAll _ rfl); have Q4 : Hid (Below w3.heap.size w3 w4) := Lib.hid (by rw [← hw4]; exact below_setAll (Nat.le_refl _) _ _ _ ((Below.refl _ w3).alloc (Nat.le_refl _) _)); clear hw4; have B4 := Lib.hid (HB3.out.trans (Q4.out.mono HB3.out.size)); have O4 := Lib.hid (own_below O3.out Q4.out))
          | (refine wpList_load_mid rfl 48 _ rfl w3.heap.size 0 rfl (cellsE (E k)) _ X4.out.range Tryd.underlying48 rfl size39 ?_)
          | (refine wpList_buildSliceTo rfl 22 48 1 _ rfl w4.heap.size rfl _ rfl Tryd.underlying22 (cellsE (E k)).toArray (built48 (E k)) ?_)
          | (at_builtin; refine wpList_append_any _ rfl _ _ 22 rfl w.heap.size 48 i0 _ 29 376 Tryd.underlying22 HI.out.1 HI.out.2.1 HI.out.2.2.1 HI.out.2.2.2 rfl (by decide) (.slice A1 nf c1) nf (clE es) rfl (own_below O4.out ((Below.refl _ w4).alloc (Nat.le_refl _) (.cells (cellsE (E k)).toArray 48))) (some ⟨w4.heap.size, 0, none⟩) 1 1 (cellsE (E k)) rfl (srcE w4 (E k)) (by unfold maxLen; omega) (by omega) (by have := B4.out.size; simp; omega) ?_; intro v6 w6 hgr; have B6 := Lib.hid (hgr.below (B4.out.alloc B4.out.size (.cells (cellsE (E k)).toArray 48)) (own_below O4.out ((Below.refl _ w4).alloc (Nat.le_refl _) (.cells (cellsE (E k)).toArray 48)))); have O6 := Lib.hid hgr.own; clear hgr; rw [clE_snoc] at O6; obtain ⟨A6, c6, rfl⟩ := own_slice O6.out))
        go_roundg (m - (kk + 1))
        case measure => omega
        case rel => exact ⟨kk + 1, nf + 1, es ++ [E k], A6, c6, by omega, by omega, by go_num, rfl, by omega, Lib.hid (by rw [List.length_append, HEl.out]; rfl), Lib.hid (by rw [HN.out, List.map_append, HEs.out]; rfl), O6, B6⟩
    · have hltz : ¬ (kk : Int) < (m : Int) := by omega
      have HE := Lib.hid (evo_end (l := fnd E n zs) HO.out HEl.out (by omega) (by have := HEs.out; rw [List.take_of_length_le (by rw [HL.out]; omega)] at this; exact this) HF.out BW.out)
      go_wp2
      go_ret
      exact HE.out
end Go.Proofs.YtnhjbknhbeicfaaDoor
