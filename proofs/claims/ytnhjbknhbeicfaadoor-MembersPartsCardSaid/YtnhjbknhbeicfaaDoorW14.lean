/- store.Of: the events with some ids, in their order. Bound: at most 10000 ids and events. -/
import Derived.Test.YtnhjbknhbeicfaaDoorW13
import Derived.Test.YtnhjbknhbeicfaaDoorMI
import Derived.Test.YtnhjbknhbeicfaaDoorC2
namespace Go.Proofs.YtnhjbknhbeicfaaDoor
open Go.RowKit Go.Maps
set_option linter.unusedVariables false
set_option linter.unusedSimpArgs false

/-- Where each wanted id is, after some events. -/
def mpf (E : Nat → Evd) (zs : List Int) (n : Nat) : Int → Option Int := fun z => if z ∈ zs then some (plI (pl E n z)) else none
theorem mpf_hit {E : Nat → Evd} {zs : List Int} {kk : Nat} {z : Int} (hz : (E kk).e0 = z) (h : z ∈ zs) (hp : pl E kk z = none) : ∀ j, (if j = z then some ((kk : Nat) : Int) else mpf E zs kk j) = mpf E zs (kk + 1) j := by
  intro j
  unfold mpf
  by_cases e : j = z
  · subst e
    rw [if_pos rfl, if_pos h, pl_succ, hp, if_pos hz]; rfl
  · have hq : (if (E kk).e0 = j then some kk else none) = none := if_neg (fun h1 => e (h1.symm.trans hz))
    rw [if_neg e, pl_succ, hq, Option.or_none]
theorem mpf_out {E : Nat → Evd} {zs : List Int} {kk : Nat} {z : Int} (hz : (E kk).e0 = z) (h : ¬ z ∈ zs) : ∀ j, mpf E zs kk j = mpf E zs (kk + 1) j := by
  intro j
  unfold mpf
  by_cases e : j = z
  · subst e
    rw [if_neg h, if_neg h]
  · have hq : (if (E kk).e0 = j then some kk else none) = none := if_neg (fun h1 => e (h1.symm.trans hz))
    rw [pl_succ, hq, Option.or_none]
theorem mpf_old {E : Nat → Evd} {zs : List Int} {kk k : Nat} {z : Int} (hz : (E kk).e0 = z) (hp : pl E kk z = some k) : ∀ j, mpf E zs kk j = mpf E zs (kk + 1) j := by
  intro j
  unfold mpf
  by_cases e : j = z
  · subst e
    rw [pl_succ, hp]; rfl
  · have hq : (if (E kk).e0 = j then some kk else none) = none := if_neg (fun h1 => e (h1.symm.trans hz))
    rw [pl_succ, hq, Option.or_none]
def mp0 (zs : List Int) : Int → Option Int := fun z => if z ∈ zs then some (-1) else none
theorem mp0_add {zs : List Int} {kk : Nat} (h : kk < zs.length) : ∀ j, (if j = zs.getD kk 0 then some (-1 : Int) else mp0 (zs.take kk) j) = mp0 (zs.take (kk + 1)) j := by
  intro j
  unfold mp0
  rw [List.take_succ_eq_append_getElem h, List.getD_eq_getElem?_getD, List.getElem?_eq_getElem h]
  simp only [List.mem_append, List.mem_singleton, Option.getD_some]
  by_cases e : j = zs[kk]
  · simp [e]
  · simp [e]
theorem mp0_nil : ∀ j, (fun _ => none : Int → Option Int) j = mp0 [] j := by intro j; simp [mp0]
theorem mp0_all (E : Nat → Evd) (zs : List Int) : ∀ j, mp0 zs j = mpf E zs 0 j := fun _ => rfl
theorem mem_at {zs : List Int} {kk : Nat} (h : kk < zs.length) : zs.getD kk 0 ∈ zs := by
  rw [List.getD_eq_getElem?_getD, List.getElem?_eq_getElem h]; exact List.getElem_mem _
theorem mi_row {w : World} {B sz n m k : Nat} {e : TypeId} {v : Value} {xs : List Value} {f : Int → Option Int} (h : w.ownsRow B e sz v n xs) (hm : MapI w m k f) : v.ownBlock ≠ some m := by
  intro e2
  obtain ⟨D, ⟨es, clock, hb, _⟩, _⟩ := hm.ex
  rcases h.2 with ⟨rfl, _⟩ | ⟨g, cap, cur, rfl, _, hg, _⟩
  · simp [Value.ownBlock] at e2
  · simp [Value.ownBlock] at e2
    subst e2
    rw [hg] at hb
    cases hb
set_option maxRecDepth 100000 in
set_option maxHeartbeats 8000000 in
theorem of30 (A Z : Option Addr) (n c m d : Nat) (E : Nat → Evd) (zs : List Int) (w : World) (h : Evx w A n E) (hz : Its w Z m d zs) (hf : ∀ j, j < n → Fe (E j)) (hm : m ≤ 10000) (hn : n ≤ 10000) : Calls Tryd.prog 30 #[.slice A n c, .slice Z m d] w (EvO w (fnd E n zs)) := by
  have H := Lib.hid h
  have HZ := Lib.hid hz
  have HFe := Lib.hid hf
  obtain ⟨i0, hi, hz0, hz1, hz2⟩ := info_parts info48s
  have HI := Lib.hid (And.intro hi (And.intro hz0 (And.intro hz1 hz2)))
  have HF := Lib.hid (fnd_fit (zs := zs) h.wf)
  have HL := Lib.hid hz.len
  have HWf := Lib.hid h.wf
  have M0 := Lib.hid ((MapI.made w).same mp0_nil)
  have B0 := Lib.hid ((Below.refl w.heap.size w).alloc (Nat.le_refl _) (.map #[] 0))
  clear h hz hf hi hz0 hz1 hz2
  have hmm := @run_makeMap Tryd.prog
  go_enter Tryd.func30, Tryd.ntmps30
  go_wp2
  clear hmm
  go_loopg [7, 18] m (fun gg _ s6 wr => ∃ (kk nm : Nat), kk ≤ m ∧ m - kk ≤ gg ∧ s6 = .int .i64 kk ∧ nm ≤ kk ∧ Hid (MapI wr w.heap.size nm (mp0 (zs.take kk))) ∧ Hid (Below w.heap.size w wr))
  case atStart => exact ⟨0, 0, Nat.zero_le _, by omega, rfl, Nat.le_refl _, M0, B0⟩
  case round =>
    obtain ⟨kk, nm, hkk, hg, rfl, hnm, HM, BW⟩ := hrel
    by_cases hlt : kk < m
    · have hltz : (kk : Int) < (m : Int) := by omega
      obtain ⟨b, off, rfl, _, k0, hb0⟩ := (HZ.out.below BW.out).get hlt
      have hkl : kk < zs.length := by rw [HL.out]; exact hlt
      have HT := Lib.hid (mp0_add hkl)
      generalize zs.getD kk 0 = z at *
      go_wp2_with (refine wpList_putI (by rfl) _ _ _ rfl w.heap.size nm _ rfl HM.out (by omega) z hb0 rfl (-1) (by unfold i64B; omega) rfl ?_; intro w3 m3 g3; have M3 := Lib.hid (m3.same HT.out); have B3 := Lib.hid (BW.out.grown g3 BW.out.size (fun q hq => by cases hq; exact Nat.le_refl _)); clear m3 g3)
      go_roundg (m - (kk + 1))
      case measure => omega
      case rel => exact ⟨kk + 1, nm + 1, by omega, by omega, by go_num, by omega, M3, B3⟩
    · have hltz : ¬ (kk : Int) < (m : Int) := by omega
      have M1 : Hid (MapI wr w.heap.size nm (mpf E zs 0)) := Lib.hid (by have := HM.out; rw [List.take_of_length_le (by rw [HL.out]; omega)] at this; exact this.same (mp0_all E zs))
      have hnm2 : nm ≤ 10000 := by omega
      go_wp2
      clear HM hnm hg hltz hlt M0 B0
      go_loopg [8, 9, 10, 27] n (fun gg _ _ _ s6 wr => ∃ (kk nm : Nat), kk ≤ n ∧ n - kk ≤ gg ∧ s6 = .int .i64 kk ∧ nm ≤ 10000 + kk ∧ Hid (MapI wr w.heap.size nm (mpf E zs kk)) ∧ Hid (Below w.heap.size w wr))
      case atStart => exact ⟨0, nm, Nat.zero_le _, by omega, rfl, by omega, M1, BW⟩
      case round =>
        obtain ⟨kk, nm, hkk, hg, rfl, hnm, HM, BW⟩ := hrel
        by_cases hlt : kk < n
        · have hltz : (kk : Int) < (n : Int) := by omega
          obtain ⟨b, off, rfl, k0⟩ := (H.out.below BW.out).id hlt
          have hb0 : i64B (E kk).e0 := (HWf.out kk hlt).i0
          generalize hz : (E kk).e0 = z at k0 hb0
          have ask := HM.out.ask hb0
          by_cases hin : z ∈ zs
          · cases hp : pl E kk z with
            | none =>
              have e1 : mpf E zs kk z = some (-1) := by unfold mpf; rw [if_pos hin, hp]; rfl
              rw [e1] at ask
              simp only [Option.getD_some, Option.isSome_some] at ask
              have HT := Lib.hid (mpf_hit hz hin hp)
              clear e1 hp hin hz
              go_wp2_with (first
                | (refine wpList_putI (by rfl) _ _ _ rfl w.heap.size nm _ rfl HM.out (by omega) z hb0 rfl (kk : Int) (by unfold i64B; omega) rfl ?_; intro w3 m3 g3; have M3 := Lib.hid (m3.same HT.out); have B3 := Lib.hid (BW.out.grown g3 BW.out.size (fun q hq => by cases hq; exact Nat.le_refl _)); clear m3 g3))
              go_roundg (n - (kk + 1))
              case measure => omega
              case rel => exact ⟨kk + 1, nm + 1, by omega, by omega, by go_num, by omega, M3, B3⟩
            | some k =>
              have e1 : mpf E zs kk z = some (k : Int) := by unfold mpf; rw [if_pos hin, hp]; rfl
              rw [e1] at ask
              simp only [Option.getD_some, Option.isSome_some] at ask
              have HT := Lib.hid (mpf_old (zs := zs) hz hp)
              have M3 := Lib.hid (HM.out.same HT.out)
              have q0 : ¬ (k : Int) < 0 := by omega
              clear e1 hp hin hz
              go_wp2
              go_roundg (n - (kk + 1))
              case measure => omega
              case rel => exact ⟨kk + 1, nm, by omega, by omega, by go_num, by omega, M3, BW⟩
          · have e1 : mpf E zs kk z = none := by unfold mpf; rw [if_neg hin]
            rw [e1] at ask
            simp only [Option.getD_none, Option.isSome_none] at ask
            have M3 := Lib.hid (HM.out.same (mpf_out hz hin))
            clear e1 hin hz
            go_wp2
            go_roundg (n - (kk + 1))
            case measure => omega
            case rel => exact ⟨kk + 1, nm, by omega, by omega, by go_num, by omega, M3, BW⟩
        · have hltz : ¬ (kk : Int) < (n : Int) := by omega
          have M2 : Hid (MapI wr w.heap.size nm (mpf E zs n)) := Lib.hid (by rw [show n = kk by omega]; exact HM.out)
          have hnm2 : nm ≤ 20000 := by omega
          have O0 : Hid ((wr.alloc (.cells #[] 48)).ownsRow w.heap.size 48 29 (.slice (some ⟨wr.heap.size, 0, none⟩) 0 0) 0 (clE [])) := Lib.hid (T.own_mono (World.ownsRow_made (base := wr.heap.size) (e := 48) (size := 29) wr #[] 0 (Nat.le_refl _) (by decide) (by simp)) BW.out.size)
          have M3 := Lib.hid (M2.out.alloc (.cells #[] 48))
          have B3 := Lib.hid (BW.out.alloc BW.out.size (.cells #[] 48))
          go_wp2
          clear HM hnm hg hltz hlt M2
          go_loopg [11, 13, 14, 56] m (fun gg s11 _ _ s56 wr => ∃ (kk nf : Nat) (es : List Evd) (A1 : Option Addr) (c1 : Nat), kk ≤ m ∧ m - kk ≤ gg ∧ s56 = .int .i64 kk ∧ s11 = .slice A1 nf c1 ∧ nf ≤ kk ∧ Hid (es.length = nf) ∧ Hid (es.map kcd = fnd E n (zs.take kk)) ∧ Hid (wr.ownsRow w.heap.size 48 29 (.slice A1 nf c1) nf (clE es)) ∧ Hid (MapI wr w.heap.size nm (mpf E zs n)) ∧ Hid (Below w.heap.size w wr))
          case atStart => exact ⟨0, 0, [], _, 0, Nat.zero_le _, by omega, rfl, rfl, Nat.le_refl _, Lib.hid rfl, Lib.hid rfl, O0, M3, B3⟩
          case round =>
            obtain ⟨kk, nf, es, A1, c1, hkk, hg, rfl, rfl, hnf, HEl, HEs, HO, HM, BW⟩ := hrel
            by_cases hlt : kk < m
            · have hltz : (kk : Int) < (m : Int) := by omega
              obtain ⟨b, off, rfl, _, k0, hb0⟩ := (HZ.out.below BW.out).get hlt
              have hkl : kk < zs.length := by rw [HL.out]; exact hlt
              have look := HM.out.look hb0
              have e0 : mpf E zs n (zs.getD kk 0) = some (plI (pl E n (zs.getD kk 0))) := by unfold mpf; rw [if_pos (mem_at hkl)]
              rw [e0, Option.getD_some] at look
              clear e0
              cases hp : pl E n (zs.getD kk 0) with
              | none =>
                have HN := Lib.hid (fnd_none hkl hp)
                rw [hp, show plI none = -1 from rfl] at look
                clear hp
                generalize zs.getD kk 0 = z at *
                go_wp2
                go_roundg (m - (kk + 1))
                case measure => omega
                case rel => exact ⟨kk + 1, nf, es, A1, c1, by omega, by omega, by go_num, rfl, by omega, HEl, by rw [HN.out]; exact HEs, HO, HM, BW⟩
              | some k =>
                have HN := Lib.hid (fnd_some hkl hp)
                rw [hp, show plI (some k) = (k : Int) from rfl] at look
                have hk := pl_lt hp
                have hk1 : (0 : Int) ≤ (k : Int) := by omega
                have hk2 : (k : Int) < (n : Int) := by omega
                clear hp
                generalize zs.getD kk 0 = z at *
                obtain ⟨b2, off2, rfl, R⟩ := (H.out.below BW.out).get hk
                have CC := Lib.hid (clone39e (E k) wr ((H.out.below BW.out).ct k hk) ((H.out.below BW.out).pa k hk).1 ((H.out.below BW.out).pa k hk).2 (HFe.out k hk))
                go_wp2_with (first
                  | (refine load_mid_g (by rfl) 48 _ rfl b2 (off2 + k * 29) rfl (cellsE (E k)) _ R.out Tryd.underlying48 rfl size39 ?_)
                  | (go_at_call 39; (with_reducible refine CC.out.mono ?_); rintro e w3 ⟨⟨e', rfl, r0, r3, r5, rn⟩, hb3⟩; have HB3 := Lib.hid (BW.out.trans (hb3.mono BW.out.size)); have O3 := Lib.hid (own_below HO.out hb3); have M4 := Lib.hid ((HM.out.below hb3).alloc (.cells (cellsE e').toArray 48)); have HK : Hid (kcd e' = kcd (E k)) := Lib.hid (by unfold kcd; rw [r3, r5, rn]); clear hb3 r0 r3 r5 rn)
                  | (refine wpList_buildSliceTo rfl 22 48 1 _ rfl w3.heap.size rfl _ rfl Tryd.underlying22 (cellsE e').toArray (built48 e') ?_)
                  | (at_builtin; refine wpList_append_any _ rfl _ _ 22 rfl w.heap.size 48 i0 _ 29 376 Tryd.underlying22 HI.out.1 HI.out.2.1 HI.out.2.2.1 HI.out.2.2.2 rfl (by decide) (.slice A1 nf c1) nf (clE es) rfl (own_below O3.out ((Below.refl _ w3).alloc (Nat.le_refl _) (.cells (cellsE e').toArray 48))) (some ⟨w3.heap.size, 0, none⟩) 1 1 (cellsE e') rfl (srcE w3 e') (by unfold maxLen; omega) (by omega) (by have := HB3.out.size; simp; omega) ?_; intro v6 w6 hgr; have M6 := Lib.hid (M4.out.kept (hgr.grow.block w.heap.size M4.out.lt (fun e => mi_row (own_below O3.out ((Below.refl _ w3).alloc (Nat.le_refl _) (.cells (cellsE e').toArray 48))) M4.out e.symm))); have B6 := Lib.hid (hgr.below (HB3.out.alloc HB3.out.size (.cells (cellsE e').toArray 48)) (own_below O3.out ((Below.refl _ w3).alloc (Nat.le_refl _) (.cells (cellsE e').toArray 48)))); have O6 := Lib.hid hgr.own; clear hgr; rw [clE_snoc] at O6; obtain ⟨A6, c6, rfl⟩ := own_slice O6.out))
                go_roundg (m - (kk + 1))
                case measure => omega
                case rel => exact ⟨kk + 1, nf + 1, es ++ [e'], A6, c6, by omega, by omega, by go_num, rfl, by omega, Lib.hid (by rw [List.length_append, HEl.out]; rfl), Lib.hid (by rw [HN.out, List.map_append, HEs.out, List.map_cons, HK.out]; rfl), O6, M6, B6⟩
            · have hltz : ¬ (kk : Int) < (m : Int) := by omega
              have HE := Lib.hid (evo_end (l := fnd E n zs) HO.out HEl.out (by omega) (by have := HEs.out; rw [List.take_of_length_le (by rw [HL.out]; omega)] at this; exact this) HF.out BW.out)
              go_wp2
              go_ret
              exact HE.out
end Go.Proofs.YtnhjbknhbeicfaaDoor
