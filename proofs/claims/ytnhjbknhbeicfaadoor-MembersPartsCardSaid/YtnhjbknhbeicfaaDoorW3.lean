/- members.With of both. Bound: at most 100000 events. -/
import Derived.Test.YtnhjbknhbeicfaaDoorW2
import Derived.Test.YtnhjbknhbeicfaaDoorMS
namespace Go.Proofs.YtnhjbknhbeicfaaDoor
open Go.RowKit
set_option linter.unusedVariables false
set_option linter.unusedSimpArgs false

theorem ms_row {w : World} {B n m k : Nat} {v : Value} {xs : List Value} {f : List UInt8 → Bool} (h : w.ownsRow B 9 1 v n xs) (hm : MapS w m k f) : v.ownBlock ≠ some m := by
  obtain ⟨D, h1, _⟩ := hm.ex
  exact row_map h h1
abbrev wl (n : Nat) (K : Nat → Kc) (m : Int) : List I.Txt := I.nm (wlC (cores n K) m)
theorem names_own {w w1 : World} {A : Option Addr} {k c : Nat} {us : List T.Rc} {l : List I.Txt} (h : w1.ownsRow w.heap.size 9 1 (.slice A k c) k (T.cl us)) (hl : us.length = k) (hk : k ≤ 100000) (hf : ∀ p ∈ us, T.fitR p) (hb : Below w.heap.size w w1) (e : I.nm (txr us) = l) :
    Calls Tryd.prog 24 #[.slice A k c] w1 fun e w' => NamesP w1 l e w' := by
  obtain ⟨A', c', e1, hR, _⟩ := T.Rcs.ofOwn h hl (by omega) hf
  simp only [Value.slice.injEq, true_and] at e1
  obtain ⟨rfl, rfl⟩ := e1
  have := names_any A k c (us.map T.Rc.s) w1 hR.strs hR.cap (by omega)
  rw [tx_txr, e] at this
  exact this
theorem fit_snoc {us : List T.Rc} {x : ByteArray} (h : ∀ p ∈ us, T.fitR p) (hx : x.size ≤ 9223372036854775807) : ∀ p ∈ us ++ [⟨x⟩], T.fitR p := by
  intro p hp
  rcases List.mem_append.1 hp with h1 | h1
  · exact h p h1
  · obtain rfl : p = ⟨x⟩ := by simpa using h1
    exact hx
theorem txr_snoc (us : List T.Rc) (x : ByteArray) : txr (us ++ [⟨x⟩]) = txr us ++ [x.data.toList] := by unfold txr; rw [List.map_append]; rfl
theorem names_mono {w w1 : World} {l : List I.Txt} {e : Ending} {w' : World} (h : NamesP w1 l e w') (hb : Below w.heap.size w w1) : NamesP w l e w' := by
  obtain ⟨A, c, h1, h2, h3, h4⟩ := h
  exact ⟨A, c, h1, h2, h3, hb.trans (h4.mono hb.size)⟩
theorem map_snoc (l : List I.Txt) (x k : I.Txt) : decide (k ∈ l ++ [x]) = (if k = x then true else decide (k ∈ l)) := by
  by_cases e : k = x
  · rw [if_pos e]; simp [e]
  · rw [if_neg e]; simp [e]
theorem ev_keep {w wr w5 : World} {A : Option Addr} {n : Nat} {K : Nat → Kc} {b off i : Nat} (h : Evk w A n K) (h1 : Below w.heap.size w wr) (h2 : Below w.heap.size w w5) (e : A = some ⟨b, off, none⟩) (h0 : 0 < n) : w5.cell? ⟨b, i, none⟩ = wr.cell? ⟨b, i, none⟩ := by
  obtain ⟨b', off', e', hlt, _⟩ := h.at_ h0
  rw [e] at e'
  cases e'
  rw [h2.cell (p := ⟨b, i, none⟩) hlt, h1.cell (p := ⟨b, i, none⟩) hlt]
set_option maxRecDepth 100000 in
set_option maxHeartbeats 8000000 in
theorem with13 (A : Option Addr) (n c : Nat) (K : Nat → Kc) (m : Int) (w : World) (h : Evk w A n K) (hn : n ≤ 100000) : Calls Tryd.prog 13 #[.slice A n c, .int .i64 m] w (NamesP w (wl n K m)) := by
  have H := Lib.hid h
  obtain ⟨i0, hi, hz0, hz1, hz2⟩ := info_parts info9s
  have HI := Lib.hid (And.intro hi (And.intro hz0 (And.intro hz1 hz2)))
  have B0 := Lib.hid (((Below.refl w.heap.size w).alloc (Nat.le_refl _) (.map #[] 0)).alloc (by simp) (.cells #[] 9))
  have M0 := Lib.hid ((MapS.made w).alloc (.cells #[] 9))
  have O0 : Hid (((w.alloc (.map #[] 0)).alloc (.cells #[] 9)).ownsRow w.heap.size 9 1 (.slice (some ⟨w.heap.size + 1, 0, none⟩) 0 0) 0 (T.cl [])) := Lib.hid (by
    have := World.ownsRow_made (base := w.heap.size) (e := 9) (size := 1) (w.alloc (.map #[] 0)) #[] 0 (by simp) (by decide) (by simp)
    have e : (w.alloc (.map #[] 0)).heap.size = w.heap.size + 1 := by simp
    rw [e] at this
    exact this)
  have hmm := @run_makeMap Tryd.prog
  clear h hi hz0 hz1 hz2
  go_enter Tryd.func13, Tryd.ntmps13
  go_wp2
  clear hmm
  go_loopg [6, 7, 12] n (fun gg s6 _ s12 wr => ∃ (kk nm : Nat) (seenL : List I.Txt) (us : List T.Rc) (A1 : Option Addr) (c1 : Nat), kk ≤ n ∧ n - kk ≤ gg ∧ s12 = .int .i64 kk ∧ s6 = .slice A1 us.length c1 ∧ nm ≤ kk ∧ us.length ≤ kk ∧ Hid (Sn (cores kk K) m seenL (txr us)) ∧ Hid (MapS wr w.heap.size nm (fun x => decide (x ∈ seenL))) ∧ Hid (wr.ownsRow w.heap.size 9 1 (.slice A1 us.length c1) us.length (T.cl us)) ∧ Hid (∀ p ∈ us, T.fitR p) ∧ Hid (Below w.heap.size w wr))
  case atStart => exact ⟨0, 0, [], [], some ⟨w.heap.size + 1, 0, none⟩, 0, Nat.zero_le _, by omega, rfl, rfl, Nat.le_refl _, Nat.le_refl _, Lib.hid (Sn.nil m), Lib.hid (M0.out.same (fun k => by simp)), O0, Lib.hid (by simp), B0⟩
  case round =>
    obtain ⟨kk, nm, seenL, us, A1, c1, hkk, hg, rfl, rfl, hnm, hus, HSn, HM, HO, HFt, BW⟩ := hrel
    generalize hul : us.length = ul at HO hus ⊢
    have HUL := Lib.hid hul
    clear hul
    by_cases hlt : kk < n
    · have hltz : (kk : Int) < (n : Int) := by omega
      obtain ⟨b, off, rfl, _, k3, k5, k11⟩ := (H.out.below BW.out).get hlt
      have hfit := H.out.fit kk hlt
      have HSk := HSn
      have HCs := Lib.hid (cores_succ kk K)
      generalize K kk = p at k3 k5 k11 hfit HCs
      cases q1 : (p.kd == 2)
      · have q1b : (p.kd != 2) = true := by rw [bne, q1]; rfl
        have HS2 : Hid (Sn (cores (kk + 1) K) m seenL (txr us)) := Lib.hid (by rw [HCs.out]; exact HSk.out.other (by rw [beq_eq_false_iff_ne] at q1; exact q1))
        go_wp2
        go_roundg (n - (kk + 1))
        case measure => omega
        case rel => exact ⟨kk + 1, nm, seenL, us, A1, c1, by omega, by omega, by go_num, by rw [HUL.out], by omega, by rw [HUL.out]; omega, HS2, HM, by rw [HUL.out]; exact HO, HFt, BW⟩
      · have q1b : (p.kd != 2) = false := by rw [bne, q1]; rfl
        have hk2 : p.kd = 2 := by rw [beq_iff_eq] at q1; exact q1
        have hlook := HM.out.look (s := p.key) hfit
        by_cases hin : p.key.data.toList ∈ seenL
        · rw [decide_eq_true hin] at hlook
          have HS2 : Hid (Sn (cores (kk + 1) K) m seenL (txr us)) := Lib.hid (by rw [HCs.out]; exact HSk.out.old hin)
          clear hin hk2
          go_wp2
          go_roundg (n - (kk + 1))
          case measure => omega
          case rel => exact ⟨kk + 1, nm, seenL, us, A1, c1, by omega, by omega, by go_num, by rw [HUL.out], by omega, by rw [HUL.out]; omega, HS2, HM, by rw [HUL.out]; exact HO, HFt, BW⟩
        · rw [decide_eq_false hin] at hlook
          have HSN : Hid (Sn (cores (kk + 1) K) m (seenL ++ [p.key.data.toList]) (if p.n = m then txr us ++ [p.key.data.toList] else txr us)) := Lib.hid (by rw [HCs.out]; exact HSk.out.new (c := coK p) hk2 hin)
          clear hin hk2
          by_cases hnm2 : p.n = m
          · have HS2 : Hid (Sn (cores (kk + 1) K) m (seenL ++ [p.key.data.toList]) (txr (us ++ [⟨p.key⟩]))) := Lib.hid (by rw [txr_snoc]; have := HSN.out; rw [if_pos hnm2] at this; exact this)
            have q3b : (p.n == m) = true := by rw [hnm2]; exact beq_self_eq_true _
            clear HSN hnm2
            go_wp2_with (first
              | (at_mapUpdate; refine wpList_putS rfl _ _ _ rfl _ _ _ rfl HM.out (by omega) p.key hfit rfl true rfl ?_; intro w5 hm5 hg5; have M5 := Lib.hid (hm5.same (fun k => (map_snoc seenL p.key.data.toList k).symm)); have O5 := Lib.hid (HO.out.kept hg5 (.inr (ms_row HO.out HM.out))); have B5 := Lib.hid (BW.out.grown hg5 BW.out.size (fun k hk => by cases hk; exact Nat.le_refl _)); have e5 := (ev_keep (i := off + kk * 29 + 5) H.out BW.out B5.out rfl (by omega)).trans k5; have e11 := (ev_keep (i := off + kk * 29 + 11) H.out BW.out B5.out rfl (by omega)).trans k11; clear hm5 hg5 hlook k3 k5 k11)
              | (at_builtin; refine wpList_append_any _ rfl _ _ 26 rfl w.heap.size 9 i0 _ 1 16 Tryd.underlying26 HI.out.1 HI.out.2.1 HI.out.2.2.1 HI.out.2.2.2 rfl (by decide) (.slice A1 ul c1) ul (T.cl us) rfl (own_below O5.out ((Below.refl _ w5).alloc (Nat.le_refl _) (.cells #[.string p.key] 9))) (some ⟨w5.heap.size, 0, none⟩) 1 1 (T.cl [⟨p.key⟩]) rfl (src_one w5 p.key) (by unfold maxLen; omega) (by omega) (by have := B5.out.size; simp; omega) ?_; intro v6 w6 hgr; have B6 := Lib.hid (hgr.below (B5.out.alloc B5.out.size (.cells #[.string p.key] 9)) (own_below O5.out ((Below.refl _ w5).alloc (Nat.le_refl _) (.cells #[.string p.key] 9)))); have M6 := Lib.hid ((M5.out.alloc (.cells #[.string p.key] 9)).kept (hgr.grow.block w.heap.size (by have := M5.out.lt; simp; omega) (fun e => ms_row O5.out M5.out e.symm))); have O6 := Lib.hid hgr.own; clear hgr; rw [← T.cl_append] at O6; obtain ⟨A6, c6, rfl⟩ := own_slice O6.out))
            have eL : (us ++ [(⟨p.key⟩ : T.Rc)]).length = ul + 1 := by rw [List.length_append, HUL.out]; rfl
            go_roundg (n - (kk + 1))
            case measure => omega
            case rel => exact ⟨kk + 1, nm + 1, seenL ++ [p.key.data.toList], us ++ [⟨p.key⟩], A6, c6, by omega, by omega, by go_num, by rw [eL], by omega, by rw [eL]; omega, HS2, M6, by rw [eL]; exact O6, Lib.hid (fit_snoc HFt.out hfit), B6⟩
          · have HS2 : Hid (Sn (cores (kk + 1) K) m (seenL ++ [p.key.data.toList]) (txr us)) := Lib.hid (by have := HSN.out; rw [if_neg hnm2] at this; exact this)
            have q3b : (p.n == m) = false := beq_eq_false_iff_ne.2 hnm2
            clear HSN hnm2
            go_wp2_with (at_mapUpdate; refine wpList_putS rfl _ _ _ rfl _ _ _ rfl HM.out (by omega) p.key hfit rfl true rfl ?_; intro w5 hm5 hg5; have M5 := Lib.hid (hm5.same (fun k => (map_snoc seenL p.key.data.toList k).symm)); have O5 := Lib.hid (HO.out.kept hg5 (.inr (ms_row HO.out HM.out))); have B5 := Lib.hid (BW.out.grown hg5 BW.out.size (fun k hk => by cases hk; exact Nat.le_refl _)); have e5 := (ev_keep (i := off + kk * 29 + 5) H.out BW.out B5.out rfl (by omega)).trans k5; have e11 := (ev_keep (i := off + kk * 29 + 11) H.out BW.out B5.out rfl (by omega)).trans k11; clear hm5 hg5 hlook k3 k5 k11)
            go_roundg (n - (kk + 1))
            case measure => omega
            case rel => exact ⟨kk + 1, nm + 1, seenL ++ [p.key.data.toList], us, A1, c1, by omega, by omega, by go_num, by rw [HUL.out], by omega, by rw [HUL.out]; omega, HS2, M5, by rw [HUL.out]; exact O5, HFt, B5⟩
    · have hltz : ¬ (kk : Int) < (n : Int) := by omega
      obtain rfl : kk = n := by omega
      have HC := Lib.hid (names_own HO.out HUL.out (by omega) HFt.out BW.out HSn.out.nm)
      go_wp2_with (go_at_call 24; refine HC.out.mono ?_; intro e w7 h7; have H7 := Lib.hid (names_mono h7 BW.out); obtain ⟨A7, c7, rfl, _⟩ := h7)
      go_ret
      exact H7.out
end Go.Proofs.YtnhjbknhbeicfaaDoor
