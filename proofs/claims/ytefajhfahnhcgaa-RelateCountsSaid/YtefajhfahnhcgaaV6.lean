/- Relations: the reference's Related, Latest. Bound: at most 900000 events. -/
import Derived.Test.YtefajhfahnhcgaaV5
namespace Go.Proofs.Ytefajhfahnhcgaa
open Go Go.RowKit
set_option linter.unusedVariables false
set_option linter.unusedSimpArgs false

/-- The event has the relation to the id. -/
def isR (E : Nat → Me) (r z : Int) (i : Nat) : Bool := decide (relK (E i) = r) && decide (relI (E i) = z)
theorem filt_snoc {is : List Nat} {k : Nat} (hk : k < is.length) (p : Nat → Bool) : (is.take (k + 1)).filter p = (is.take k).filter p ++ (if p (is.getD k 0) = true then [is.getD k 0] else []) := by
  rw [List.take_succ_eq_append_getElem hk, List.filter_append, List.getD_eq_getElem?_getD, List.getElem?_eq_getElem hk]
  cases h : p is[k] <;> simp [h]
theorem filt_yes {is : List Nat} {k : Nat} (hk : k < is.length) {p : Nat → Bool} (h : p (is.getD k 0) = true) : (is.take (k + 1)).filter p = (is.take k).filter p ++ [is.getD k 0] := by rw [filt_snoc hk, if_pos h]
theorem filt_no {is : List Nat} {k : Nat} (hk : k < is.length) {p : Nat → Bool} (h : p (is.getD k 0) = false) : (is.take (k + 1)).filter p = (is.take k).filter p := by rw [filt_snoc hk, if_neg (by rw [h]; decide), List.append_nil]
theorem filt_len (is : List Nat) (k : Nat) (p : Nat → Bool) : ((is.take k).filter p).length ≤ k := by
  have h1 := List.length_filter_le p (is.take k)
  rw [List.length_take] at h1
  omega
theorem evm_grow {w w1 : World} {A : Option Addr} {n : Nat} {E : Nat → Me} {row : Option Nat} (h : Evm w A n E) (hg : w.grownBy w1 row) (hne : ∀ b off, A = some ⟨b, off, none⟩ → 0 < n → some b ≠ row) : Evm w1 A n E := by
  refine ⟨h.big, fun h0 => ?_, h.fit⟩
  obtain ⟨b, off, e, hlt, hc⟩ := h.at_ h0
  exact ⟨b, off, e, Nat.lt_of_lt_of_le hlt hg.size, fun j hj i v hv => (World.cell?_of_block (a := ⟨b, off + j * 29 + i, none⟩) (hg.block b hlt (hne b off e h0))).trans (hc j hj i v hv)⟩
theorem Evm.lt_ {w : World} {b off n : Nat} {E : Nat → Me} (h : Evm w (some ⟨b, off, none⟩) n E) (h0 : 0 < n) : b < w.heap.size := by
  obtain ⟨b', off', e, hlt, _⟩ := h.at_ h0
  cases e; exact hlt
set_option maxRecDepth 100000 in
set_option maxHeartbeats 8000000 in
theorem related33 (A : Option Addr) (n c : Nat) (r z : Int) (E : Nat → Me) (w : World) (h : Evm w A n E) (hc : n ≤ c) (hn : n ≤ 900000) : Calls Try.prog 33 #[.slice A n c, .int .i64 r, .int .i64 z] w (EvsP w E ((onc E n).filter (isR E r z))) := by
  have HO1 := Lib.hid (ronce37 A n c E w h hc hn)
  unfold EvsP at HO1 ⊢
  have hlen := onc_len E n
  have HFi := Lib.hid (show ∀ i ∈ onc E n, Fits (E i) from fun i hi => h.fit i (onc_lt hi))
  obtain ⟨i0, hi, hz0, hz1, hz2⟩ := info_parts info34
  have HI := Lib.hid (And.intro hi (And.intro hz0 (And.intro hz1 hz2)))
  generalize onc E n = is at HO1 HFi hlen ⊢
  clear h hc hi hz0 hz1 hz2
  go_enter Try.func33, Try.ntmps33
  go_upto_region 3 with (first
    | (go_at_call 37; (with_reducible refine HO1.out.mono ?_); rintro e1 w1 ⟨A1, c1, rfl, hr, hcc, hb⟩; have R1 := Lib.hid hr; have B1 := Lib.hid hb; clear hr hb)
    | fail)
  have BA := Lib.hid (B1.out.alloc B1.out.size (.cells #[] 34))
  have O0 : Hid ((w1.alloc (.cells #[] 34)).ownsRow w.heap.size 34 29 (.slice (some ⟨w1.heap.size, 0, none⟩) 0 0) 0 []) := Lib.hid (World.ownsRow_made (base := w.heap.size) (e := 34) (size := 29) w1 #[] 0 B1.out.size (by decide) (by simp))
  have HR := Lib.hid (R1.out.below ((Below.refl _ _).alloc (Nat.le_refl _) (.cells #[] 34)))
  have hbs : w1.heap.size ≤ (w1.alloc (.cells #[] 34)).heap.size := by simp
  generalize hwa : w1.alloc _ = wa at BA O0 HR hbs ⊢
  have hls : ∀ b off, A1 = some ⟨b, off, none⟩ → 0 < is.length → b < w1.heap.size := fun b off e h0 => by
    obtain ⟨b', off', e', hl, _⟩ := R1.out.at_ h0
    rw [e] at e'; cases e'; exact hl
  have HLs := Lib.hid hls
  clear hls
  clear R1
  go_wp2
  go_loopg [8, 9, 10, 11] is.length (fun gg s8 s9 _ _ wr => ∃ (kk : Nat) (v : Value), kk ≤ is.length ∧ is.length - kk ≤ gg ∧ v = s8 ∧ s9 = .int .i64 (kk : Int) ∧ Hid (wr.ownsRow w.heap.size 34 29 v ((is.take kk).filter (isR E r z)).length (clM E ((is.take kk).filter (isR E r z)))) ∧ Hid (Evm wr A1 is.length (fun j => E (is.getD j 0))) ∧ Hid (∀ b off, A1 = some ⟨b, off, none⟩ → 0 < is.length → v.ownBlock ≠ some b) ∧ Hid (Below w.heap.size w wr))
  case atStart => exact ⟨0, _, Nat.zero_le _, by omega, rfl, rfl, O0, HR, Lib.hid (fun b off e h0 e1 => by have := HLs.out b off e h0; cases e1; exact absurd this (Nat.lt_irrefl _)), BA⟩
  case round =>
    obtain ⟨kk, v, hkk, hg, rfl, rfl, HO, HE, HNe, BW⟩ := hrel
    have hol := filt_len is kk (isR E r z)
    by_cases hlt : kk < is.length
    · have hltz : (kk : Int) < (is.length : Int) := by omega
      have hk0 : (0 : Int) ≤ (kk : Int) := by omega
      obtain ⟨b1, o1, rfl, hat⟩ := HE.out.get hlt
      have HNb := Lib.hid (HNe.out b1 o1 rfl (by omega))
      have HY := Lib.hid (fun h1 => filt_yes (p := isR E r z) hlt h1)
      have HN := Lib.hid (fun h1 => filt_no (p := isR E r z) hlt h1)
      have HP := Lib.hid (show isR E r z (is.getD kk 0) = (decide (relK (E (is.getD kk 0)) = r) && decide (relI (E (is.getD kk 0)) = z)) from rfl)
      have HAt := Lib.hid hat
      have HRg := Lib.hid hat.rng
      have HFt := Lib.hid hat.fit
      have HOf := Lib.hid (fun u => rof11 (E (is.getD kk 0)) hat.fit u)
      clear hat
      generalize is.getD kk 0 = k at HY HN HP HAt HRg HFt HOf
      generalize hrk : relK (E k) = rk at HP HOf
      generalize hri : relI (E k) = ri at HP HOf
      clear hrk hri
      by_cases c1 : rk = r
      · by_cases c2 : ri = z
        · have HT2 := Lib.hid (HY.out (by rw [HP.out, decide_eq_true c1, decide_eq_true c2]; rfl))
          clear HY HN HP
          generalize (is.take kk).filter (isR E r z) = os at HO HT2 hol
          go_upto_region 7 with (first
            | (refine wpList_load_mid rfl 34 _ rfl b1 (o1 + kk * 29) rfl (E k).cs _ HRg.out Try.underlying34 rfl (size34l HFt.out.len) ?_)
            | (go_at_call 11; (with_reducible refine (HOf.out _).mono ?_); rintro e1 w2 ⟨rfl, hb⟩; have C2 := Lib.hid hb; clear hb)
            | fail)
          have BY := Lib.hid (BW.out.trans (C2.out.mono BW.out.size))
          have OY := Lib.hid (own_keep HO.out (fun g _ hl => C2.out.block g hl))
          have HEy := Lib.hid (HE.out.below C2.out)
          clear HRg
          have HRg := Lib.hid (HAt.out.below C2.out).rng
          go_wp2_with (first
            | (refine wpList_load_mid rfl 34 _ rfl b1 (o1 + kk * 29) rfl (E k).cs _ HRg.out Try.underlying34 rfl (size34l HFt.out.len) ?_)
            | (refine Great.wpList_buildSliceTo rfl 40 34 1 _ rfl w2.heap.size rfl _ rfl Try.underlying40 (E k).cs.toArray (by first | exact built34 HFt.out.len | (show Try.prog.builtSlice 34 1 [(0, .agg (E k).cs.toArray)] = _; exact built34 HFt.out.len) | (simp only [List.map_toArray, List.map_cons, List.map_nil]; exact built34 HFt.out.len) | (simp [Act.eval]; exact built34 HFt.out.len)) ?_)
            | (at_builtin; refine wpList_append_any _ rfl _ _ 40 rfl w.heap.size 34 i0 _ 29 376 Try.underlying40 HI.out.1 HI.out.2.1 HI.out.2.2.1 HI.out.2.2.2 rfl (by decide) v os.length (clM E os) rfl (OY.out.alloc _) _ 1 1 (E k).cs rfl (src_ev _ HFt.out) (by unfold maxLen; omega) (by omega) (BY.out.alloc BY.out.size _).size ?_; intro v5 w5 hgr; have B5 := Lib.hid (hgr.below (BY.out.alloc BY.out.size _) (OY.out.alloc _)); have O5 := Lib.hid hgr.own; have E5 := Lib.hid (evm_grow (HEy.out.below ((Below.refl _ _).alloc (Nat.le_refl _) _)) hgr.grow (fun b off e h0 => by cases e; exact fun e1 => HNb.out e1.symm)); have N5 := Lib.hid (show ∀ b off, some (⟨b1, o1, none⟩ : Addr) = some ⟨b, off, none⟩ → 0 < is.length → v5.ownBlock ≠ some b from fun b off e h0 e1 => by cases e; rcases hgr.at_ with h1 | h1; exact HNb.out (h1 ▸ e1); (rw [h1] at e1; cases e1; have := HEy.out.lt_ h0; simp only [World.size_alloc] at this; omega)); clear hgr)
            | go_in)
          go_roundg (is.length - (kk + 1))
          case measure => omega
          case rel => exact ⟨kk + 1, v5, by omega, by omega, rfl, by go_num, Lib.hid (by rw [HT2.out, List.length_append, clM_snoc]; exact O5.out), E5, N5, B5⟩
        · have HT2 := Lib.hid (HN.out (by rw [HP.out, decide_eq_false c2, Bool.and_false]))
          clear HY HN HP
          go_wp2_with (first
            | (refine wpList_load_mid rfl 34 _ rfl b1 (o1 + kk * 29) rfl (E k).cs _ HRg.out Try.underlying34 rfl (size34l HFt.out.len) ?_)
            | (go_at_call 11; (with_reducible refine (HOf.out _).mono ?_); rintro e1 w2 ⟨rfl, hb⟩; have C2 := Lib.hid hb; clear hb)
            | go_in)
          go_roundg (is.length - (kk + 1))
          case measure => omega
          case rel => exact ⟨kk + 1, v, by omega, by omega, rfl, by go_num, Lib.hid (by rw [HT2.out]; exact own_keep HO.out (fun g _ hl => C2.out.block g hl)), Lib.hid (HE.out.below C2.out), HNe, Lib.hid (BW.out.trans (C2.out.mono BW.out.size))⟩
      · have HT2 := Lib.hid (HN.out (by rw [HP.out, decide_eq_false c1, Bool.false_and]))
        clear HY HN HP
        go_wp2_with (first
          | (refine wpList_load_mid rfl 34 _ rfl b1 (o1 + kk * 29) rfl (E k).cs _ HRg.out Try.underlying34 rfl (size34l HFt.out.len) ?_)
          | (go_at_call 11; (with_reducible refine (HOf.out _).mono ?_); rintro e1 w2 ⟨rfl, hb⟩; have C2 := Lib.hid hb; clear hb)
          | go_in)
        go_roundg (is.length - (kk + 1))
        case measure => omega
        case rel => exact ⟨kk + 1, v, by omega, by omega, rfl, by go_num, Lib.hid (by rw [HT2.out]; exact own_keep HO.out (fun g _ hl => C2.out.block g hl)), Lib.hid (HE.out.below C2.out), HNe, Lib.hid (BW.out.trans (C2.out.mono BW.out.size))⟩
    · have hltz : ¬ (kk : Int) < (is.length : Int) := by omega
      obtain rfl : kk = is.length := by omega
      rw [List.take_length] at HO hol
      obtain ⟨A', c', rfl⟩ := own_slice HO.out
      go_wp2
      go_ret
      exact ⟨A', c', rfl, own_evm HO.out (fun i hi => HFi.out i (List.mem_filter.1 hi).1) (by unfold maxLen; omega), own_cap HO.out, BW.out⟩
/-- The later one of what there was and an event. -/
def ltS (E : Nat → Me) (o : Option Nat) (i : Nat) : Option Nat := match o with | none => some i | some j => if beats (E j) (E i) = true then some i else some j
/-- The latest one. -/
def ltL (E : Nat → Me) (is : List Nat) : Option Nat := is.foldl (ltS E) none
theorem ltL_snoc (E : Nat → Me) (is : List Nat) (i : Nat) : ltL E (is ++ [i]) = ltS E (ltL E is) i := by unfold ltL; rw [List.foldl_append]; rfl
theorem ltL_take {E : Nat → Me} {is : List Nat} {k : Nat} (hk : k < is.length) : ltL E (is.take (k + 1)) = ltS E (ltL E (is.take k)) (is.getD k 0) := by
  rw [List.take_succ_eq_append_getElem hk, ltL_snoc, List.getD_eq_getElem?_getD, List.getElem?_eq_getElem hk]; rfl
theorem ltF_mem {E : Nat → Me} : ∀ {is : List Nat} {o : Option Nat} {i : Nat}, is.foldl (ltS E) o = some i → i ∈ is ∨ o = some i
  | [], o, i, h => .inr h
  | a :: r, o, i, h => by
    rcases ltF_mem (is := r) h with h1 | h1
    · exact .inl (List.mem_cons_of_mem _ h1)
    · cases o with
      | none => cases h1; exact .inl List.mem_cons_self
      | some j =>
        unfold ltS at h1
        simp only at h1
        split at h1
        · cases h1; exact .inl List.mem_cons_self
        · exact .inr h1
theorem ltL_mem {E : Nat → Me} {is : List Nat} {i : Nat} (h : ltL E is = some i) : i ∈ is := by
  rcases ltF_mem h with h1 | h1
  · exact h1
  · cases h1
def idO (E : Nat → Me) (o : Option Nat) : Int := match o with | none => 0 | some i => (E i).id
end Go.Proofs.Ytefajhfahnhcgaa
