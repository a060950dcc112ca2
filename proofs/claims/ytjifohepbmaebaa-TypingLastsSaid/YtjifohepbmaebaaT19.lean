/- Who types: the statement's has and without. Bound: at most 1000000 texts. -/
import Derived.Test.YtjifohepbmaebaaT17
import Derived.Test.YtjifohepbmaebaaT10
namespace Go.Proofs.Ytjifohepbmaebaa
open Go.RowKit Go.Maps Go.Proofs
set_option linter.unusedVariables false
set_option linter.unusedSimpArgs false

theorem strs_at {w : World} {A : Option Addr} {n : Nat} {zs : List Tp} (h : Strs w A n (nms zs)) {k : Nat} (hk : k < n) : ∃ b off, A = some ⟨b, off, none⟩ ∧ b < w.heap.size ∧ w.cell? ⟨b, off + k, none⟩ = some (.string (zs.getD k t0).1) := by
  obtain ⟨b, off, e, t, ht, _, hb, hc⟩ := h.str hk
  refine ⟨b, off, e, hb, ?_⟩
  rw [hc, ht]
  have hl : (nms zs).length = n := h.1
  have hl2 : zs.length = n := by rw [← hl]; unfold nms; rw [List.length_map]
  unfold nms
  rw [List.getD_eq_getElem?_getD, List.getD_eq_getElem?_getD, List.getElem?_map, List.getElem?_eq_getElem (by omega)]
  rfl
theorem nms_len {w : World} {A : Option Addr} {n : Nat} {zs : List Tp} (h : Strs w A n (nms zs)) : zs.length = n := by rw [← h.1]; unfold nms; rw [List.length_map]
set_option maxHeartbeats 2000000 in
theorem has23 (A : Option Addr) (n c : Nat) (zs : List Tp) (s : ByteArray) (w : World) (h : Strs w A n (nms zs)) : Calls Try.prog 23 #[.slice A n c, .string s] w fun e w' => e = .returned (.bool (zs.any (pu s))) ∧ Below w.heap.size w w' := by
  have H := Lib.hid h
  have HL := Lib.hid (nms_len h)
  have hbig := h.2.1
  clear h
  go_enter Try.func23, Try.ntmps23
  go_wp2
  go_loopg [4, 5] n (fun gg _ s5 wr => ∃ kk : Nat, kk ≤ n ∧ n - kk ≤ gg ∧ s5 = .int .i64 kk ∧ w = wr ∧ Hid (∀ j, j < kk → pu s (zs.getD j t0) = false))
  case atStart => exact ⟨0, Nat.zero_le _, by omega, rfl, rfl, Lib.hid (fun j hj => absurd hj (Nat.not_lt_zero _))⟩
  case round =>
    obtain ⟨kk, hkk, hg, rfl, rfl, HO⟩ := hrel
    by_cases hlt : kk < n
    · have hltz : (kk : Int) < (n : Int) := by omega
      obtain ⟨b, off, rfl, hbl, k0⟩ := strs_at H.out hlt
      have HP : Hid (pu s (zs.getD kk t0) = true → zs.any (pu s) = true) := Lib.hid (fun hq => List.any_eq_true.2 ⟨_, by rw [getD_at (by rw [HL.out]; exact hlt)]; exact List.getElem_mem _, hq⟩)
      have HN : Hid (pu s (zs.getD kk t0) = false → ∀ j, j < kk + 1 → pu s (zs.getD j t0) = false) := Lib.hid (fun hq j hj => by
        by_cases e : j = kk
        · rw [e]; exact hq
        · exact HO.out j (by omega))
      generalize zs.getD kk t0 = p at k0 HP HN
      cases hq : pu s p
      · have hn2 := Lib.hid (HN.out hq)
        have hs : (p.1.toList == s.toList) = false := hq
        clear hq HP HN
        go_wp2
        go_roundg (n - (kk + 1))
        case measure => omega
        case rel => exact ⟨kk + 1, by omega, by omega, by go_num, rfl, hn2⟩
      · have ha := Lib.hid (HP.out hq)
        have hs : (p.1.toList == s.toList) = true := hq
        clear hq HP HN
        go_wp2
        go_ret
        exact ⟨by rw [ha.out]; rfl, Below.refl _ _⟩
    · have hltz : ¬ (kk : Int) < (n : Int) := by omega
      have ha : Hid (zs.any (pu s) = false) := Lib.hid (List.any_eq_false.2 fun p hp => by
        obtain ⟨j, hj, rfl⟩ := List.getElem_of_mem hp
        have := HO.out j (by have := HL.out; omega)
        rw [getD_at hj] at this
        rw [this]; decide)
      go_wp2
      go_ret
      exact ⟨by rw [ha.out]; rfl, Below.refl _ _⟩
def WoP (w : World) (zs : List Tp) (e : Ending) (w' : World) : Prop := ∃ A c, e = .returned (.slice A zs.length c) ∧ Strs w' A zs.length (nms zs) ∧ Below w.heap.size w w'
set_option maxRecDepth 100000 in
set_option maxHeartbeats 2000000 in
theorem without24 (A : Option Addr) (n c : Nat) (zs : List Tp) (s : ByteArray) (w : World) (h : Strs w A n (nms zs)) (hn : n ≤ 1000000) : Calls Try.prog 24 #[.slice A n c, .string s] w (WoP w (zs.filter fun p => !pu s p)) := by
  have H := Lib.hid h
  have HL := Lib.hid (nms_len h)
  have HFt : Hid (∀ p ∈ zs, p.1.size ≤ 9223372036854775807) := Lib.hid (fun p hp => h.2.2.1 p.1 (List.mem_map.2 ⟨p, hp, rfl⟩))
  obtain ⟨i0, hi, hz0, hz1, hz2⟩ := info_parts info9
  have HI := Lib.hid (And.intro hi (And.intro hz0 (And.intro hz1 hz2)))
  clear h hi hz0 hz1 hz2
  obtain ⟨q, hqd⟩ : ∃ q : Tp → Bool, q = fun p => !pu s p := ⟨_, rfl⟩
  have HQD := Lib.hid hqd
  rw [← hqd]
  clear hqd
  go_enter Try.func24, Try.ntmps24
  go_wp2
  go_loopg [5, 6] n (fun gg s5 s6 wr => ∃ (kk m : Nat) (v : Value) (acc : List Tp), kk ≤ n ∧ n - kk ≤ gg ∧ m ≤ kk ∧ v = s5 ∧ s6 = .int .i64 kk ∧ Hid (acc = (zs.take kk).filter q) ∧ Hid (acc.length = m) ∧ Hid (wr.ownsRow w.heap.size 9 1 v m ((nms acc).map Value.string)) ∧ Hid (Below w.heap.size w wr))
  case atStart => exact ⟨0, 0, .slice none 0 0, [], Nat.zero_le _, by omega, Nat.le_refl _, rfl, rfl, Lib.hid (by rw [List.take_zero]; rfl), Lib.hid rfl, Lib.hid (World.ownsRow_nil w _ 9 1), Lib.hid (Below.refl _ _)⟩
  case round =>
    obtain ⟨kk, m, v, acc, hkk, hg, hmk, rfl, rfl, HA, HM, HO, BW⟩ := hrel
    by_cases hlt : kk < n
    · have hltz : (kk : Int) < (n : Int) := by omega
      obtain ⟨b, off, rfl, hbl, k0⟩ := strs_at (H.out.below BW.out) hlt
      have HLn := Lib.hid (len_next (q := q) (zs := zs) (kk := kk) (by rw [HL.out]; exact hlt))
      have HNx := Lib.hid (fun (hq : q (zs.getD kk t0) = true) => show (zs.take (kk + 1)).filter q = (zs.take kk).filter q ++ [zs.getD kk t0] by rw [filter_step (by rw [HL.out]; exact hlt), hq, if_pos rfl])
      have HS := Lib.hid (own_stay (q := q) (zs := zs) (kk := kk) (by rw [HL.out]; exact hlt))
      have HP := Lib.hid (show q (zs.getD kk t0) = !pu s (zs.getD kk t0) by rw [HQD.out])
      generalize zs.getD kk t0 = p at k0 HNx HS HP HLn
      cases hq : pu s p
      · have HV := Lib.hid (show q p = true by rw [HP.out, hq]; rfl)
        have hs : (p.1.toList == s.toList) = false := hq
        clear hq
        go_wp2_with (at_builtin; refine wpList_append_any _ rfl (.tmp 19) (.tmp 24) 36 rfl w.heap.size 9 i0 _ 1 16 Try.underlying36 HI.out.1 HI.out.2.1 HI.out.2.2.1 HI.out.2.2.2 rfl (by decide) v m ((nms acc).map Value.string) rfl (HO.out.alloc _) (some ⟨wr.heap.size, 0, none⟩) 1 1 [.string p.1] rfl (str_src wr p.1) (by unfold maxLen; omega) (by omega) (by have := BW.out.size; simp; omega) ?_; intro v3 w3 hgr; have B3 := Lib.hid (hgr.below (BW.out.alloc BW.out.size _) (HO.out.alloc _)); have O3 := Lib.hid hgr.own; clear hgr)
        go_roundg (n - (kk + 1))
        case measure => omega
        case rel =>
          refine ⟨kk + 1, m + 1, v3, acc ++ [p], by omega, by omega, by omega, rfl, by go_num, Lib.hid ?_, Lib.hid ?_, Lib.hid ?_, B3⟩
          · rw [HNx.out HV.out, HA.out]
          · rw [List.length_append, HM.out]; rfl
          · have h2 := O3.out
            unfold nms at h2 ⊢
            rw [List.map_append, List.map_append]
            exact h2
      · have HV := Lib.hid (show q p = false by rw [HP.out, hq]; rfl)
        have hs : (p.1.toList == s.toList) = true := hq
        clear hq
        go_wp2
        go_roundg (n - (kk + 1))
        case measure => omega
        case rel => exact ⟨kk + 1, m, v, acc, by omega, by omega, by omega, rfl, by go_num, Lib.hid (by rw [HS.out HV.out]; exact HA.out), HM, HO, BW⟩
    · have hltz : ¬ (kk : Int) < (n : Int) := by omega
      obtain rfl : kk = n := by omega
      have HF := Lib.hid (show acc = zs.filter q by rw [HA.out, List.take_of_length_le (by rw [HL.out]; exact Nat.le_refl _)])
      obtain ⟨A2, c2, rfl, h2, h3⟩ := nms_strs HO.out HM.out (fun p hp => HFt.out p (by rw [HF.out] at hp; exact (List.mem_filter.1 hp).1)) (by omega)
      have S3 := Lib.hid h3
      clear h2 h3
      go_wp2
      go_ret
      have e1 := HF.out
      have e2 := HM.out
      subst e1
      exact ⟨A2, c2, ret_slice e2.symm, e2 ▸ S3.out, BW.out⟩
end Go.Proofs.Ytjifohepbmaebaa
