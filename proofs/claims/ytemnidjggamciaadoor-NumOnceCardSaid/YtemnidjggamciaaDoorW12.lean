/- The walk of num's Minus. Bounds: at most 1000 elements a list. -/
import Derived.Test.YtemnidjggamciaaDoorW11
namespace Go.Proofs.YtemnidjggamciaaDoor
open Go.RowKit Go.Sort
set_option linter.unusedVariables false

theorem search_any (A : Option Addr) (n c : Nat) (zs : List Int) (x : Int) (w : World) (h : Ints w A n c zs) (hs : M.Srt zs) :
    Calls Tryd.prog 43 #[.slice A n c, .int .i64 x] w fun e w' => ∃ (k : Int) (q : Nat), e = .returned (.tuple #[.int .i64 k, .bool (hsB zs x)]) ∧ w' = w.drewN q := by
  rcases Nat.eq_zero_or_pos n with rfl | h0
  · rw [h.zero]
    exact (Tryd.slices_BinarySearch_int_empty A c x w).mono fun e w' ⟨he, hw⟩ => ⟨0, 0, he, hw⟩
  · obtain ⟨b, off, rfl, _, hc⟩ := h.at1 h0
    have ht : zs.take n = zs := List.take_of_length_le (by rw [h.len]; exact Nat.le_refl _)
    refine (Tryd.slices_BinarySearch_int b off n c zs x w (by rw [h.len]; exact Nat.le_refl _) (by have := h.big; omega) hc (by rw [ht]; exact hs.imp fun h => by omega)).mono fun e w' ⟨he, q, hw⟩ => ?_
    rw [ht] at he
    exact ⟨_, q, he, hw⟩
theorem Ints.grown {w w' : World} {A : Option Addr} {n c : Nat} {zs : List Int} {row : Option Nat} (h : Ints w A n c zs) (hg : w.grownBy w' row) (hne : ∀ b off, A = some ⟨b, off, none⟩ → row ≠ some b) : Ints w' A n c zs :=
  ⟨h.len, h.cap, h.big, h.nil, h.at_.imp id fun ⟨b, off, e, hlt, hc⟩ => ⟨b, off, e, Nat.lt_of_lt_of_le hlt hg.size, fun i hi => (World.cell?_of_block (a := ⟨b, off + i, none⟩) (hg.block b hlt (fun h => hne b off e h.symm))).trans (hc i hi)⟩⟩
theorem Ints.lt {w : World} {A : Option Addr} {n c : Nat} {zs : List Int} (h : Ints w A n c zs) (hn : 0 < n) : ∀ b off, A = some ⟨b, off, none⟩ → b < w.heap.size := by
  rintro b off rfl
  rcases h.at_ with h0 | ⟨b', off', e, hlt, _⟩
  · omega
  · cases e; exact hlt
theorem Ints.drewN {w : World} {A : Option Addr} {n c : Nat} {zs : List Int} (h : Ints w A n c zs) (q : Nat) : Ints (w.drewN q) A n c zs := ⟨h.len, h.cap, h.big, h.nil, h.at_⟩
theorem own_drewN {w : World} {B n : Nat} {v : Value} {xs : List Value} (h : w.ownsRow B 3 1 v n xs) (q : Nat) : (w.drewN q).ownsRow B 3 1 v n xs := h
theorem apart_grew {w w' : World} {B n : Nat} {v v' : Value} {xs : List Value} {b off : Nat} (hg : Grew w w' B 3 1 v v' n xs) (hap : ∀ b' off', (some ⟨b, off, none⟩ : Option Addr) = some ⟨b', off', none⟩ → v.ownBlock ≠ some b') (hlt : b < w.heap.size) :
    ∀ b' off', (some ⟨b, off, none⟩ : Option Addr) = some ⟨b', off', none⟩ → v'.ownBlock ≠ some b' := by
  intro b' off' e h
  cases e
  rcases hg.at_ with h1 | h1
  · exact hap b off rfl (h1 ▸ h)
  · rw [h1] at h
    injection h with h
    omega
set_option maxHeartbeats 1600000 in
theorem minus_any (A : Option Addr) (n c : Nat) (zs : List Int) (A' : Option Addr) (n' c' : Nat) (ys : List Int) (w : World) (h : Ints w A n c zs) (h' : Ints w A' n' c' ys) (hn : n ≤ 1000) (hn' : n' ≤ 1000) :
    Calls Tryd.prog 30 #[.slice A n c, .slice A' n' c'] w (IntsP w (M.mns zs ys)) := by
  have H := Lib.hid h
  have C1 := Lib.hid (sortedN_any A' n' c' ys w h')
  have HLS := Lib.hid (show (M.st zs).length ≤ 1000 by have := M.len_st zs; have := h.len; omega)
  obtain ⟨ss, hss⟩ : ∃ ss, M.st zs = ss := ⟨_, rfl⟩
  obtain ⟨ts, hts⟩ : ∃ ts, M.st ys = ts := ⟨_, rfl⟩
  have HTS := Lib.hid (show M.Srt ts by rw [← hts]; exact M.srt_st ys)
  have HTB := Lib.hid (fun x => show hsB ts x = hsB ys x by rw [← hts]; exact M.contains_st ys x)
  have HMN := Lib.hid (show flt ss ys = M.mns zs ys by rw [← hss]; rfl)
  rw [hss] at HLS
  rw [hts] at C1
  have HC2 := Lib.hid (fun (w' : World) (hi : Ints w' A n c zs) => (show Calls Tryd.prog 24 #[.slice A n c] w' (IntsN w' ss) by rw [← hss]; exact sortedN_any A n c zs w' hi))
  clear h h' hss hts
  obtain ⟨i0, hi, hz0, hz1, hz2⟩ := info_parts info3
  have HI := Lib.hid (And.intro hi (And.intro hz0 (And.intro hz1 hz2)))
  clear hi hz0 hz1 hz2
  go_enter Tryd.func30, Tryd.ntmps30
  go_wp2_with (first
    | (go_at_call 24; (with_reducible refine C1.out.mono ?_); rintro e w1 ⟨A2, c2, rfl, hi, hb, hw⟩; have HI2 := Lib.hid hi; have HB2 := Lib.hid hb; clear hi hb hw; have HO0 := Lib.hid (World.ownsRow_made (base := w1.heap.size) (e := 3) (size := 1) w1 #[] 0 (Nat.le_refl _) (by decide) (by simp)); have HBW := Lib.hid (Below.alloc (Below.refl w1.heap.size w1) (Nat.le_refl _) (.cells #[] 3)); have C2 := Lib.hid (HC2.out _ ((H.out.below HB2.out).below HBW.out)))
    | (go_at_call 24; (with_reducible refine C2.out.mono ?_); rintro e w3 ⟨A3, c3, rfl, hi, hb, hw⟩; have HI3 := Lib.hid hi; have HNW := Lib.hid hw; have HO3 := Lib.hid (own_below HO0.out hb); have HB3 := Lib.hid (HBW.out.trans (hb.mono HBW.out.size)); clear hi hb hw))
  obtain ⟨n3, hn3⟩ : ∃ n3, ss.length = n3 := ⟨_, rfl⟩
  have HM := HLS.out
  rw [hn3] at HI3 HM ⊢
  have HN3 := Lib.hid hn3
  clear hn3
  have HAP := Lib.hid (show ∀ b off, A3 = some ⟨b, off, none⟩ → (Value.slice (some ⟨w1.heap.size, 0, none⟩) 0 0).ownBlock ≠ some b by
    intro b off e h
    have h1 := HNW.out b off e
    simp at h1
    have : w1.heap.size = b := by simpa [Value.ownBlock] using h
    omega)
  go_loopw [6, 17] (fun s6 s17 wr => ∃ (k m : Nat) (v : Value) (acc : List Int), k ≤ n3 ∧ m ≤ k ∧ s17 = .int .i64 k ∧ s6 = v ∧ Hid (wr.ownsRow w1.heap.size 3 1 v m (acc.map (Value.int .i64))) ∧ Hid (acc = flt (ss.take k) ys) ∧ Hid (Ints wr A3 n3 c3 ss) ∧ Hid (∀ b off, A3 = some ⟨b, off, none⟩ → v.ownBlock ≠ some b) ∧ Hid (Below w1.heap.size w1 wr)) (fun _ s17 _ => n3 - (intOf s17).toNat)
  case atStart => exact ⟨0, 0, _, [], Nat.zero_le _, Nat.le_refl _, rfl, rfl, HO3, Lib.hid rfl, HI3, HAP, HB3⟩
  case round =>
    obtain ⟨k, m, v, acc, hk, hm, rfl, rfl, HA, HX, HSI, HAP2, HB⟩ := hrel
    by_cases hlt : k < n3
    · have hltz : (k : Int) < (n3 : Int) := by omega
      obtain ⟨b, off, e3, hbl, hc⟩ := HSI.out.get hlt
      obtain ⟨z, hz⟩ : ∃ z, ss.getD k 0 = z := ⟨_, rfl⟩
      rw [hz] at hc
      have HZ := Lib.hid hz
      have C := Lib.hid (search_any A2 ts.length c2 ts z wr (HI2.out.below HB.out) HTS.out)
      have HEQ := Lib.hid (HTB.out z)
      clear hz
      subst e3
      cases hq : hsB ys z with
      | true =>
        have HS := Lib.hid (flt_yes ss ys k (by rw [HN3.out]; exact hlt) (by rw [HZ.out]; exact hq))
        rw [HEQ.out, hq] at C
        clear hq HEQ
        go_wp2_with (go_at_call 43; refine C.out.mono ?_; rintro e w' ⟨kk, q, rfl, rfl⟩)
        go_roundw
        case rel => exact ⟨k + 1, m, _, acc, by omega, by omega, by go_num, rfl, Lib.hid (own_drewN HA.out _), Lib.hid (by rw [HS.out, HX.out]), Lib.hid (HSI.out.drewN _), HAP2, Lib.hid (below_dn HB.out _)⟩
        case measure => simp [intOf]; omega
      | false =>
        have HS := Lib.hid (flt_no ss ys k (by rw [HN3.out]; exact hlt) (by rw [HZ.out]; exact hq))
        rw [HEQ.out, hq] at C
        clear hq HEQ
        have HAI := Lib.hid (HSI.out.lt (by omega) b off rfl)
        go_wp2_with (first | (go_at_call 43; refine C.out.mono ?_; rintro e w' ⟨kk, q, rfl, rfl⟩; have HX1 := Lib.hid (src_one (wr.drewN q) z); have HBX := Lib.hid (Below.alloc (Below.refl (wr.drewN q).heap.size (wr.drewN q)) (Nat.le_refl _) (.cells #[.int .i64 z] 3)); have HBX2 := Lib.hid ((below_dn HB.out q).trans (HBX.out.mono HB.out.size)); have HO5 := Lib.hid (own_below (own_drewN HA.out q) HBX.out); have HI5 := Lib.hid ((HSI.out.drewN q).below HBX.out); have HLT := Lib.hid (show b < ((wr.drewN q).alloc (.cells #[.int .i64 z] 3)).heap.size from Nat.lt_of_lt_of_le HAI.out HBX.out.size)) | (at_builtin; refine wpList_append_any _ rfl _ _ 31 rfl w1.heap.size 3 i0 _ 1 8 Tryd.underlying31 HI.out.1 HI.out.2.1 HI.out.2.2.1 HI.out.2.2.2 rfl (by decide) _ (m) (acc.map (Value.int .i64)) rfl HO5.out _ (1) (1) ([Value.int .i64 z]) rfl HX1.out (by unfold maxLen; omega) (by omega) HBX2.out.size ?_; intro v3 w3x hg; have HG3 := Lib.hid hg; clear hg; have HB6 := Lib.hid (HG3.out.below HBX2.out HO5.out); have HO6 := Lib.hid (own_app HG3.out); have HI6 := Lib.hid (HI5.out.grown HG3.out.grow HAP2.out); have HAP6 := Lib.hid (apart_grew HG3.out HAP2.out HLT.out); clear HG3))
        go_roundw
        case rel => exact ⟨k + 1, m + 1, _, _, by omega, by omega, by go_num, rfl, HO6, Lib.hid (by rw [HS.out, HX.out, HZ.out]), HI6, HAP6, HB6⟩
        case measure => simp [intOf]; omega
    · have hltz : ¬ (k : Int) < (n3 : Int) := by omega
      have HE := Lib.hid (show acc = M.mns zs ys by rw [HX.out, List.take_of_length_le (by rw [HN3.out]; omega), HMN.out])
      obtain ⟨A4, c4, e4, _, _⟩ := own_slice HA.out
      subst e4
      go_wp2
      go_ret
      rw [← HE.out]
      exact intsP_mk (own_ints HA.out (by omega)) (HB2.out.trans (HB.out.mono HB2.out.size))
end Go.Proofs.YtemnidjggamciaaDoor
