/- The walks of GetBool, cutCount, cutText and GetText, of the program and of the reference. -/
import Derived.Test.YtgfodleoollmmaaW5
namespace Go.Proofs.Ytgfodleoollmmaa
open Go.RowKit
set_option linter.unusedVariables false

def gb : List Int → Option (Value × List Int)
  | [] => none
  | c :: t => if 1 < c then none else some (.bool (c == 1), t)
theorem gb_get {zs : List Int} {z : Int} (h : 0 < zs.length) (hz : zs.getD 0 0 = z) : gb zs = if 1 < z then none else some (.bool (z == 1), zs.drop 1) := by
  cases zs with
  | nil => simp at h
  | cons c t => simp only [List.getD_cons_zero] at hz; subst hz; rfl
theorem gb_rest {zs : List Int} {x : Value} {rest : List Int} (h : gb zs = some (x, rest)) : rest.length ≤ zs.length := by
  cases zs with
  | nil => cases h
  | cons c t =>
    have e : gb (c :: t) = if 1 < c then none else some (.bool (c == 1), t) := rfl
    rw [e] at h
    by_cases hc : 1 < c
    · rw [if_pos hc] at h; cases h
    · rw [if_neg hc] at h
      simp only [Option.some.injEq, Prod.mk.injEq] at h
      rw [← h.2]; simp

set_option maxHeartbeats 800000 in
theorem cutBool_any (a : Option Addr) (len cap : Nat) (zs : List Int) (hl : len ≤ 900000) (w : World) (h : Sl w a len cap zs) :
    Calls Try.prog 46 #[.slice a len cap] w (Got (.bool false) (gb zs) w) := by
  have H := Lib.hid h
  have hz := h.sz
  have hcap := h.le
  subst hz
  clear h
  rcases Nat.eq_zero_or_pos zs.length with h0 | h0
  · have hz : zs = [] := List.eq_nil_of_length_eq_zero h0
    subst hz
    clear h0
    go_enter Try.func46, Try.ntmps46
    go_wp2
    go_ret3
    exact got_none rfl (Below.refl _ _)
  · obtain ⟨b, o, rfl, z, hz, hzk, hbl, hc⟩ := H.out.byte h0
    rw [Nat.add_zero] at hc
    have e0 : ((zs.length : Int) == 0) = false := beq_eq_false_iff_ne.2 (by omega)
    have hg := gb_get h0 hzk
    rcases Nat.lt_or_ge 1 z with h1 | h1
    · have HG := Lib.hid (show gb zs = none by rw [hg, if_pos (by omega)])
      clear hg hzk
      go_enter Try.func46, Try.ntmps46
      go_wp2
      go_ret3
      exact got_none HG.out (Below.refl _ _)
    · have HG := Lib.hid (show gb zs = some (.bool ((z : Int) == 1), zs.drop 1) by rw [hg, if_neg (by omega)])
      clear hg hzk
      rcases Nat.lt_or_ge 1 cap with hck | hck
      · have hck2 : ¬ cap = 1 := by omega
        clear hck
        go_enter Try.func46, Try.ntmps46
        go_wp2
        go_quiet (fail)
        go_wp2
        go_ret3
        exact got_some HG.out rfl (by first | (rw [List.length_drop]; done) | (rw [List.length_drop]; omega)) ((H.out.later 1 (by omega)).drewN _) (below_dn (Below.refl _ _) _)
      · obtain rfl : cap = 1 := by omega
        clear hck
        go_enter Try.func46, Try.ntmps46
        go_wp2
        go_quiet (fail)
        go_wp2
        go_ret3
        exact got_some HG.out rfl (by first | (rw [List.length_drop]; done) | (rw [List.length_drop]; omega)) (Sl.drewN (by simpa [Nat.sub_eq_zero_of_le hcap] using H.out.last 1 (Nat.le_refl _) (some ⟨b, o, none⟩) (fun h => by cases h)) _) (below_dn (Below.refl _ _) _)

set_option maxHeartbeats 800000 in
theorem rgetBool_any (a : Option Addr) (len cap : Nat) (zs : List Int) (hl : len ≤ 900000) (w : World) (h : Sl w a len cap zs) :
    Calls Try.prog 28 #[.slice a len cap] w (Got (.bool false) (gb zs) w) := by
  have H := Lib.hid h
  have hz := h.sz
  have hcap := h.le
  subst hz
  clear h
  rcases Nat.eq_zero_or_pos zs.length with h0 | h0
  · have hz : zs = [] := List.eq_nil_of_length_eq_zero h0
    subst hz
    clear h0
    go_enter Try.func28, Try.ntmps28
    go_wp2
    go_ret3
    exact got_none rfl (Below.refl _ _)
  · obtain ⟨b, o, rfl, z, hz, hzk, hbl, hc⟩ := H.out.byte h0
    rw [Nat.add_zero] at hc
    have e0 : ((zs.length : Int) == 0) = false := beq_eq_false_iff_ne.2 (by omega)
    have hg := gb_get h0 hzk
    rcases Nat.lt_or_ge 1 z with h1 | h1
    · have HG := Lib.hid (show gb zs = none by rw [hg, if_pos (by omega)])
      clear hg hzk
      go_enter Try.func28, Try.ntmps28
      go_wp2
      go_ret3
      exact got_none HG.out (Below.refl _ _)
    · have HG := Lib.hid (show gb zs = some (.bool ((z : Int) == 1), zs.drop 1) by rw [hg, if_neg (by omega)])
      clear hg hzk
      rcases Nat.lt_or_ge 1 cap with hck | hck
      · have hck2 : ¬ cap = 1 := by omega
        clear hck
        go_enter Try.func28, Try.ntmps28
        go_wp2
        go_quiet (fail)
        go_wp2
        go_ret3
        exact got_some HG.out rfl (by first | (rw [List.length_drop]; done) | (rw [List.length_drop]; omega)) ((H.out.later 1 (by omega)).drewN _) (below_dn (Below.refl _ _) _)
      · obtain rfl : cap = 1 := by omega
        clear hck
        go_enter Try.func28, Try.ntmps28
        go_wp2
        go_quiet (fail)
        go_wp2
        go_ret3
        exact got_some HG.out rfl (by first | (rw [List.length_drop]; done) | (rw [List.length_drop]; omega)) (Sl.drewN (by simpa [Nat.sub_eq_zero_of_le hcap] using H.out.last 1 (Nat.le_refl _) (some ⟨b, o, none⟩) (fun h => by cases h)) _) (below_dn (Below.refl _ _) _)

set_option maxHeartbeats 400000 in
theorem getBool_any (a : Option Addr) (len cap : Nat) (zs : List Int) (hl : len ≤ 800000) (w : World) (h : Sl w a len cap zs) :
    Calls Try.prog 27 #[.slice a len cap] w (Got (.bool false) (gb zs) w) := by
  have H := Lib.hid h
  have HL := Lib.hid (show zs.length ≤ 800000 by rw [h.sz]; exact hl)
  clear h
  cases hg : gb zs with
  | none =>
    have HG := Lib.hid hg
    clear hg
    go_enter Try.func27, Try.ntmps27
    go_wp2_with (first
      | (go_at_call 46; refine (cutBool_any _ _ _ zs (by omega) _ H.out).mono ?_; intro e w1 hgot; obtain ⟨rfl, hb1⟩ := got_no hgot HG.out; have HB := Lib.hid hb1; clear hb1 hgot)
      | (go_at_call 45; go_in))
    go_ret3
    simp only []
    go_wp2
    go_ret3
    exact got_none rfl HB.out
  | some p =>
    obtain ⟨x, rest⟩ := p
    have HG := Lib.hid hg
    have hrl : rest.length ≤ 800000 := by
      have := gb_rest hg; have := HL.out; omega
    clear hg
    go_enter Try.func27, Try.ntmps27
    go_wp2_with (first
      | (go_at_call 46; refine (cutBool_any _ _ _ zs (by omega) _ H.out).mono ?_; intro e w1 hgot; obtain ⟨A1, c1, rfl, hs1, hb1⟩ := got_yes hgot HG.out; have HB := Lib.hid hb1; have HS := Lib.hid hs1; clear hb1 hgot hs1)
      | (go_at_call 35; refine (copied_any A1 _ c1 rest (by omega) _ HS.out).mono ?_; rintro e w2 ⟨A2, c2, rfl, ho2, hb2⟩; have HO2 := Lib.hid ho2; have HB2 := Lib.hid hb2; clear ho2 hb2)
      | (go_at_call 45; go_in))
    go_ret3
    simp only []
    go_wp2
    go_ret3
    exact got_some rfl rfl rfl (OwnPost.sl (w := w) HO2.out HS.out.bd) (HB.out.trans (HB2.out.mono HB.out.size))

/-- A number of bytes or elements, and what follows. -/
def cnt (zs : List Int) : Option (Nat × List Int) := match C.dec zs with
  | none => none
  | some (u, k) => if 0 ≤ C.zag u ∧ C.zag u ≤ ((zs.drop k).length : Int) then some ((C.zag u).toNat, zs.drop k) else none
def gc (zs : List Int) : Option (Value × List Int) := (cnt zs).map fun p => (.int .i64 (p.1 : Int), p.2)
theorem cnt_rest {zs : List Int} {n : Nat} {rest : List Int} (h : cnt zs = some (n, rest)) : n ≤ rest.length ∧ rest.length ≤ zs.length ∧ ∃ u k, C.dec zs = some (u, k) ∧ C.zag u = (n : Int) ∧ rest = zs.drop k := by
  unfold cnt at h
  cases hd : C.dec zs with
  | none => rw [hd] at h; cases h
  | some p =>
    obtain ⟨u, k⟩ := p
    rw [hd] at h
    simp only at h
    by_cases hc : 0 ≤ C.zag u ∧ C.zag u ≤ ((zs.drop k).length : Int)
    · rw [if_pos hc] at h
      simp only [Option.some.injEq, Prod.mk.injEq] at h
      obtain ⟨rfl, rfl⟩ := h
      exact ⟨by omega, by rw [List.length_drop]; omega, u, k, rfl, by omega, rfl⟩
    · rw [if_neg hc] at h; cases h
theorem cnt_no {zs : List Int} (h : C.dec zs = none) : cnt zs = none := by unfold cnt; rw [h]
theorem cnt_out {zs : List Int} {u k : Nat} (h : C.dec zs = some (u, k)) (hc : C.zag u < 0 ∨ ((zs.drop k).length : Int) < C.zag u) : cnt zs = none := by unfold cnt; rw [h]; exact if_neg (by omega)
theorem cnt_in {zs : List Int} {u k : Nat} (h : C.dec zs = some (u, k)) (h0 : 0 ≤ C.zag u) (h1 : C.zag u ≤ ((zs.drop k).length : Int)) : cnt zs = some ((C.zag u).toNat, zs.drop k) := by unfold cnt; rw [h]; exact if_pos ⟨h0, h1⟩

set_option maxRecDepth 100000 in
set_option maxHeartbeats 800000 in
theorem cutCount_any (a : Option Addr) (len cap : Nat) (zs : List Int) (hl : len ≤ 900000) (w : World) (h : Sl w a len cap zs) :
    Calls Try.prog 52 #[.slice a len cap] w (Got (.int .i64 0) (gc zs) w) := by
  have H := Lib.hid h
  have hz := h.sz
  subst hz
  clear h
  cases hd : C.dec zs with
  | none =>
    have HG := Lib.hid (gi_none hd)
    have HN := Lib.hid (show gc zs = none by unfold gc; rw [cnt_no hd]; rfl)
    clear hd
    go_enter Try.func52, Try.ntmps52
    go_wp2_with (go_at_call 41; refine (cutInt_any _ _ _ zs hl _ H.out).mono ?_; intro e w1 hgot; obtain ⟨rfl, hb1⟩ := got_no hgot HG.out; have HB := Lib.hid hb1; clear hb1 hgot)
    go_ret3
    exact got_none HN.out HB.out
  | some p =>
    obtain ⟨u, k⟩ := p
    have HG := Lib.hid (gi_some hd)
    have hin := (C.in64_iff _).1 (C.zag_in (C.enc_dec H.out.bd hd).2.1)
    have hrl : (zs.drop k).length ≤ 900000 := by rw [List.length_drop]; omega
    have H1 := Lib.hid (fun h => show gc zs = none by unfold gc; rw [cnt_out hd h]; rfl)
    have H2 := Lib.hid (fun h0 h1 => show gc zs = some (.int .i64 (((C.zag u).toNat : Nat) : Int), zs.drop k) by unfold gc; rw [cnt_in hd h0 h1]; rfl)
    clear hd
    generalize C.zag u = n at *
    generalize zs.drop k = rest at *
    obtain ⟨hin0, hin1⟩ := hin
    rcases Int.lt_or_le n 0 with h0 | h0
    · have HN := Lib.hid (H1.out (.inl h0))
      clear H1 H2
      go_enter Try.func52, Try.ntmps52
      go_wp2_with (go_at_call 41; refine (cutInt_any _ _ _ zs hl _ H.out).mono ?_; intro e w1 hgot; obtain ⟨A1, c1, rfl, hs1, hb1⟩ := got_yes hgot HG.out; have HB := Lib.hid hb1; have HS := Lib.hid hs1; clear hb1 hgot hs1)
      go_ret3
      exact got_none HN.out HB.out
    · rcases Int.lt_or_le (rest.length : Int) n with h1 | h1
      · have HN := Lib.hid (H1.out (.inr h1))
        clear H1 H2
        go_enter Try.func52, Try.ntmps52
        go_wp2_with (go_at_call 41; refine (cutInt_any _ _ _ zs hl _ H.out).mono ?_; intro e w1 hgot; obtain ⟨A1, c1, rfl, hs1, hb1⟩ := got_yes hgot HG.out; have HB := Lib.hid hb1; have HS := Lib.hid hs1; clear hb1 hgot hs1)
        go_ret3
        exact got_none HN.out HB.out
      · have HY := Lib.hid (H2.out h0 h1)
        have HC := Lib.hid (show Value.int .i64 n = .int .i64 ((n.toNat : Nat) : Int) by rw [Int.toNat_of_nonneg h0])
        clear H1 H2
        go_enter Try.func52, Try.ntmps52
        go_wp2_with (go_at_call 41; refine (cutInt_any _ _ _ zs hl _ H.out).mono ?_; intro e w1 hgot; obtain ⟨A1, c1, rfl, hs1, hb1⟩ := got_yes hgot HG.out; have HB := Lib.hid hb1; have HS := Lib.hid hs1; clear hb1 hgot hs1)
        go_ret3
        exact got_some HY.out HC.out rfl HS.out HB.out

theorem Sl.map {w : World} {a : Option Addr} {len cap : Nat} {zs : List Int} (h : Sl w a len cap zs) (k : Nat) (hk : k ≤ len) (hc : ¬ cap = k) : Sl w (Option.map (fun x => x.add k) a) (len - k) (cap - k) (zs.drop k) := by
  obtain ⟨a', ha, hs⟩ := h.drop k hk
  rw [if_neg hc, Nat.mul_one] at ha
  rw [← ha] at hs
  exact hs
def gt (zs : List Int) : Option (Value × List Int) := (cnt zs).map fun p => (.string (strOfNums (p.2.take p.1)), p.2.drop p.1)
theorem gt_rest {zs : List Int} {x : Value} {rest : List Int} (h : gt zs = some (x, rest)) : rest.length ≤ zs.length := by
  unfold gt at h
  cases hc : cnt zs with
  | none => rw [hc] at h; cases h
  | some p =>
    obtain ⟨n, r⟩ := p
    rw [hc] at h
    simp only [Option.map_some, Option.some.injEq, Prod.mk.injEq] at h
    have := (cnt_rest hc).2.1
    rw [← h.2, List.length_drop]; omega
set_option maxHeartbeats 800000 in
theorem cutText_any (a : Option Addr) (len cap : Nat) (zs : List Int) (hl : len ≤ 900000) (w : World) (h : Sl w a len cap zs) :
    Calls Try.prog 48 #[.slice a len cap] w (Got (.string ⟨#[]⟩) (gt zs) w) := by
  have H := Lib.hid h
  clear h
  cases hc : cnt zs with
  | none =>
    have HG := Lib.hid (show gc zs = none by unfold gc; rw [hc]; rfl)
    have HN := Lib.hid (show gt zs = none by unfold gt; rw [hc]; rfl)
    clear hc
    go_enter Try.func48, Try.ntmps48
    go_wp2_with (go_at_call 52; refine (cutCount_any _ _ _ zs hl _ H.out).mono ?_; intro e w1 hgot; obtain ⟨rfl, hb1⟩ := got_no hgot HG.out; have HB := Lib.hid hb1; clear hb1 hgot)
    go_ret3
    exact got_none HN.out HB.out
  | some p =>
    obtain ⟨n, rest⟩ := p
    have HG := Lib.hid (show gc zs = some (.int .i64 (n : Int), rest) by unfold gc; rw [hc]; rfl)
    have HN := Lib.hid (show gt zs = some (.string (strOfNums (rest.take n)), rest.drop n) by unfold gt; rw [hc]; rfl)
    have hnr := (cnt_rest hc).1
    clear hc
    go_enter Try.func48, Try.ntmps48
    go_wp2_with (go_at_call 52; refine (cutCount_any _ _ _ zs hl _ H.out).mono ?_; intro e w1 hgot; obtain ⟨A1, c1, rfl, hs1, hb1⟩ := got_yes hgot HG.out; have HB := Lib.hid hb1; have HS := Lib.hid hs1; clear hb1 hgot hs1)
    have hcv := fun m => conv_sl ((HS.out.take n hnr).drewN m)
    have hcr := HS.out.le
    generalize strOfNums (rest.take n) = S at *
    by_cases hck : c1 = n
    · subst hck
      go_quiet (fail)
      go_wp2
      go_ret3
      exact got_some HN.out rfl (by first | (rw [List.length_drop]; done) | (rw [List.length_drop]; omega)) (Sl.drewN (by simpa [Nat.sub_eq_zero_of_le hcr] using HS.out.last c1 (Nat.le_refl _) A1 HS.out.nl) _) (below_dn HB.out _)
    · go_quiet (fail)
      go_wp2
      go_ret3
      exact got_some HN.out rfl (by rw [List.length_drop]) ((HS.out.map n hnr hck).drewN _) (below_dn HB.out _)

set_option maxHeartbeats 400000 in
theorem getText_any (a : Option Addr) (len cap : Nat) (zs : List Int) (hl : len ≤ 800000) (w : World) (h : Sl w a len cap zs) :
    Calls Try.prog 29 #[.slice a len cap] w (Got (.string ⟨#[]⟩) (gt zs) w) := by
  have H := Lib.hid h
  have HL := Lib.hid (show zs.length ≤ 800000 by rw [h.sz]; exact hl)
  clear h
  cases hg : gt zs with
  | none =>
    have HG := Lib.hid hg
    clear hg
    go_enter Try.func29, Try.ntmps29
    go_wp2_with (first
      | (go_at_call 48; refine (cutText_any _ _ _ zs (by omega) _ H.out).mono ?_; intro e w1 hgot; obtain ⟨rfl, hb1⟩ := got_no hgot HG.out; have HB := Lib.hid hb1; clear hb1 hgot)
      | (go_at_call 47; go_in))
    go_ret3
    simp only []
    go_wp2
    go_ret3
    exact got_none rfl HB.out
  | some p =>
    obtain ⟨x, rest⟩ := p
    have HG := Lib.hid hg
    have hrl : rest.length ≤ 800000 := by
      have := gt_rest hg; have := HL.out; omega
    clear hg
    go_enter Try.func29, Try.ntmps29
    go_wp2_with (first
      | (go_at_call 48; refine (cutText_any _ _ _ zs (by omega) _ H.out).mono ?_; intro e w1 hgot; obtain ⟨A1, c1, rfl, hs1, hb1⟩ := got_yes hgot HG.out; have HB := Lib.hid hb1; have HS := Lib.hid hs1; clear hb1 hgot hs1)
      | (go_at_call 35; refine (copied_any A1 _ c1 rest (by omega) _ HS.out).mono ?_; rintro e w2 ⟨A2, c2, rfl, ho2, hb2⟩; have HO2 := Lib.hid ho2; have HB2 := Lib.hid hb2; clear ho2 hb2)
      | (go_at_call 47; go_in))
    go_ret3
    simp only []
    go_wp2
    go_ret3
    exact got_some rfl rfl rfl (OwnPost.sl (w := w) HO2.out HS.out.bd) (HB.out.trans (HB2.out.mono HB.out.size))

end Go.Proofs.Ytgfodleoollmmaa
