/- Media: the walk of MediaSafe. -/
import Derived.Test.YtahcmhjcpkjccaaE3
import Derived.Test.YtahcmhjcpkjccaaE5
import Derived.Deep.Cut
namespace Go.Proofs.Ytahcmhjcpkjccaa
open Go.RowKit
set_option linter.unusedVariables false
set_option linter.unusedSimpArgs false

theorem expire_ok (A : Option Addr) (n c : Nat) (zs : List Rc) (own : ByteArray) (now age : Int) (w : World) (h : Rcs w A n c zs) (hR : Right zs) (hn : n ≤ 900000) (h63 : now ≤ 9223372036854775807) (zz : List Rc) (hz : zz = expL own now age zs) : Calls Try.prog 25 #[.slice A n c, .string own, .int .i64 now, .int .i64 age] w fun e w' => ∃ A' c', e = .returned (.slice A' n c') ∧ Rcs w' A' n c' zz ∧ Below w.heap.size w w' :=
  (expire25 A n c zs own now age w h hn h63).mono fun e w' ⟨A', c', he, hr, hb⟩ => by
    have e1 : pexpL zs own now age = expL own now age zs := if_pos (right_chk hR)
    rw [e1] at he hr
    rw [exp_len, h.len] at he hr
    exact ⟨A', c', he, by rw [hz]; exact hr, hb⟩
theorem check_ok (A : Option Addr) (n c : Nat) (zs : List Rc) (w : World) (h : Rcs w A n c zs) (hR : Right zs) (hn : n ≤ 900000) : Calls Try.prog 13 #[.slice A n c] w fun e w' => e = .returned (.int .i64 0) ∧ Below w.heap.size w w' :=
  (check13 A n c zs w h hn).mono fun e w' ⟨he, hb⟩ => by
    rw [chk_of_right h.len.symm hR] at he
    exact ⟨he, hb⟩
theorem fet_got {zs : List Rc} {own s t : ByteArray} {size now : Int} (he : fetE zs own s t size now = 0) : ∃ fv fn fz, getR s t (fetL zs own s t size now) = (⟨fv, fn, fz, now, 1⟩, true) := by
  obtain ⟨h1, h2, h3⟩ := fet_get he
  generalize getR s t (fetL zs own s t size now) = r at h1 h2 h3 ⊢
  obtain ⟨⟨fv, fn, fz, ft, fs⟩, b⟩ := r
  simp only at h1 h2 h3
  subst h1 h2
  exact ⟨fv, fn, fz, by rw [h3]⟩
theorem bytes_of {a b : ByteArray} (h : (a.toList == b.toList) = true) : a = b := bytes_eq (by simpa using h)
set_option maxRecDepth 100000 in
set_option maxHeartbeats 16000000 in
theorem safe_yes (A : Option Addr) (n c : Nat) (zs : List Rc) (o s t : ByteArray) (size now : Int) (hs : s.size ≤ 9223372036854775807) (ht : t.size ≤ 9223372036854775807) (A2 : Option Addr) (n2 cap2 : Nat) (z2 : List Ak) (w : World) (h : Rcs w A n c zs) (h2 : Aks w A2 n2 cap2 z2) (hn : n ≤ 20) (hm : n2 ≤ 20) (hR : Right zs) (qs : List Rc) (hq : qs = quarL zs s t) (m : Rc) (hg : getR s t qs = (m, true)) : Calls Try.prog 7 #[.slice A n c, .agg #[.string o, .string s, .string t, .int .i64 size, .int .i64 now], .slice A2 n2 cap2] w fun e w' => e = .returned (.bool true) ∧ Below w.heap.size w w' := by
  have B0 := Lib.hid ((Below.refl w.heap.size w).alloc (Nat.le_refl _) (.cells #[.string o, .string s, .string t, .int .i64 size, .int .i64 now] 40))
  have X0 := Lib.hid (blk_new w [.string o, .string s, .string t, .int .i64 size, .int .i64 now] 40)
  have H := Lib.hid h
  have H2 := Lib.hid h2
  have HR := Lib.hid hR
  have hn2 : ¬ (20 : Int) < (n : Int) := by omega
  have hm2 : ¬ (20 : Int) < (n2 : Int) := by omega
  have RQ : Hid (Right qs) := Lib.hid (by rw [hq]; exact hR.quar s t)
  have LQ : Hid (qs.length ≤ 21 + 0) := Lib.hid (by rw [hq]; have := quar_len zs s t; have := h.len; omega)
  have HQ : Hid (∀ u, Below w.heap.size w u → Calls Try.prog 21 #[.slice A n c, .string s, .string t] u (FilP u.heap.size u qs)) := Lib.hid (fun u hb => by rw [hq]; exact quar21 A n c zs s t u (h.below hb) hs ht (by omega))
  have HG := Lib.hid hg
  have HM2 : Hid (m.st = 2) := Lib.hid (by
    rcases quar_get hR s t with ⟨_, h3⟩ | ⟨h3, _⟩
    · rw [← hq, hg] at h3; exact h3
    · rw [← hq, hg] at h3; cases h3)
  have HK0 := HG
  have hst : (m.st != 2) = false := by rw [HM2.out]; rfl
  clear h h2 hR hq hg
  go_enter Try.func7, Try.ntmps7
  go_wp2_with (first
    | (go_at_call 13; (with_reducible refine (check_ok A n c zs _ (H.out.below B0.out) HR.out (by omega)).mono ?_); rintro e0 w1 ⟨rfl, hb⟩; have X1 := Lib.hid (X0.out.below hb); have B1 := Lib.hid (B0.out.trans (hb.mono B0.out.size)); have x1 := X1.out.cell (i := 1) rfl; have x2 := X1.out.cell (i := 2) rfl; clear hb)
    | (go_at_call 21; (with_reducible refine (HQ.out _ B1.out).mono ?_); rintro e0 w2 ⟨A1, c1, rfl, hT, hb, _⟩; have X2 := Lib.hid (X1.out.below hb); have Q2 := Lib.hid hT; have B2 := Lib.hid (B1.out.trans (hb.mono B1.out.size)); clear hT x1 x2; have x1 := X2.out.cell (i := 1) rfl; have x2 := X2.out.cell (i := 2) rfl; clear hb)
    | (go_at_call 11; (with_reducible refine (get11_lit A1 _ c1 qs s t _ Q2.out m true HG.out).mono ?_); rintro e0 w3 ⟨rfl, hb⟩; have hb2 := hb.alloc hb.size (.cells #[.string m.sv, .string m.nm, .int .i64 m.sz, .int .i64 m.tt, .int .i64 m.st] 26); have X3 := Lib.hid (X2.out.below hb2); have M3 := Lib.hid (blk_new w3 [.string m.sv, .string m.nm, .int .i64 m.sz, .int .i64 m.tt, .int .i64 m.st] 26); have Q3 := Lib.hid (Q2.out.below hb2); have B3 := Lib.hid (B2.out.trans (hb2.mono B2.out.size)); clear hb hb2 x1 x2)
    | (go_at_call 13; (with_reducible refine (check_ok A1 _ c1 qs _ Q3.out RQ.out (by have := LQ.out; omega)).mono ?_); rintro e0 w4 ⟨rfl, hb⟩; have X4 := Lib.hid (X3.out.below hb); have M4 := Lib.hid (M3.out.below hb); have Q4 := Lib.hid (Q3.out.below hb); have B4 := Lib.hid (B3.out.trans (hb.mono B3.out.size)); have m4 := M4.out.cell (i := 4) rfl; clear hb))
  clear HQ HG X0 X1 X2 X3 M3 Q2 Q3 B1 B2 B3 m4 hst
  have H2' := Lib.hid (fun wr (hb : Below w4.heap.size w4 wr) => H2.out.below (B4.out.trans (hb.mono B4.out.size)))
  go_loopg [7, 10, 11, 12, 13, 14, 15, 16, 17] n2 (fun gq s7 s10 _ _ _ _ _ _ _ wr => ∃ (kk : Nat) (ys : List Rc) (Ay : Option Addr) (cy ny : Nat), kk ≤ n2 ∧ n2 - kk ≤ gq ∧ s10 = .int .i64 kk ∧ s7 = .slice Ay ny cy ∧ Hid (Rcs wr Ay ny cy ys) ∧ Hid (Right ys) ∧ Hid (ny ≤ 21 + kk) ∧ Hid (getR s t ys = (m, true)) ∧ Hid (Below w4.heap.size w4 wr))
  case atStart => exact ⟨0, qs, A1, c1, qs.length, Nat.zero_le _, by omega, rfl, rfl, Q4, RQ, LQ, HK0, Lib.hid (Below.refl _ _)⟩
  case round =>
    obtain ⟨kk, ys, Ay, cy, ny, hkk, hgq, rfl, rfl, RY, RYt, LY, HK, BW⟩ := hrel
    by_cases hlt : kk < n2
    · have hltz : (kk : Int) < (n2 : Int) := by omega
      have LYe := Lib.hid RY.out.len
      obtain ⟨b2, off2, rfl, k0, k1, k2, k3, k4, hfa⟩ := (H2'.out wr BW.out).at_ hlt
      generalize z2.getD kk ak0 = a at k0 k1 k2 k3 k4 hfa
      have HA63 := Lib.hid hfa.2.2
      have hn2' : ny ≤ 900000 := by have := LY.out; omega
      obtain ⟨e, he1⟩ : ∃ e, e = fetE ys a.ow a.sv a.nm a.sz a.nw := ⟨_, rfl⟩
      obtain ⟨ff, hff⟩ : ∃ ff, ff = fetL ys a.ow a.sv a.nm a.sz a.nw := ⟨_, rfl⟩
      have HF : Hid (∀ A c u, Rcs u A ny c ys → Calls Try.prog 23 #[.slice A ny c, .string a.ow, .string a.sv, .string a.nm, .int .i64 a.sz, .int .i64 a.nw] u (StR u ff e)) := Lib.hid (fun A c u hT => by rw [he1, hff]; exact fetch23 A ny c ys a.ow a.sv a.nm a.sz a.nw u hT hfa.1 hfa.2.1 hn2')
      have E5 := Lib.hid ((Below.refl _ wr).alloc (Nat.le_refl _) (.cells #[.string a.ow, .string a.sv, .string a.nm, .int .i64 a.sz, .int .i64 a.nw] 40))
      have P5 := Lib.hid (blk_new wr [.string a.ow, .string a.sv, .string a.nm, .int .i64 a.sz, .int .i64 a.nw] 40)
      have X5 := Lib.hid ((X4.out.below BW.out).below E5.out)
      have M5 := Lib.hid ((M4.out.below BW.out).below E5.out)
      have RY6 := Lib.hid (RY.out.below E5.out)
      have B5 := Lib.hid (BW.out.trans (E5.out.mono BW.out.size))
      clear hfa hn2'
      cases q1 : (a.sv.toList == s.toList)
      · by_cases he : fetE ys a.ow a.sv a.nm a.sz a.nw = 0
        · obtain ⟨gg, hgg⟩ : ∃ gg, gg = expL a.ow a.nw a.sz ff := ⟨_, rfl⟩
          have HGG := Lib.hid hgg
          have RF : Hid (Right ff) := Lib.hid (by rw [hff]; exact RYt.out.fet he)
          have LF : Hid (ff.length ≤ ny + 1) := Lib.hid (by rw [hff, ← LYe.out]; exact fet_len _ _ _ _ _ _)
          obtain ⟨fv, fn, fz, hgot⟩ := fet_got he
          have HGot : Hid (getR a.sv a.nm ff = (⟨fv, fn, fz, a.nw, 1⟩, true)) := Lib.hid (by rw [hff]; exact hgot)
          have RG : Hid (Right gg) := Lib.hid (by rw [hgg]; exact RF.out.exp _ _ _)
          have LG : Hid (ff.length ≤ ny + 1) := LF
          have LG3 : Hid (ff.length ≤ 21 + (kk + 1)) := Lib.hid (by have := LF.out; have := LY.out; omega)
          have HK3 : Hid (getR s t gg = (m, true)) := Lib.hid (by
            have h1 := fet_stay RYt.out (own := a.ow) (s' := a.sv) (t' := a.nm) (size := a.sz) (now := a.nw) (s := s) (t := t) (by rw [HK.out]) (by rw [HK.out]; exact HM2.out) he
            rw [← hff] at h1
            rw [hgg, exp_stay _ _ _ (by rw [h1, HK.out]) (by rw [h1, HK.out]; exact HM2.out), h1, HK.out])
          have HGet := HK3
          have hez : e = 0 := by rw [he1]; exact he
          rw [hez] at HF
          clear hez hgot he he1 hff hgg
          go_wp2_with (first
            | (go_at_call 23; (with_reducible refine (HF.out Ay cy _ RY6.out).mono ?_); rintro e0 w6 ⟨A6, c6, rfl, hT, hb⟩; have X6 := Lib.hid (X5.out.below hb); have P6 := Lib.hid (P5.out.below hb); have M6 := Lib.hid (M5.out.below hb); have F6 := Lib.hid hT; have B6 := Lib.hid (B5.out.trans (hb.mono B5.out.size)); clear hT; have p0 := P6.out.cell (i := 0) rfl; have p1 := P6.out.cell (i := 1) rfl; have p2 := P6.out.cell (i := 2) rfl; have p3 := P6.out.cell (i := 3) rfl; have p4 := P6.out.cell (i := 4) rfl; have x1 := X6.out.cell (i := 1) rfl; have x2 := X6.out.cell (i := 2) rfl; clear hb)
            | (go_at_call 11; (with_reducible refine (get11_lit A6 _ c6 ff a.sv a.nm _ F6.out ⟨fv, fn, fz, a.nw, 1⟩ true HGot.out).mono ?_); rintro e0 w7 ⟨rfl, hb⟩; have hb2 := hb.alloc hb.size (.cells #[.string fv, .string fn, .int .i64 fz, .int .i64 a.nw, .int .i64 1] 26); have X7 := Lib.hid (X6.out.below hb2); have P7 := Lib.hid (P6.out.below hb2); have M7 := Lib.hid (M6.out.below hb2); have F7 := Lib.hid (F6.out.below hb2); have B7 := Lib.hid (B6.out.trans (hb2.mono B6.out.size)); clear hb2 p0 p1 p2 p3 p4 x1 x2; have p0 := P7.out.cell (i := 0) rfl; have p1 := P7.out.cell (i := 1) rfl; have p2 := P7.out.cell (i := 2) rfl; have p3 := P7.out.cell (i := 3) rfl; have p4 := P7.out.cell (i := 4) rfl; clear hb)
            | (go_at_call 25; (with_reducible refine (expire_ok A6 _ c6 ff a.ow a.nw a.sz _ F7.out RF.out (by have := LF.out; have := LY.out; omega) HA63.out gg HGG.out).mono ?_); rintro e0 w8 ⟨A8, c8, rfl, hT, hb⟩; have X8 := Lib.hid (X7.out.below hb); have M8 := Lib.hid (M7.out.below hb); have G8 := Lib.hid hT; have B8 := Lib.hid (B7.out.trans (hb.mono B7.out.size)); clear hT; clear p0 p1 p2 p3 p4; have x1 := X8.out.cell (i := 1) rfl; have x2 := X8.out.cell (i := 2) rfl; clear hb)
            | (go_at_call 11; (with_reducible refine (get11_lit A8 _ c8 gg s t _ G8.out m true HGet.out).mono ?_); rintro e0 w9 ⟨rfl, hb⟩; have hb2 := hb.alloc hb.size (.cells #[.string m.sv, .string m.nm, .int .i64 m.sz, .int .i64 m.tt, .int .i64 m.st] 26); have X9 := Lib.hid (X8.out.below hb2); have M9 := Lib.hid (M8.out.below hb2); have G9 := Lib.hid (G8.out.below hb2); have B9 := Lib.hid (B8.out.trans (hb2.mono B8.out.size)); have Z9 := Lib.hid (blk_new w9 [.string m.sv, .string m.nm, .int .i64 m.sz, .int .i64 m.tt, .int .i64 m.st] 26); clear hb2 x1 x2; clear hb)
            | (go_at_call 13; (with_reducible refine (check_ok A8 _ c8 gg _ G9.out RG.out (by have := LG.out; have := LY.out; omega)).mono ?_); rintro e0 w10 ⟨rfl, hb⟩; have X10 := Lib.hid (X9.out.below hb); have G10 := Lib.hid (G9.out.below hb); have Z10 := Lib.hid (Z9.out.below hb); have M10 := Lib.hid (M9.out.below hb); have B10 := Lib.hid (B9.out.trans (hb.mono B9.out.size)); have z0 := Z10.out.cell (i := 0) rfl; have z1 := Z10.out.cell (i := 1) rfl; have z2 := Z10.out.cell (i := 2) rfl; have z3 := Z10.out.cell (i := 3) rfl; have z4 := Z10.out.cell (i := 4) rfl; have m0 := M10.out.cell (i := 0) rfl; have m1 := M10.out.cell (i := 1) rfl; have m2 := M10.out.cell (i := 2) rfl; have m3 := M10.out.cell (i := 3) rfl; have m4 := M10.out.cell (i := 4) rfl; clear hb)
            | (go_at_call 17; (with_reducible refine (sameOne17 m _).mono ?_); rintro e0 w11 ⟨rfl, hb⟩; have G11 := Lib.hid (G10.out.below hb); have B11 := Lib.hid (B10.out.trans (hb.mono B10.out.size)); clear z0 m0 z1 m1 z2 m2 z3 m3 z4 m4; clear hb))
          go_roundg (n2 - (kk + 1))
          case measure => omega
          case rel => exact ⟨kk + 1, gg, A8, c8, _, by omega, by omega, by go_num, rfl, G11, RG, LG3, HK3, B11⟩
        · have hb0 : (e == 0) = false := by rw [he1]; simpa using he
          clear he
          obtain ⟨gg, hgg⟩ : ∃ gg, gg = expL a.ow a.nw a.sz ys := ⟨_, rfl⟩
          have HGG := Lib.hid hgg
          have RG : Hid (Right gg) := Lib.hid (by rw [hgg]; exact RYt.out.exp _ _ _)
          have LG : Hid (ny ≤ ny) := Lib.hid (Nat.le_refl _)
          have LG3 : Hid (ny ≤ 21 + (kk + 1)) := Lib.hid (by have := LY.out; omega)
          have HK3 : Hid (getR s t gg = (m, true)) := Lib.hid (by
            rw [hgg, exp_stay _ _ _ (by rw [HK.out]) (by rw [HK.out]; exact HM2.out), HK.out])
          have HGet := HK3
          clear he1 hff hgg
          go_wp2_with (first
            | (go_at_call 23; (with_reducible refine (HF.out Ay cy _ RY6.out).mono ?_); rintro e0 w6 ⟨A6, c6, rfl, hT, hb⟩; have X6 := Lib.hid (X5.out.below hb); have P6 := Lib.hid (P5.out.below hb); have M6 := Lib.hid (M5.out.below hb); have RY7 := Lib.hid (RY6.out.below hb); have B6 := Lib.hid (B5.out.trans (hb.mono B5.out.size)); clear hT; have p0 := P6.out.cell (i := 0) rfl; have p1 := P6.out.cell (i := 1) rfl; have p2 := P6.out.cell (i := 2) rfl; have p3 := P6.out.cell (i := 3) rfl; have p4 := P6.out.cell (i := 4) rfl; have x1 := X6.out.cell (i := 1) rfl; have x2 := X6.out.cell (i := 2) rfl; clear hb)
            | (go_at_call 25; (with_reducible refine (expire_ok Ay _ cy ys a.ow a.nw a.sz _ RY7.out RYt.out (by have := LY.out; omega) HA63.out gg HGG.out).mono ?_); rintro e0 w8 ⟨A8, c8, rfl, hT, hb⟩; have X8 := Lib.hid (X6.out.below hb); have M8 := Lib.hid (M6.out.below hb); have G8 := Lib.hid hT; have B8 := Lib.hid (B6.out.trans (hb.mono B6.out.size)); clear hT; clear p0 p1 p2 p3 p4 x1 x2; have x1 := X8.out.cell (i := 1) rfl; have x2 := X8.out.cell (i := 2) rfl; clear hb)
            | (go_at_call 11; (with_reducible refine (get11_lit A8 _ c8 gg s t _ G8.out m true HGet.out).mono ?_); rintro e0 w9 ⟨rfl, hb⟩; have hb2 := hb.alloc hb.size (.cells #[.string m.sv, .string m.nm, .int .i64 m.sz, .int .i64 m.tt, .int .i64 m.st] 26); have X9 := Lib.hid (X8.out.below hb2); have M9 := Lib.hid (M8.out.below hb2); have G9 := Lib.hid (G8.out.below hb2); have B9 := Lib.hid (B8.out.trans (hb2.mono B8.out.size)); have Z9 := Lib.hid (blk_new w9 [.string m.sv, .string m.nm, .int .i64 m.sz, .int .i64 m.tt, .int .i64 m.st] 26); clear hb2 x1 x2; clear hb)
            | (go_at_call 13; (with_reducible refine (check_ok A8 _ c8 gg _ G9.out RG.out (by have := LG.out; have := LY.out; omega)).mono ?_); rintro e0 w10 ⟨rfl, hb⟩; have X10 := Lib.hid (X9.out.below hb); have G10 := Lib.hid (G9.out.below hb); have Z10 := Lib.hid (Z9.out.below hb); have M10 := Lib.hid (M9.out.below hb); have B10 := Lib.hid (B9.out.trans (hb.mono B9.out.size)); have z0 := Z10.out.cell (i := 0) rfl; have z1 := Z10.out.cell (i := 1) rfl; have z2 := Z10.out.cell (i := 2) rfl; have z3 := Z10.out.cell (i := 3) rfl; have z4 := Z10.out.cell (i := 4) rfl; have m0 := M10.out.cell (i := 0) rfl; have m1 := M10.out.cell (i := 1) rfl; have m2 := M10.out.cell (i := 2) rfl; have m3 := M10.out.cell (i := 3) rfl; have m4 := M10.out.cell (i := 4) rfl; clear hb)
            | (go_at_call 17; (with_reducible refine (sameOne17 m _).mono ?_); rintro e0 w11 ⟨rfl, hb⟩; have G11 := Lib.hid (G10.out.below hb); have B11 := Lib.hid (B10.out.trans (hb.mono B10.out.size)); clear z0 m0 z1 m1 z2 m2 z3 m3 z4 m4; clear hb))
          go_roundg (n2 - (kk + 1))
          case measure => omega
          case rel => exact ⟨kk + 1, gg, A8, c8, _, by omega, by omega, by go_num, rfl, G11, RG, LG3, HK3, B11⟩
      · cases q2 : (a.nm.toList == t.toList)
        · by_cases he : fetE ys a.ow a.sv a.nm a.sz a.nw = 0
          · obtain ⟨gg, hgg⟩ : ∃ gg, gg = expL a.ow a.nw a.sz ff := ⟨_, rfl⟩
            have HGG := Lib.hid hgg
            have RF : Hid (Right ff) := Lib.hid (by rw [hff]; exact RYt.out.fet he)
            have LF : Hid (ff.length ≤ ny + 1) := Lib.hid (by rw [hff, ← LYe.out]; exact fet_len _ _ _ _ _ _)
            obtain ⟨fv, fn, fz, hgot⟩ := fet_got he
            have HGot : Hid (getR a.sv a.nm ff = (⟨fv, fn, fz, a.nw, 1⟩, true)) := Lib.hid (by rw [hff]; exact hgot)
            have RG : Hid (Right gg) := Lib.hid (by rw [hgg]; exact RF.out.exp _ _ _)
            have LG : Hid (ff.length ≤ ny + 1) := LF
            have LG3 : Hid (ff.length ≤ 21 + (kk + 1)) := Lib.hid (by have := LF.out; have := LY.out; omega)
            have HK3 : Hid (getR s t gg = (m, true)) := Lib.hid (by
              have h1 := fet_stay RYt.out (own := a.ow) (s' := a.sv) (t' := a.nm) (size := a.sz) (now := a.nw) (s := s) (t := t) (by rw [HK.out]) (by rw [HK.out]; exact HM2.out) he
              rw [← hff] at h1
              rw [hgg, exp_stay _ _ _ (by rw [h1, HK.out]) (by rw [h1, HK.out]; exact HM2.out), h1, HK.out])
            have HGet := HK3
            have hez : e = 0 := by rw [he1]; exact he
            rw [hez] at HF
            clear hez hgot he he1 hff hgg
            go_wp2_with (first
              | (go_at_call 23; (with_reducible refine (HF.out Ay cy _ RY6.out).mono ?_); rintro e0 w6 ⟨A6, c6, rfl, hT, hb⟩; have X6 := Lib.hid (X5.out.below hb); have P6 := Lib.hid (P5.out.below hb); have M6 := Lib.hid (M5.out.below hb); have F6 := Lib.hid hT; have B6 := Lib.hid (B5.out.trans (hb.mono B5.out.size)); clear hT; have p0 := P6.out.cell (i := 0) rfl; have p1 := P6.out.cell (i := 1) rfl; have p2 := P6.out.cell (i := 2) rfl; have p3 := P6.out.cell (i := 3) rfl; have p4 := P6.out.cell (i := 4) rfl; have x1 := X6.out.cell (i := 1) rfl; have x2 := X6.out.cell (i := 2) rfl; clear hb)
              | (go_at_call 11; (with_reducible refine (get11_lit A6 _ c6 ff a.sv a.nm _ F6.out ⟨fv, fn, fz, a.nw, 1⟩ true HGot.out).mono ?_); rintro e0 w7 ⟨rfl, hb⟩; have hb2 := hb.alloc hb.size (.cells #[.string fv, .string fn, .int .i64 fz, .int .i64 a.nw, .int .i64 1] 26); have X7 := Lib.hid (X6.out.below hb2); have P7 := Lib.hid (P6.out.below hb2); have M7 := Lib.hid (M6.out.below hb2); have F7 := Lib.hid (F6.out.below hb2); have B7 := Lib.hid (B6.out.trans (hb2.mono B6.out.size)); clear hb2 p0 p1 p2 p3 p4 x1 x2; have p0 := P7.out.cell (i := 0) rfl; have p1 := P7.out.cell (i := 1) rfl; have p2 := P7.out.cell (i := 2) rfl; have p3 := P7.out.cell (i := 3) rfl; have p4 := P7.out.cell (i := 4) rfl; clear hb)
              | (go_at_call 25; (with_reducible refine (expire_ok A6 _ c6 ff a.ow a.nw a.sz _ F7.out RF.out (by have := LF.out; have := LY.out; omega) HA63.out gg HGG.out).mono ?_); rintro e0 w8 ⟨A8, c8, rfl, hT, hb⟩; have X8 := Lib.hid (X7.out.below hb); have M8 := Lib.hid (M7.out.below hb); have G8 := Lib.hid hT; have B8 := Lib.hid (B7.out.trans (hb.mono B7.out.size)); clear hT; clear p0 p1 p2 p3 p4; have x1 := X8.out.cell (i := 1) rfl; have x2 := X8.out.cell (i := 2) rfl; clear hb)
              | (go_at_call 11; (with_reducible refine (get11_lit A8 _ c8 gg s t _ G8.out m true HGet.out).mono ?_); rintro e0 w9 ⟨rfl, hb⟩; have hb2 := hb.alloc hb.size (.cells #[.string m.sv, .string m.nm, .int .i64 m.sz, .int .i64 m.tt, .int .i64 m.st] 26); have X9 := Lib.hid (X8.out.below hb2); have M9 := Lib.hid (M8.out.below hb2); have G9 := Lib.hid (G8.out.below hb2); have B9 := Lib.hid (B8.out.trans (hb2.mono B8.out.size)); have Z9 := Lib.hid (blk_new w9 [.string m.sv, .string m.nm, .int .i64 m.sz, .int .i64 m.tt, .int .i64 m.st] 26); clear hb2 x1 x2; clear hb)
              | (go_at_call 13; (with_reducible refine (check_ok A8 _ c8 gg _ G9.out RG.out (by have := LG.out; have := LY.out; omega)).mono ?_); rintro e0 w10 ⟨rfl, hb⟩; have X10 := Lib.hid (X9.out.below hb); have G10 := Lib.hid (G9.out.below hb); have Z10 := Lib.hid (Z9.out.below hb); have M10 := Lib.hid (M9.out.below hb); have B10 := Lib.hid (B9.out.trans (hb.mono B9.out.size)); have z0 := Z10.out.cell (i := 0) rfl; have z1 := Z10.out.cell (i := 1) rfl; have z2 := Z10.out.cell (i := 2) rfl; have z3 := Z10.out.cell (i := 3) rfl; have z4 := Z10.out.cell (i := 4) rfl; have m0 := M10.out.cell (i := 0) rfl; have m1 := M10.out.cell (i := 1) rfl; have m2 := M10.out.cell (i := 2) rfl; have m3 := M10.out.cell (i := 3) rfl; have m4 := M10.out.cell (i := 4) rfl; clear hb)
              | (go_at_call 17; (with_reducible refine (sameOne17 m _).mono ?_); rintro e0 w11 ⟨rfl, hb⟩; have G11 := Lib.hid (G10.out.below hb); have B11 := Lib.hid (B10.out.trans (hb.mono B10.out.size)); clear z0 m0 z1 m1 z2 m2 z3 m3 z4 m4; clear hb))
            go_roundg (n2 - (kk + 1))
            case measure => omega
            case rel => exact ⟨kk + 1, gg, A8, c8, _, by omega, by omega, by go_num, rfl, G11, RG, LG3, HK3, B11⟩
          · have hb0 : (e == 0) = false := by rw [he1]; simpa using he
            clear he
            obtain ⟨gg, hgg⟩ : ∃ gg, gg = expL a.ow a.nw a.sz ys := ⟨_, rfl⟩
            have HGG := Lib.hid hgg
            have RG : Hid (Right gg) := Lib.hid (by rw [hgg]; exact RYt.out.exp _ _ _)
            have LG : Hid (ny ≤ ny) := Lib.hid (Nat.le_refl _)
            have LG3 : Hid (ny ≤ 21 + (kk + 1)) := Lib.hid (by have := LY.out; omega)
            have HK3 : Hid (getR s t gg = (m, true)) := Lib.hid (by
              rw [hgg, exp_stay _ _ _ (by rw [HK.out]) (by rw [HK.out]; exact HM2.out), HK.out])
            have HGet := HK3
            clear he1 hff hgg
            go_wp2_with (first
              | (go_at_call 23; (with_reducible refine (HF.out Ay cy _ RY6.out).mono ?_); rintro e0 w6 ⟨A6, c6, rfl, hT, hb⟩; have X6 := Lib.hid (X5.out.below hb); have P6 := Lib.hid (P5.out.below hb); have M6 := Lib.hid (M5.out.below hb); have RY7 := Lib.hid (RY6.out.below hb); have B6 := Lib.hid (B5.out.trans (hb.mono B5.out.size)); clear hT; have p0 := P6.out.cell (i := 0) rfl; have p1 := P6.out.cell (i := 1) rfl; have p2 := P6.out.cell (i := 2) rfl; have p3 := P6.out.cell (i := 3) rfl; have p4 := P6.out.cell (i := 4) rfl; have x1 := X6.out.cell (i := 1) rfl; have x2 := X6.out.cell (i := 2) rfl; clear hb)
              | (go_at_call 25; (with_reducible refine (expire_ok Ay _ cy ys a.ow a.nw a.sz _ RY7.out RYt.out (by have := LY.out; omega) HA63.out gg HGG.out).mono ?_); rintro e0 w8 ⟨A8, c8, rfl, hT, hb⟩; have X8 := Lib.hid (X6.out.below hb); have M8 := Lib.hid (M6.out.below hb); have G8 := Lib.hid hT; have B8 := Lib.hid (B6.out.trans (hb.mono B6.out.size)); clear hT; clear p0 p1 p2 p3 p4 x1 x2; have x1 := X8.out.cell (i := 1) rfl; have x2 := X8.out.cell (i := 2) rfl; clear hb)
              | (go_at_call 11; (with_reducible refine (get11_lit A8 _ c8 gg s t _ G8.out m true HGet.out).mono ?_); rintro e0 w9 ⟨rfl, hb⟩; have hb2 := hb.alloc hb.size (.cells #[.string m.sv, .string m.nm, .int .i64 m.sz, .int .i64 m.tt, .int .i64 m.st] 26); have X9 := Lib.hid (X8.out.below hb2); have M9 := Lib.hid (M8.out.below hb2); have G9 := Lib.hid (G8.out.below hb2); have B9 := Lib.hid (B8.out.trans (hb2.mono B8.out.size)); have Z9 := Lib.hid (blk_new w9 [.string m.sv, .string m.nm, .int .i64 m.sz, .int .i64 m.tt, .int .i64 m.st] 26); clear hb2 x1 x2; clear hb)
              | (go_at_call 13; (with_reducible refine (check_ok A8 _ c8 gg _ G9.out RG.out (by have := LG.out; have := LY.out; omega)).mono ?_); rintro e0 w10 ⟨rfl, hb⟩; have X10 := Lib.hid (X9.out.below hb); have G10 := Lib.hid (G9.out.below hb); have Z10 := Lib.hid (Z9.out.below hb); have M10 := Lib.hid (M9.out.below hb); have B10 := Lib.hid (B9.out.trans (hb.mono B9.out.size)); have z0 := Z10.out.cell (i := 0) rfl; have z1 := Z10.out.cell (i := 1) rfl; have z2 := Z10.out.cell (i := 2) rfl; have z3 := Z10.out.cell (i := 3) rfl; have z4 := Z10.out.cell (i := 4) rfl; have m0 := M10.out.cell (i := 0) rfl; have m1 := M10.out.cell (i := 1) rfl; have m2 := M10.out.cell (i := 2) rfl; have m3 := M10.out.cell (i := 3) rfl; have m4 := M10.out.cell (i := 4) rfl; clear hb)
              | (go_at_call 17; (with_reducible refine (sameOne17 m _).mono ?_); rintro e0 w11 ⟨rfl, hb⟩; have G11 := Lib.hid (G10.out.below hb); have B11 := Lib.hid (B10.out.trans (hb.mono B10.out.size)); clear z0 m0 z1 m1 z2 m2 z3 m3 z4 m4; clear hb))
            go_roundg (n2 - (kk + 1))
            case measure => omega
            case rel => exact ⟨kk + 1, gg, A8, c8, _, by omega, by omega, by go_num, rfl, G11, RG, LG3, HK3, B11⟩
        · have hs1 : a.sv = s := bytes_of q1
          have ht1 : a.nm = t := bytes_of q2
          rcases (show fetE ys a.ow a.sv a.nm a.sz a.nw = 27 ∨ fetE ys a.ow a.sv a.nm a.sz a.nw = 2 by rw [hs1, ht1]; exact fet_two RYt.out (by rw [HK.out]) (by rw [HK.out]; exact HM2.out)) with he | he
          · clear hs1 ht1
            obtain rfl : e = 27 := by rw [he1]; exact he
            clear he
            obtain ⟨gg, hgg⟩ : ∃ gg, gg = expL a.ow a.nw a.sz ys := ⟨_, rfl⟩
            have HGG := Lib.hid hgg
            have RG : Hid (Right gg) := Lib.hid (by rw [hgg]; exact RYt.out.exp _ _ _)
            have LG : Hid (ny ≤ ny) := Lib.hid (Nat.le_refl _)
            have LG3 : Hid (ny ≤ 21 + (kk + 1)) := Lib.hid (by have := LY.out; omega)
            have HK3 : Hid (getR s t gg = (m, true)) := Lib.hid (by
              rw [hgg, exp_stay _ _ _ (by rw [HK.out]) (by rw [HK.out]; exact HM2.out), HK.out])
            have HGet := HK3
            clear he1 hff hgg
            go_wp2_with (first
              | (go_at_call 23; (with_reducible refine (HF.out Ay cy _ RY6.out).mono ?_); rintro e0 w6 ⟨A6, c6, rfl, hT, hb⟩; have X6 := Lib.hid (X5.out.below hb); have P6 := Lib.hid (P5.out.below hb); have M6 := Lib.hid (M5.out.below hb); have RY7 := Lib.hid (RY6.out.below hb); have B6 := Lib.hid (B5.out.trans (hb.mono B5.out.size)); clear hT; have p0 := P6.out.cell (i := 0) rfl; have p1 := P6.out.cell (i := 1) rfl; have p2 := P6.out.cell (i := 2) rfl; have p3 := P6.out.cell (i := 3) rfl; have p4 := P6.out.cell (i := 4) rfl; have x1 := X6.out.cell (i := 1) rfl; have x2 := X6.out.cell (i := 2) rfl; clear hb)
              | (go_at_call 25; (with_reducible refine (expire_ok Ay _ cy ys a.ow a.nw a.sz _ RY7.out RYt.out (by have := LY.out; omega) HA63.out gg HGG.out).mono ?_); rintro e0 w8 ⟨A8, c8, rfl, hT, hb⟩; have X8 := Lib.hid (X6.out.below hb); have M8 := Lib.hid (M6.out.below hb); have G8 := Lib.hid hT; have B8 := Lib.hid (B6.out.trans (hb.mono B6.out.size)); clear hT; clear p0 p1 p2 p3 p4 x1 x2; have x1 := X8.out.cell (i := 1) rfl; have x2 := X8.out.cell (i := 2) rfl; clear hb)
              | (go_at_call 11; (with_reducible refine (get11_lit A8 _ c8 gg s t _ G8.out m true HGet.out).mono ?_); rintro e0 w9 ⟨rfl, hb⟩; have hb2 := hb.alloc hb.size (.cells #[.string m.sv, .string m.nm, .int .i64 m.sz, .int .i64 m.tt, .int .i64 m.st] 26); have X9 := Lib.hid (X8.out.below hb2); have M9 := Lib.hid (M8.out.below hb2); have G9 := Lib.hid (G8.out.below hb2); have B9 := Lib.hid (B8.out.trans (hb2.mono B8.out.size)); have Z9 := Lib.hid (blk_new w9 [.string m.sv, .string m.nm, .int .i64 m.sz, .int .i64 m.tt, .int .i64 m.st] 26); clear hb2 x1 x2; clear hb)
              | (go_at_call 13; (with_reducible refine (check_ok A8 _ c8 gg _ G9.out RG.out (by have := LG.out; have := LY.out; omega)).mono ?_); rintro e0 w10 ⟨rfl, hb⟩; have X10 := Lib.hid (X9.out.below hb); have G10 := Lib.hid (G9.out.below hb); have Z10 := Lib.hid (Z9.out.below hb); have M10 := Lib.hid (M9.out.below hb); have B10 := Lib.hid (B9.out.trans (hb.mono B9.out.size)); have z0 := Z10.out.cell (i := 0) rfl; have z1 := Z10.out.cell (i := 1) rfl; have z2 := Z10.out.cell (i := 2) rfl; have z3 := Z10.out.cell (i := 3) rfl; have z4 := Z10.out.cell (i := 4) rfl; have m0 := M10.out.cell (i := 0) rfl; have m1 := M10.out.cell (i := 1) rfl; have m2 := M10.out.cell (i := 2) rfl; have m3 := M10.out.cell (i := 3) rfl; have m4 := M10.out.cell (i := 4) rfl; clear hb)
              | (go_at_call 17; (with_reducible refine (sameOne17 m _).mono ?_); rintro e0 w11 ⟨rfl, hb⟩; have G11 := Lib.hid (G10.out.below hb); have B11 := Lib.hid (B10.out.trans (hb.mono B10.out.size)); clear z0 m0 z1 m1 z2 m2 z3 m3 z4 m4; clear hb))
            go_roundg (n2 - (kk + 1))
            case measure => omega
            case rel => exact ⟨kk + 1, gg, A8, c8, _, by omega, by omega, by go_num, rfl, G11, RG, LG3, HK3, B11⟩
          · clear hs1 ht1
            obtain rfl : e = 2 := by rw [he1]; exact he
            clear he
            obtain ⟨gg, hgg⟩ : ∃ gg, gg = expL a.ow a.nw a.sz ys := ⟨_, rfl⟩
            have HGG := Lib.hid hgg
            have RG : Hid (Right gg) := Lib.hid (by rw [hgg]; exact RYt.out.exp _ _ _)
            have LG : Hid (ny ≤ ny) := Lib.hid (Nat.le_refl _)
            have LG3 : Hid (ny ≤ 21 + (kk + 1)) := Lib.hid (by have := LY.out; omega)
            have HK3 : Hid (getR s t gg = (m, true)) := Lib.hid (by
              rw [hgg, exp_stay _ _ _ (by rw [HK.out]) (by rw [HK.out]; exact HM2.out), HK.out])
            have HGet := HK3
            clear he1 hff hgg
            go_wp2_with (first
              | (go_at_call 23; (with_reducible refine (HF.out Ay cy _ RY6.out).mono ?_); rintro e0 w6 ⟨A6, c6, rfl, hT, hb⟩; have X6 := Lib.hid (X5.out.below hb); have P6 := Lib.hid (P5.out.below hb); have M6 := Lib.hid (M5.out.below hb); have RY7 := Lib.hid (RY6.out.below hb); have B6 := Lib.hid (B5.out.trans (hb.mono B5.out.size)); clear hT; have p0 := P6.out.cell (i := 0) rfl; have p1 := P6.out.cell (i := 1) rfl; have p2 := P6.out.cell (i := 2) rfl; have p3 := P6.out.cell (i := 3) rfl; have p4 := P6.out.cell (i := 4) rfl; have x1 := X6.out.cell (i := 1) rfl; have x2 := X6.out.cell (i := 2) rfl; clear hb)
              | (go_at_call 25; (with_reducible refine (expire_ok Ay _ cy ys a.ow a.nw a.sz _ RY7.out RYt.out (by have := LY.out; omega) HA63.out gg HGG.out).mono ?_); rintro e0 w8 ⟨A8, c8, rfl, hT, hb⟩; have X8 := Lib.hid (X6.out.below hb); have M8 := Lib.hid (M6.out.below hb); have G8 := Lib.hid hT; have B8 := Lib.hid (B6.out.trans (hb.mono B6.out.size)); clear hT; clear p0 p1 p2 p3 p4 x1 x2; have x1 := X8.out.cell (i := 1) rfl; have x2 := X8.out.cell (i := 2) rfl; clear hb)
              | (go_at_call 11; (with_reducible refine (get11_lit A8 _ c8 gg s t _ G8.out m true HGet.out).mono ?_); rintro e0 w9 ⟨rfl, hb⟩; have hb2 := hb.alloc hb.size (.cells #[.string m.sv, .string m.nm, .int .i64 m.sz, .int .i64 m.tt, .int .i64 m.st] 26); have X9 := Lib.hid (X8.out.below hb2); have M9 := Lib.hid (M8.out.below hb2); have G9 := Lib.hid (G8.out.below hb2); have B9 := Lib.hid (B8.out.trans (hb2.mono B8.out.size)); have Z9 := Lib.hid (blk_new w9 [.string m.sv, .string m.nm, .int .i64 m.sz, .int .i64 m.tt, .int .i64 m.st] 26); clear hb2 x1 x2; clear hb)
              | (go_at_call 13; (with_reducible refine (check_ok A8 _ c8 gg _ G9.out RG.out (by have := LG.out; have := LY.out; omega)).mono ?_); rintro e0 w10 ⟨rfl, hb⟩; have X10 := Lib.hid (X9.out.below hb); have G10 := Lib.hid (G9.out.below hb); have Z10 := Lib.hid (Z9.out.below hb); have M10 := Lib.hid (M9.out.below hb); have B10 := Lib.hid (B9.out.trans (hb.mono B9.out.size)); have z0 := Z10.out.cell (i := 0) rfl; have z1 := Z10.out.cell (i := 1) rfl; have z2 := Z10.out.cell (i := 2) rfl; have z3 := Z10.out.cell (i := 3) rfl; have z4 := Z10.out.cell (i := 4) rfl; have m0 := M10.out.cell (i := 0) rfl; have m1 := M10.out.cell (i := 1) rfl; have m2 := M10.out.cell (i := 2) rfl; have m3 := M10.out.cell (i := 3) rfl; have m4 := M10.out.cell (i := 4) rfl; clear hb)
              | (go_at_call 17; (with_reducible refine (sameOne17 m _).mono ?_); rintro e0 w11 ⟨rfl, hb⟩; have G11 := Lib.hid (G10.out.below hb); have B11 := Lib.hid (B10.out.trans (hb.mono B10.out.size)); clear z0 m0 z1 m1 z2 m2 z3 m3 z4 m4; clear hb))
            go_roundg (n2 - (kk + 1))
            case measure => omega
            case rel => exact ⟨kk + 1, gg, A8, c8, _, by omega, by omega, by go_num, rfl, G11, RG, LG3, HK3, B11⟩
    · have hltz : ¬ (kk : Int) < (n2 : Int) := by omega
      go_wp2_with (go_at_call 10; (with_reducible refine (awake10 _).mono ?_); rintro e0 wa ⟨rfl, hb⟩; have BA := Lib.hid hb; clear hb)
      go_ret
      exact ⟨rfl, (B4.out.trans (BW.out.mono B4.out.size)).trans (BA.out.mono (B4.out.trans (BW.out.mono B4.out.size)).size)⟩
set_option maxRecDepth 100000 in
set_option maxHeartbeats 16000000 in
theorem safe_no (A : Option Addr) (n c : Nat) (zs : List Rc) (o s t : ByteArray) (size now : Int) (hs : s.size ≤ 9223372036854775807) (ht : t.size ≤ 9223372036854775807) (A2 : Option Addr) (n2 cap2 : Nat) (z2 : List Ak) (w : World) (h : Rcs w A n c zs) (h2 : Aks w A2 n2 cap2 z2) (hn : n ≤ 20) (hm : n2 ≤ 20) (hR : Right zs) (qs : List Rc) (hq : qs = quarL zs s t) (m : Rc) (hg : getR s t qs = (m, false)) : Calls Try.prog 7 #[.slice A n c, .agg #[.string o, .string s, .string t, .int .i64 size, .int .i64 now], .slice A2 n2 cap2] w fun e w' => e = .returned (.bool true) ∧ Below w.heap.size w w' := by
  have B0 := Lib.hid ((Below.refl w.heap.size w).alloc (Nat.le_refl _) (.cells #[.string o, .string s, .string t, .int .i64 size, .int .i64 now] 40))
  have X0 := Lib.hid (blk_new w [.string o, .string s, .string t, .int .i64 size, .int .i64 now] 40)
  have H := Lib.hid h
  have H2 := Lib.hid h2
  have HR := Lib.hid hR
  have hn2 : ¬ (20 : Int) < (n : Int) := by omega
  have hm2 : ¬ (20 : Int) < (n2 : Int) := by omega
  have RQ : Hid (Right qs) := Lib.hid (by rw [hq]; exact hR.quar s t)
  have LQ : Hid (qs.length ≤ 21 + 0) := Lib.hid (by rw [hq]; have := quar_len zs s t; have := h.len; omega)
  have HQ : Hid (∀ u, Below w.heap.size w u → Calls Try.prog 21 #[.slice A n c, .string s, .string t] u (FilP u.heap.size u qs)) := Lib.hid (fun u hb => by rw [hq]; exact quar21 A n c zs s t u (h.below hb) hs ht (by omega))
  have HG := Lib.hid hg
  have hl2 : ((qs.length : Int) != (n : Int)) = false := by
    rcases quar_get hR s t with ⟨h3, _⟩ | ⟨_, h3⟩
    · rw [← hq, hg] at h3; cases h3
    · rw [hq, h3, h.len]; simp
  clear h h2 hR hq hg
  go_enter Try.func7, Try.ntmps7
  go_wp2_with (first
    | (go_at_call 13; (with_reducible refine (check_ok A n c zs _ (H.out.below B0.out) HR.out (by omega)).mono ?_); rintro e0 w1 ⟨rfl, hb⟩; have X1 := Lib.hid (X0.out.below hb); have B1 := Lib.hid (B0.out.trans (hb.mono B0.out.size)); have x1 := X1.out.cell (i := 1) rfl; have x2 := X1.out.cell (i := 2) rfl; clear hb)
    | (go_at_call 21; (with_reducible refine (HQ.out _ B1.out).mono ?_); rintro e0 w2 ⟨A1, c1, rfl, hT, hb, _⟩; have X2 := Lib.hid (X1.out.below hb); have Q2 := Lib.hid hT; have B2 := Lib.hid (B1.out.trans (hb.mono B1.out.size)); clear hT x1 x2; have x1 := X2.out.cell (i := 1) rfl; have x2 := X2.out.cell (i := 2) rfl; clear hb)
    | (go_at_call 11; (with_reducible refine (get11_lit A1 _ c1 qs s t _ Q2.out m false HG.out).mono ?_); rintro e0 w3 ⟨rfl, hb⟩; have hb2 := hb.alloc hb.size (.cells #[.string m.sv, .string m.nm, .int .i64 m.sz, .int .i64 m.tt, .int .i64 m.st] 26); have X3 := Lib.hid (X2.out.below hb2); have M3 := Lib.hid (blk_new w3 [.string m.sv, .string m.nm, .int .i64 m.sz, .int .i64 m.tt, .int .i64 m.st] 26); have Q3 := Lib.hid (Q2.out.below hb2); have B3 := Lib.hid (B2.out.trans (hb2.mono B2.out.size)); clear hb hb2 x1 x2)
    | (go_at_call 13; (with_reducible refine (check_ok A1 _ c1 qs _ Q3.out RQ.out (by have := LQ.out; omega)).mono ?_); rintro e0 w4 ⟨rfl, hb⟩; have X4 := Lib.hid (X3.out.below hb); have M4 := Lib.hid (M3.out.below hb); have Q4 := Lib.hid (Q3.out.below hb); have B4 := Lib.hid (B3.out.trans (hb.mono B3.out.size)); have m4 := M4.out.cell (i := 4) rfl; clear hb))
  clear HQ HG X0 X1 X2 X3 M3 Q2 Q3 B1 B2 B3 m4 hl2
  have H2' := Lib.hid (fun wr (hb : Below w4.heap.size w4 wr) => H2.out.below (B4.out.trans (hb.mono B4.out.size)))
  go_loopg [7, 10, 11, 12, 13, 14, 15, 16, 17] n2 (fun gq s7 s10 _ _ _ _ _ _ _ wr => ∃ (kk : Nat) (ys : List Rc) (Ay : Option Addr) (cy ny : Nat), kk ≤ n2 ∧ n2 - kk ≤ gq ∧ s10 = .int .i64 kk ∧ s7 = .slice Ay ny cy ∧ Hid (Rcs wr Ay ny cy ys) ∧ Hid (Right ys) ∧ Hid (ny ≤ 21 + kk) ∧ Hid (Below w4.heap.size w4 wr))
  case atStart => exact ⟨0, qs, A1, c1, qs.length, Nat.zero_le _, by omega, rfl, rfl, Q4, RQ, LQ, Lib.hid (Below.refl _ _)⟩
  case round =>
    obtain ⟨kk, ys, Ay, cy, ny, hkk, hgq, rfl, rfl, RY, RYt, LY, BW⟩ := hrel
    by_cases hlt : kk < n2
    · have hltz : (kk : Int) < (n2 : Int) := by omega
      have LYe := Lib.hid RY.out.len
      obtain ⟨b2, off2, rfl, k0, k1, k2, k3, k4, hfa⟩ := (H2'.out wr BW.out).at_ hlt
      generalize z2.getD kk ak0 = a at k0 k1 k2 k3 k4 hfa
      have HA63 := Lib.hid hfa.2.2
      have hn2' : ny ≤ 900000 := by have := LY.out; omega
      obtain ⟨e, he1⟩ : ∃ e, e = fetE ys a.ow a.sv a.nm a.sz a.nw := ⟨_, rfl⟩
      obtain ⟨ff, hff⟩ : ∃ ff, ff = fetL ys a.ow a.sv a.nm a.sz a.nw := ⟨_, rfl⟩
      have HF : Hid (∀ A c u, Rcs u A ny c ys → Calls Try.prog 23 #[.slice A ny c, .string a.ow, .string a.sv, .string a.nm, .int .i64 a.sz, .int .i64 a.nw] u (StR u ff e)) := Lib.hid (fun A c u hT => by rw [he1, hff]; exact fetch23 A ny c ys a.ow a.sv a.nm a.sz a.nw u hT hfa.1 hfa.2.1 hn2')
      have E5 := Lib.hid ((Below.refl _ wr).alloc (Nat.le_refl _) (.cells #[.string a.ow, .string a.sv, .string a.nm, .int .i64 a.sz, .int .i64 a.nw] 40))
      have P5 := Lib.hid (blk_new wr [.string a.ow, .string a.sv, .string a.nm, .int .i64 a.sz, .int .i64 a.nw] 40)
      have X5 := Lib.hid ((X4.out.below BW.out).below E5.out)
      have RY6 := Lib.hid (RY.out.below E5.out)
      have B5 := Lib.hid (BW.out.trans (E5.out.mono BW.out.size))
      clear hfa hn2'
      by_cases he : fetE ys a.ow a.sv a.nm a.sz a.nw = 0
      · obtain ⟨gg, hgg⟩ : ∃ gg, gg = expL a.ow a.nw a.sz ff := ⟨_, rfl⟩
        have HGG := Lib.hid hgg
        have RF : Hid (Right ff) := Lib.hid (by rw [hff]; exact RYt.out.fet he)
        have LF : Hid (ff.length ≤ ny + 1) := Lib.hid (by rw [hff, ← LYe.out]; exact fet_len _ _ _ _ _ _)
        obtain ⟨fv, fn, fz, hgot⟩ := fet_got he
        have HGot : Hid (getR a.sv a.nm ff = (⟨fv, fn, fz, a.nw, 1⟩, true)) := Lib.hid (by rw [hff]; exact hgot)
        have RG : Hid (Right gg) := Lib.hid (by rw [hgg]; exact RF.out.exp _ _ _)
        have LG : Hid (ff.length ≤ ny + 1) := LF
        have LG3 : Hid (ff.length ≤ 21 + (kk + 1)) := Lib.hid (by have := LF.out; have := LY.out; omega)
        obtain ⟨g, b, hgb⟩ : ∃ g b, getR s t gg = (g, b) := ⟨_, _, rfl⟩
        have HGet := Lib.hid hgb
        clear hgb
        have hez : e = 0 := by rw [he1]; exact he
        rw [hez] at HF
        clear hez hgot he he1 hff hgg
        go_wp2_with (first
          | (go_at_call 23; (with_reducible refine (HF.out Ay cy _ RY6.out).mono ?_); rintro e0 w6 ⟨A6, c6, rfl, hT, hb⟩; have X6 := Lib.hid (X5.out.below hb); have P6 := Lib.hid (P5.out.below hb); have F6 := Lib.hid hT; have B6 := Lib.hid (B5.out.trans (hb.mono B5.out.size)); clear hT; have p0 := P6.out.cell (i := 0) rfl; have p1 := P6.out.cell (i := 1) rfl; have p2 := P6.out.cell (i := 2) rfl; have p3 := P6.out.cell (i := 3) rfl; have p4 := P6.out.cell (i := 4) rfl; have x1 := X6.out.cell (i := 1) rfl; have x2 := X6.out.cell (i := 2) rfl; clear hb)
          | (go_at_call 11; (with_reducible refine (get11_lit A6 _ c6 ff a.sv a.nm _ F6.out ⟨fv, fn, fz, a.nw, 1⟩ true HGot.out).mono ?_); rintro e0 w7 ⟨rfl, hb⟩; have hb2 := hb.alloc hb.size (.cells #[.string fv, .string fn, .int .i64 fz, .int .i64 a.nw, .int .i64 1] 26); have X7 := Lib.hid (X6.out.below hb2); have P7 := Lib.hid (P6.out.below hb2); have F7 := Lib.hid (F6.out.below hb2); have B7 := Lib.hid (B6.out.trans (hb2.mono B6.out.size)); clear hb2 p0 p1 p2 p3 p4 x1 x2; have p0 := P7.out.cell (i := 0) rfl; have p1 := P7.out.cell (i := 1) rfl; have p2 := P7.out.cell (i := 2) rfl; have p3 := P7.out.cell (i := 3) rfl; have p4 := P7.out.cell (i := 4) rfl; clear hb)
          | (go_at_call 25; (with_reducible refine (expire_ok A6 _ c6 ff a.ow a.nw a.sz _ F7.out RF.out (by have := LF.out; have := LY.out; omega) HA63.out gg HGG.out).mono ?_); rintro e0 w8 ⟨A8, c8, rfl, hT, hb⟩; have X8 := Lib.hid (X7.out.below hb); have G8 := Lib.hid hT; have B8 := Lib.hid (B7.out.trans (hb.mono B7.out.size)); clear hT; clear p0 p1 p2 p3 p4; have x1 := X8.out.cell (i := 1) rfl; have x2 := X8.out.cell (i := 2) rfl; clear hb)
          | (go_at_call 11; (with_reducible refine (get11_lit A8 _ c8 gg s t _ G8.out g b HGet.out).mono ?_); rintro e0 w9 ⟨rfl, hb⟩; have hb2 := hb.alloc hb.size (.cells #[.string g.sv, .string g.nm, .int .i64 g.sz, .int .i64 g.tt, .int .i64 g.st] 26); have X9 := Lib.hid (X8.out.below hb2); have G9 := Lib.hid (G8.out.below hb2); have B9 := Lib.hid (B8.out.trans (hb2.mono B8.out.size)); have Z9 := Lib.hid (blk_new w9 [.string g.sv, .string g.nm, .int .i64 g.sz, .int .i64 g.tt, .int .i64 g.st] 26); clear hb2 x1 x2; clear hb)
          | (go_at_call 13; (with_reducible refine (check_ok A8 _ c8 gg _ G9.out RG.out (by have := LG.out; have := LY.out; omega)).mono ?_); rintro e0 w10 ⟨rfl, hb⟩; have X10 := Lib.hid (X9.out.below hb); have G10 := Lib.hid (G9.out.below hb); have Z10 := Lib.hid (Z9.out.below hb); have B10 := Lib.hid (B9.out.trans (hb.mono B9.out.size)); clear hb))
        go_roundg (n2 - (kk + 1))
        case measure => omega
        case rel => exact ⟨kk + 1, gg, A8, c8, _, by omega, by omega, by go_num, rfl, G10, RG, LG3, B10⟩
      · have hb0 : (e == 0) = false := by rw [he1]; simpa using he
        clear he
        obtain ⟨gg, hgg⟩ : ∃ gg, gg = expL a.ow a.nw a.sz ys := ⟨_, rfl⟩
        have HGG := Lib.hid hgg
        have RG : Hid (Right gg) := Lib.hid (by rw [hgg]; exact RYt.out.exp _ _ _)
        have LG : Hid (ny ≤ ny) := Lib.hid (Nat.le_refl _)
        have LG3 : Hid (ny ≤ 21 + (kk + 1)) := Lib.hid (by have := LY.out; omega)
        obtain ⟨g, b, hgb⟩ : ∃ g b, getR s t gg = (g, b) := ⟨_, _, rfl⟩
        have HGet := Lib.hid hgb
        clear hgb
        clear he1 hff hgg
        go_wp2_with (first
          | (go_at_call 23; (with_reducible refine (HF.out Ay cy _ RY6.out).mono ?_); rintro e0 w6 ⟨A6, c6, rfl, hT, hb⟩; have X6 := Lib.hid (X5.out.below hb); have P6 := Lib.hid (P5.out.below hb); have RY7 := Lib.hid (RY6.out.below hb); have B6 := Lib.hid (B5.out.trans (hb.mono B5.out.size)); clear hT; have p0 := P6.out.cell (i := 0) rfl; have p1 := P6.out.cell (i := 1) rfl; have p2 := P6.out.cell (i := 2) rfl; have p3 := P6.out.cell (i := 3) rfl; have p4 := P6.out.cell (i := 4) rfl; have x1 := X6.out.cell (i := 1) rfl; have x2 := X6.out.cell (i := 2) rfl; clear hb)
          | (go_at_call 25; (with_reducible refine (expire_ok Ay _ cy ys a.ow a.nw a.sz _ RY7.out RYt.out (by have := LY.out; omega) HA63.out gg HGG.out).mono ?_); rintro e0 w8 ⟨A8, c8, rfl, hT, hb⟩; have X8 := Lib.hid (X6.out.below hb); have G8 := Lib.hid hT; have B8 := Lib.hid (B6.out.trans (hb.mono B6.out.size)); clear hT; clear p0 p1 p2 p3 p4 x1 x2; have x1 := X8.out.cell (i := 1) rfl; have x2 := X8.out.cell (i := 2) rfl; clear hb)
          | (go_at_call 11; (with_reducible refine (get11_lit A8 _ c8 gg s t _ G8.out g b HGet.out).mono ?_); rintro e0 w9 ⟨rfl, hb⟩; have hb2 := hb.alloc hb.size (.cells #[.string g.sv, .string g.nm, .int .i64 g.sz, .int .i64 g.tt, .int .i64 g.st] 26); have X9 := Lib.hid (X8.out.below hb2); have G9 := Lib.hid (G8.out.below hb2); have B9 := Lib.hid (B8.out.trans (hb2.mono B8.out.size)); have Z9 := Lib.hid (blk_new w9 [.string g.sv, .string g.nm, .int .i64 g.sz, .int .i64 g.tt, .int .i64 g.st] 26); clear hb2 x1 x2; clear hb)
          | (go_at_call 13; (with_reducible refine (check_ok A8 _ c8 gg _ G9.out RG.out (by have := LG.out; have := LY.out; omega)).mono ?_); rintro e0 w10 ⟨rfl, hb⟩; have X10 := Lib.hid (X9.out.below hb); have G10 := Lib.hid (G9.out.below hb); have Z10 := Lib.hid (Z9.out.below hb); have B10 := Lib.hid (B9.out.trans (hb.mono B9.out.size)); clear hb))
        go_roundg (n2 - (kk + 1))
        case measure => omega
        case rel => exact ⟨kk + 1, gg, A8, c8, _, by omega, by omega, by go_num, rfl, G10, RG, LG3, B10⟩
    · have hltz : ¬ (kk : Int) < (n2 : Int) := by omega
      go_wp2_with (go_at_call 10; (with_reducible refine (awake10 _).mono ?_); rintro e0 wa ⟨rfl, hb⟩; have BA := Lib.hid hb; clear hb)
      go_ret
      exact ⟨rfl, (B4.out.trans (BW.out.mono B4.out.size)).trans (BA.out.mono (B4.out.trans (BW.out.mono B4.out.size)).size)⟩
set_option maxRecDepth 100000 in
set_option maxHeartbeats 16000000 in
theorem safe_walk (A : Option Addr) (n c : Nat) (zs : List Rc) (o s t : ByteArray) (size now : Int) (hs : s.size ≤ 9223372036854775807) (ht : t.size ≤ 9223372036854775807) (A2 : Option Addr) (n2 cap2 : Nat) (z2 : List Ak) (w : World) (h : Rcs w A n c zs) (h2 : Aks w A2 n2 cap2 z2) : Calls Try.prog 7 #[.slice A n c, .agg #[.string o, .string s, .string t, .int .i64 size, .int .i64 now], .slice A2 n2 cap2] w fun e w' => e = .returned (.bool true) ∧ Below w.heap.size w w' := by
  have B0 := Lib.hid ((Below.refl w.heap.size w).alloc (Nat.le_refl _) (.cells #[.string o, .string s, .string t, .int .i64 size, .int .i64 now] 40))
  by_cases hn : n ≤ 20
  · have hn2 : ¬ (20 : Int) < (n : Int) := by omega
    by_cases hm : n2 ≤ 20
    · have hm2 : ¬ (20 : Int) < (n2 : Int) := by omega
      by_cases hc : chk zs n = 0
      · have hR := right_of_chk (zs := zs) (by rw [h.len]; exact hc)
        cases hb : (getR s t (quarL zs s t)).2
        · exact safe_no A n c zs o s t size now hs ht A2 n2 cap2 z2 w h h2 hn hm hR _ rfl (getR s t (quarL zs s t)).1 (by rw [← hb])
        · exact safe_yes A n c zs o s t size now hs ht A2 n2 cap2 z2 w h h2 hn hm hR _ rfl (getR s t (quarL zs s t)).1 (by rw [← hb])
      · obtain ⟨r, hr⟩ : ∃ r, r = chk zs n := ⟨_, rfl⟩
        have HC := Lib.hid (fun u (hb : Below w.heap.size w u) => hr ▸ check13 A n c zs u (h.below hb) (by omega))
        have hr0 : (r != 0) = true := by rw [hr]; simpa using hc
        clear h h2 hc hr
        go_enter Try.func7, Try.ntmps7
        go_wp2_with (first
          | (go_at_call 13; (with_reducible refine (HC.out _ B0.out).mono ?_); rintro e w1 ⟨rfl, hb⟩; have B1 := Lib.hid (B0.out.trans (hb.mono B0.out.size)); clear hb)
          | (go_at_call 10; (with_reducible refine (awake10 _).mono ?_); rintro e w2 ⟨rfl, hb⟩; have B2 := Lib.hid (B1.out.trans (hb.mono B1.out.size)); clear hb))
        go_ret
        exact ⟨rfl, B2.out⟩
    · have hm2 : (20 : Int) < (n2 : Int) := by omega
      clear h h2
      go_enter Try.func7, Try.ntmps7
      go_wp2_with (go_at_call 10; (with_reducible refine (awake10 _).mono ?_); rintro e w2 ⟨rfl, hb⟩; have B2 := Lib.hid (B0.out.trans (hb.mono B0.out.size)); clear hb)
      go_ret
      exact ⟨rfl, B2.out⟩
  · have hn2 : (20 : Int) < (n : Int) := by omega
    clear h h2
    go_enter Try.func7, Try.ntmps7
    go_wp2_with (go_at_call 10; (with_reducible refine (awake10 _).mono ?_); rintro e w2 ⟨rfl, hb⟩; have B2 := Lib.hid (B0.out.trans (hb.mono B0.out.size)); clear hb)
    go_ret
    exact ⟨rfl, B2.out⟩
end Go.Proofs.Ytahcmhjcpkjccaa
