/- One-time keys: Upload of the reference: errors, a device that is there. Bound: at most 900000 entries. -/
import Derived.Test.YtkmocchikgmnbaaW16
namespace Go.Proofs.Ytkmocchikgmnbaa
open Go.RowKit
set_option linter.unusedVariables false
set_option linter.unusedSimpArgs false

/-- What Upload of the reference does. -/
def RUp (A : Option Addr) (n c : Nat) (zs : List Rc) (u d : ByteArray) (k : Int) (w : World) : Prop := Calls Try.prog 13 #[.slice A n c, .string u, .string d, .int .i64 k] w fun e w' => ∃ A' c' ys, e = .returned (.tuple #[.slice A' ys.length c', .int .i64 (upE zs u d k)]) ∧ OutP w (upE zs u d k) (putL zs (upP zs u d k)) A' c' ys w'
set_option maxRecDepth 100000 in
set_option maxHeartbeats 4000000 in
theorem rup_bad (A : Option Addr) (n c : Nat) (zs : List Rc) (u d : ByteArray) (k : Int) (w : World) (h : Rcs w A n c zs) (hn : n ≤ 900000) (hu : u.size ≤ 9223372036854775807) (hd : d.size ≤ 9223372036854775807)
    (hb : ¬ (chk zs n = 0 ∧ okO u d = true ∧ 1 ≤ k ∧ k ≤ 100)) : RUp A n c zs u d k w := by
  unfold RUp
  have HL := Lib.hid h.len
  have HC := Lib.hid (check11 A n c zs w h hn)
  have HV := Lib.hid (fun u' => names_any u d hu hd u')
  clear h
  by_cases hc : chk zs n = 0
  · have HK := Lib.hid (show chk zs zs.length = 0 by rw [HL.out]; exact hc)
    cases hok : okO u d
    · rw [hc] at HC
      have HE := Lib.hid (show upE zs u d k = 3 by unfold upE; rw [if_pos HK.out, if_neg (by rw [hok]; decide)])
      rw [HE.out]
      rw [nmE_f hok] at HV
      clear hb hc hok
      go_wp2_with (first
        | (go_at_call 11; (with_reducible refine HC.out.mono ?_); rintro e w1 ⟨rfl, hb1⟩; have B1 := Lib.hid hb1; clear hb1)
        | (go_at_call 24; (with_reducible refine (HV.out _).mono ?_); rintro e w2 ⟨rfl, e2_⟩; subst e2_)
        | go_in)
      go_ret2
      exact ⟨none, 0, [], rfl, outP_err (by decide) B1.out⟩
    · have hk : k < 1 ∨ 100 < k := by
        rcases Int.lt_or_le k 1 with a | a
        · exact .inl a
        · rcases Int.lt_or_le 100 k with b | b
          · exact .inr b
          · exact absurd ⟨hc, hok, a, b⟩ hb
      have HE := Lib.hid (show upE zs u d k = 2 by unfold upE; rw [if_pos HK.out, if_pos hok, if_pos hk])
      rw [hc] at HC
      rw [HE.out]
      rw [nmE_t hok] at HV
      clear hb hc hok
      by_cases k1 : k < 1
      · go_wp2_with (first
        | (go_at_call 11; (with_reducible refine HC.out.mono ?_); rintro e w1 ⟨rfl, hb1⟩; have B1 := Lib.hid hb1; clear hb1)
        | (go_at_call 24; (with_reducible refine (HV.out _).mono ?_); rintro e w2 ⟨rfl, e2_⟩; subst e2_)
        | go_in)
        go_ret2
        exact ⟨none, 0, [], rfl, outP_err (by decide) B1.out⟩
      · have k2 : 100 < k := by omega
        go_wp2_with (first
        | (go_at_call 11; (with_reducible refine HC.out.mono ?_); rintro e w1 ⟨rfl, hb1⟩; have B1 := Lib.hid hb1; clear hb1)
        | (go_at_call 24; (with_reducible refine (HV.out _).mono ?_); rintro e w2 ⟨rfl, e2_⟩; subst e2_)
        | go_in)
        go_ret2
        exact ⟨none, 0, [], rfl, outP_err (by decide) B1.out⟩
  · have HE := Lib.hid (show upE zs u d k = chk zs n by unfold upE; rw [HL.out, if_neg hc])
    have HNc := Lib.hid hc
    rw [HE.out]
    have hcb : (chk zs n != 0) = true := by simpa using hc
    clear hb
    generalize chk zs n = r at HC HNc hcb ⊢
    clear hc
    go_wp2_with (first
        | (go_at_call 11; (with_reducible refine HC.out.mono ?_); rintro e w1 ⟨rfl, hb1⟩; have B1 := Lib.hid hb1; clear hb1)
        | go_in)
    go_ret2
    exact ⟨none, 0, [], rfl, outP_err HNc.out B1.out⟩
set_option maxRecDepth 100000 in
set_option maxHeartbeats 4000000 in
theorem rup_old (A : Option Addr) (n c : Nat) (zs : List Rc) (u d : ByteArray) (K : Int) (w : World) (h : Rcs w A n c zs) (hn : n ≤ 900000) (hu : u.size ≤ 9223372036854775807) (hd : d.size ≤ 9223372036854775807)
    (hc : chk zs n = 0) (hok : okO u d = true) (hK : 1 ≤ K ∧ K ≤ 100) (k : Nat) (hk : k < zs.length) (h1 : fidx (dev u d) zs = (k : Int)) (h2 : lk zs u d = zs.getD k t0) (h3 : dev u d (zs.getD k t0) = true) : RUp A n c zs u d K w := by
  unfold RUp
  have H := Lib.hid h
  have HL := Lib.hid h.len
  have HC := Lib.hid (check11 A n c zs w h hn)
  have HV := Lib.hid (fun u' => names_any u d hu hd u')
  have HPl := Lib.hid (fun v (hb : Below w.heap.size w v) => place_any A n c zs u d v (H.out.below hb) hn)
  obtain ⟨i0, hi, hz0, hz1, hz2⟩ := info_parts info45
  have HI := Lib.hid (And.intro hi (And.intro hz0 (And.intro hz1 hz2)))
  clear h hi hz0 hz1 hz2
  have HK := Lib.hid (show chk zs zs.length = 0 by rw [HL.out]; exact hc)
  have HRt := Lib.hid (right_iff.1 HK.out)
  have HOk := Lib.hid hok
  rw [hc] at HC
  rw [nmE_t hok] at HV
  clear hc hok
  have hrng := lk_rng HRt.out u d
  have k1_ : ¬ K < 1 := by omega
  have k2_ : ¬ 100 < K := by omega
  have HKR := Lib.hid (show ¬ (K < 1 ∨ 100 < K) by omega)
  have hkn : k < n := by rw [HL.out] at hk; exact hk
  have hkz : (k : Int) < (n : Int) := by omega
  have hk0 : (0 : Int) ≤ (k : Int) := by omega
  obtain ⟨b, off, rfl, hbl, _⟩ := H.out.at_ hkn
  have HAt := Lib.hid (show ∀ v, Below w.heap.size w v → v.cell? ⟨b, off + k * 4 + 2, none⟩ = some (.int .i64 (zs.getD k t0).nx) ∧ v.cell? ⟨b, off + k * 4 + 3, none⟩ = some (.int .i64 (zs.getD k t0).lf) from fun v hb => by
    obtain ⟨b2, off2, e5, _, _, _, q2, q3, _⟩ := (H.out.below hb).at_ hkn
    simp only [Option.some.injEq, Addr.mk.injEq, and_true] at e5
    obtain ⟨rfl, rfl⟩ := e5
    exact ⟨q2, q3⟩)
  rw [h1] at HPl
  have HLk := Lib.hid h2
  have HDv := Lib.hid (dev_iff.1 h3)
  rw [h2] at hrng
  have HPp := Lib.hid (show upP zs u d K = ⟨u, d, (zs.getD k t0).nx + K, (zs.getD k t0).lf + K⟩ by unfold upP; rw [h2])
  clear h1 h2 h3
  obtain ⟨p, hp⟩ : ∃ p, zs.getD k t0 = p := ⟨_, rfl⟩
  have HP := Lib.hid hp
  rw [hp] at hrng HAt HLk HDv HPp
  clear hp
  have e1 : IntKind.i64.wrap (p.lf + K) = p.lf + K := IntWalk.i64_in _ (by omega)
  have e2 : IntKind.i64.wrap (p.nx + K) = p.nx + K := IntWalk.i64_in _ (by omega)
  have hn0 : 0 < n := by omega
  by_cases f1 : 200 < p.lf + K
  · have HE := Lib.hid (show upE zs u d K = 29 by unfold upE; rw [if_pos HK.out, if_pos HOk.out, if_neg HKR.out, HLk.out, if_pos (.inl f1)])
    rw [HE.out]
    go_wp2_with (first
        | (go_at_call 11; (with_reducible refine HC.out.mono ?_); rintro e w1 ⟨rfl, hb1⟩; have B1 := Lib.hid hb1; clear hb1)
        | (go_at_call 24; (with_reducible refine (HV.out _).mono ?_); rintro e w2 ⟨rfl, e2_⟩; subst e2_)
        | (go_at_call 28; (with_reducible refine (HPl.out _ B1.out).mono ?_); rintro e w2 ⟨rfl, e2_⟩; subst e2_; obtain ⟨q2, q3⟩ := HAt.out _ B1.out)
        | go_in)
    go_ret2
    exact ⟨none, 0, [], rfl, outP_err (by decide) B1.out⟩
  · by_cases f2 : 1000000000000 < p.nx + K
    · have HE := Lib.hid (show upE zs u d K = 29 by unfold upE; rw [if_pos HK.out, if_pos HOk.out, if_neg HKR.out, HLk.out, if_pos (.inr f2)])
      rw [HE.out]
      go_wp2_with (first
        | (go_at_call 11; (with_reducible refine HC.out.mono ?_); rintro e w1 ⟨rfl, hb1⟩; have B1 := Lib.hid hb1; clear hb1)
        | (go_at_call 24; (with_reducible refine (HV.out _).mono ?_); rintro e w2 ⟨rfl, e2_⟩; subst e2_)
        | (go_at_call 28; (with_reducible refine (HPl.out _ B1.out).mono ?_); rintro e w2 ⟨rfl, e2_⟩; subst e2_; obtain ⟨q2, q3⟩ := HAt.out _ B1.out)
        | go_in)
      go_ret2
      exact ⟨none, 0, [], rfl, outP_err (by decide) B1.out⟩
    · have HE := Lib.hid (show upE zs u d K = 0 by unfold upE; rw [if_pos HK.out, if_pos HOk.out, if_neg HKR.out, HLk.out, if_neg (by omega)])
      rw [HE.out, HPp.out]
      go_upto_region 13 with (first
        | (go_at_call 11; (with_reducible refine HC.out.mono ?_); rintro e w1 ⟨rfl, hb1⟩; have B1 := Lib.hid hb1; clear hb1)
        | (go_at_call 24; (with_reducible refine (HV.out _).mono ?_); rintro e w2 ⟨rfl, e2_⟩; subst e2_)
        | (go_at_call 28; (with_reducible refine (HPl.out _ B1.out).mono ?_); rintro e w2 ⟨rfl, e2_⟩; subst e2_; obtain ⟨q2, q3⟩ := HAt.out _ B1.out)
        | (at_builtin; refine wpList_append_any _ rfl _ _ 22 rfl w.heap.size 45 i0 _ 4 48 Try.underlying22 HI.out.1 HI.out.2.1 HI.out.2.2.1 HI.out.2.2.2 rfl (by decide) (.slice (some ⟨w1.heap.size, 0, none⟩) 0 0) 0 [] rfl (World.ownsRow_made (base := w.heap.size) (e := 45) (size := 4) _ #[] 0 B1.out.size (by decide) (by simp)) _ n _ (cl zs) rfl ((H.out.below (B1.out.alloc B1.out.size _)).src) (by unfold maxLen; omega) (by omega) (by have := B1.out.size; simp; omega) ?_; intro v3 w3 hgr; have B3 := Lib.hid (hgr.below (B1.out.alloc B1.out.size _) (World.ownsRow_made (base := w.heap.size) (e := 45) (size := 4) _ #[] 0 B1.out.size (by decide) (by simp))); have O3 := Lib.hid (show w3.ownsRow w.heap.size 45 4 v3 n (cl zs) by have := hgr.own; rwa [Nat.zero_add, List.nil_append] at this); clear hgr q2 q3; obtain ⟨q2, q3⟩ := HAt.out _ B3.out)
        | go_in)
      obtain ⟨g, cap, cur, rfl, hgB, hgb, hncap, hcapm, hcl, htk⟩ := own_pos O3.out hn0
      have m3 := hgb.cell (i := k * 4 + 3) (v := .int .i64 p.lf) (by rw [cur_at htk hkn HL.out (by omega), HP.out]; rfl)
      have f3 := hgb.free (k * 4 + 3)
      have B4 := Lib.hid (show Below w.heap.size w (w3.setCell ⟨g, k * 4 + 3, none⟩ (.int .i64 (p.lf + K))) from B3.out.setCell (p := ⟨g, _, none⟩) hgB _)
      have HX := Lib.hid (hgb.set (k * 4 + 3) (.int .i64 (p.lf + K)))
      have HS1 := set_cell (v := .int .i64 (p.lf + K)) (p := ⟨u, d, p.nx, p.lf + K⟩) htk HL.out hkn (i := 3) (by omega) (by rw [HP.out]; obtain ⟨a1, a2⟩ := HDv.out; unfold enc; rw [a1, a2]; rfl)
      have hl1 : (zs.set k ⟨u, d, p.nx, p.lf + K⟩).length = n := by rw [List.length_set]; exact HL.out
      have hg1 : (zs.set k ⟨u, d, p.nx, p.lf + K⟩).getD k t0 = ⟨u, d, p.nx, p.lf + K⟩ := by rw [getD_at (by omega)]; simp
      have m2 := HX.out.cell (i := k * 4 + 2) (v := .int .i64 p.nx) (by rw [cur_at HS1 hkn hl1 (by omega), hg1]; rfl)
      have f2' := HX.out.free (k * 4 + 2)
      have HX2 := Lib.hid (HX.out.set (k * 4 + 2) (.int .i64 (p.nx + K)))
      have HS0 := set_cell (v := .int .i64 (p.nx + K)) (p := ⟨u, d, p.nx + K, p.lf + K⟩) HS1 hl1 hkn (i := 2) (by omega) (by rw [hg1]; rfl)
      rw [List.set_set] at HS0
      have HS := Lib.hid HS0
      have HSP := Lib.hid (set_perm HRt.out.srt hk (p := ⟨u, d, p.nx + K, p.lf + K⟩) (by rw [HP.out]; exact HDv.out))
      have B5 := Lib.hid (B4.out.setCell (p := ⟨g, k * 4 + 2, none⟩) hgB (.int .i64 (p.nx + K)))
      obtain ⟨r2, r3⟩ := HAt.out _ B4.out
      clear htk hcl HS1 hg1 HS0
      go_wp2
      go_ret2
      have hlen : (zs.set k ⟨u, d, p.nx + K, p.lf + K⟩).length = n := by rw [List.length_set]; exact HL.out
      refine ⟨some ⟨g, 0, none⟩, cap, zs.set k ⟨u, d, p.nx + K, p.lf + K⟩, by rw [hlen]; rfl, ?_, B5.out, fun _ b off e => by cases e; exact hgB, fun _ => HSP.out, fun h => absurd rfl h⟩
      rw [hlen]
      refine Rcs.ofBlk HX2.out HS.out hlen hncap (by omega) ?_
      intro q hq
      rcases List.mem_or_eq_of_mem_set hq with hq | rfl
      · exact H.out.fit q hq
      · exact ⟨hu, hd⟩
end Go.Proofs.Ytkmocchikgmnbaa
