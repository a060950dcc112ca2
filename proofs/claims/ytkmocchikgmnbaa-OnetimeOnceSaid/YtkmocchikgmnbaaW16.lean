/- One-time keys: Claim of the reference. Bound: at most 900000 entries. -/
import Derived.Test.YtkmocchikgmnbaaW15
namespace Go.Proofs.Ytkmocchikgmnbaa
open Go.RowKit
set_option linter.unusedVariables false
set_option linter.unusedSimpArgs false

/-- One cell of a row of entries replaced. -/
theorem set_cell {cur : List Value} {zs : List Rc} {n k i : Nat} {v : Value} {p : Rc} (hc : cur.take (n * 4) = cl zs) (hl : zs.length = n) (hk : k < n) (hi : i < 4) (he : enc p = (enc (zs.getD k t0)).set i v) : (cur.set (k * 4 + i) v).take (n * 4) = cl (zs.set k p) := by
  have hk' : k < zs.length := by omega
  rw [List.take_set, hc, List.set_eq_take_append_cons_drop (l := zs), if_pos hk', cl_append, cl_cons, he]
  have e : cl zs = cl (zs.take k) ++ (enc (zs.getD k t0) ++ cl (zs.drop (k + 1))) := by
    rw [← cl_cons, ← cl_append, getD_at hk', ← List.drop_eq_getElem_cons hk', List.take_append_drop]
  have hlen : (cl (zs.take k)).length = k * 4 := by rw [cl_len, List.length_take]; omega
  rw [e, List.set_append_right _ _ (by omega), hlen, show k * 4 + i - k * 4 = i by omega, List.set_append_left _ _ (by rw [enc_len]; exact hi)]
theorem cur_at {cur : List Value} {zs : List Rc} {n k i : Nat} (hc : cur.take (n * 4) = cl zs) (hk : k < n) (hl : zs.length = n) (hi : i < 4) : cur[k * 4 + i]? = (enc (zs.getD k t0))[i]? := by
  rw [← cl_get zs k i (by omega) hi, ← hc, List.getElem?_take_of_lt (by omega)]
set_option maxRecDepth 100000 in
set_option maxHeartbeats 4000000 in
theorem rclaim_any (A : Option Addr) (n c : Nat) (zs : List Rc) (u d : ByteArray) (w : World) (h : Rcs w A n c zs) (hn : n ≤ 900000) (hu : u.size ≤ 9223372036854775807) (hd : d.size ≤ 9223372036854775807) :
    Calls Try.prog 16 #[.slice A n c, .string u, .string d] w fun e w' => ∃ A' c' ys, e = .returned (.tuple #[.slice A' ys.length c', .int .i64 (clK zs u d), .int .i64 (clE zs u d)]) ∧ OutP w (clE zs u d) (putL zs (clP zs u d)) A' c' ys w' := by
  have H := Lib.hid h
  have HL := Lib.hid h.len
  have HC := Lib.hid (check11 A n c zs w h hn)
  have HPl := Lib.hid (fun v (hb : Below w.heap.size w v) => place_any A n c zs u d v (H.out.below hb) hn)
  obtain ⟨i0, hi, hz0, hz1, hz2⟩ := info_parts info45
  have HI := Lib.hid (And.intro hi (And.intro hz0 (And.intro hz1 hz2)))
  clear h hi hz0 hz1 hz2
  by_cases hc : chk zs n = 0
  · have HK := Lib.hid (show chk zs zs.length = 0 by rw [HL.out]; exact hc)
    have HRt := Lib.hid (right_iff.1 HK.out)
    rw [hc] at HC
    clear hc
    have hrng := lk_rng HRt.out u d
    rcases lk_fidx zs u d with ⟨h1, h2, _⟩ | ⟨k, hk, h1, h2, h3⟩
    · have HE := Lib.hid (show clE zs u d = 5 by unfold clE; rw [if_pos HK.out, h2, if_pos (show t0.lf = 0 from rfl)])
      have HKy := Lib.hid (show clK zs u d = 0 by unfold clK; rw [HE.out, if_neg (by decide)])
      rw [HE.out, HKy.out]
      rw [h1] at HPl
      clear h1 h2 hrng
      go_wp2_with (first
        | (go_at_call 11; (with_reducible refine HC.out.mono ?_); rintro e w1 ⟨rfl, hb1⟩; have B1 := Lib.hid hb1; clear hb1)
        | (go_at_call 28; (with_reducible refine (HPl.out _ B1.out).mono ?_); rintro e w2 ⟨rfl, e2_⟩; subst e2_)
        | go_in)
      go_ret3
      exact ⟨none, 0, [], rfl, outP_err (by decide) B1.out⟩
    · have hkn : k < n := by rw [HL.out] at hk; exact hk
      have hkz : (k : Int) < (n : Int) := by omega
      have hk0 : ¬ (k : Int) < 0 := by omega
      have HAt := Lib.hid (fun v (hb : Below w.heap.size w v) => (H.out.below hb).at_ hkn)
      obtain ⟨b, off, rfl, hbl, _⟩ := H.out.at_ hkn
      have HAt := Lib.hid (show ∀ v, Below w.heap.size w v → v.cell? ⟨b, off + k * 4 + 2, none⟩ = some (.int .i64 (zs.getD k t0).nx) ∧ v.cell? ⟨b, off + k * 4 + 3, none⟩ = some (.int .i64 (zs.getD k t0).lf) from fun v hb => by
        obtain ⟨b2, off2, e5, _, _, _, q2, q3, _⟩ := (H.out.below hb).at_ hkn
        simp only [Option.some.injEq, Addr.mk.injEq, and_true] at e5
        obtain ⟨rfl, rfl⟩ := e5
        exact ⟨q2, q3⟩)
      rw [h1] at HPl
      have HLk := Lib.hid h2
      have HDv := Lib.hid (dev_iff.1 h3)
      rw [h2] at hrng
      have HPp := Lib.hid (show clP zs u d = ⟨u, d, (zs.getD k t0).nx, (zs.getD k t0).lf - 1⟩ by unfold clP; rw [h2])
      clear h1 h2 h3
      obtain ⟨p, hp⟩ : ∃ p, zs.getD k t0 = p := ⟨_, rfl⟩
      have HP := Lib.hid hp
      rw [hp] at hrng HAt HLk HDv HPp
      clear hp
      by_cases f0 : p.lf = 0
      · have HE := Lib.hid (show clE zs u d = 5 by unfold clE; rw [if_pos HK.out, HLk.out, if_pos f0])
        have HKy := Lib.hid (show clK zs u d = 0 by unfold clK; rw [HE.out, if_neg (by decide)])
        rw [HE.out, HKy.out]
        have fb : (p.lf == 0) = true := by simpa using f0
        go_wp2_with (first
        | (go_at_call 11; (with_reducible refine HC.out.mono ?_); rintro e w1 ⟨rfl, hb1⟩; have B1 := Lib.hid hb1; clear hb1)
        | (go_at_call 28; (with_reducible refine (HPl.out _ B1.out).mono ?_); rintro e w2 ⟨rfl, e2_⟩; subst e2_; obtain ⟨q2, q3⟩ := HAt.out _ B1.out)
        | go_in)
        go_ret3
        exact ⟨none, 0, [], rfl, outP_err (by decide) B1.out⟩
      · have HE := Lib.hid (show clE zs u d = 0 by unfold clE; rw [if_pos HK.out, HLk.out, if_neg f0])
        have HKy := Lib.hid (show clK zs u d = p.nx - p.lf by unfold clK; rw [HE.out, if_pos rfl, HLk.out])
        rw [HE.out, HKy.out, HPp.out]
        have fb : (p.lf == 0) = false := by simpa using f0
        have e1 : IntKind.i64.wrap (p.lf - 1) = p.lf - 1 := IntWalk.i64_in _ (by omega)
        have e2 : IntKind.i64.wrap (p.nx - p.lf) = p.nx - p.lf := IntWalk.i64_in _ (by omega)
        have hn0 : 0 < n := by omega
        go_upto_region 8 with (first
        | (go_at_call 11; (with_reducible refine HC.out.mono ?_); rintro e w1 ⟨rfl, hb1⟩; have B1 := Lib.hid hb1; clear hb1)
        | (go_at_call 28; (with_reducible refine (HPl.out _ B1.out).mono ?_); rintro e w2 ⟨rfl, e2_⟩; subst e2_; obtain ⟨q2, q3⟩ := HAt.out _ B1.out)
        | (at_builtin; refine wpList_append_any _ rfl _ _ 22 rfl w.heap.size 45 i0 _ 4 48 Try.underlying22 HI.out.1 HI.out.2.1 HI.out.2.2.1 HI.out.2.2.2 rfl (by decide) (.slice (some ⟨w1.heap.size, 0, none⟩) 0 0) 0 [] rfl (World.ownsRow_made (base := w.heap.size) (e := 45) (size := 4) _ #[] 0 B1.out.size (by decide) (by simp)) _ n _ (cl zs) rfl ((H.out.below (B1.out.alloc B1.out.size _)).src) (by unfold maxLen; omega) (by omega) (by have := B1.out.size; simp; omega) ?_; intro v3 w3 hgr; have B3 := Lib.hid (hgr.below (B1.out.alloc B1.out.size _) (World.ownsRow_made (base := w.heap.size) (e := 45) (size := 4) _ #[] 0 B1.out.size (by decide) (by simp))); have O3 := Lib.hid (show w3.ownsRow w.heap.size 45 4 v3 n (cl zs) by have := hgr.own; rwa [Nat.zero_add, List.nil_append] at this); clear hgr q2 q3; obtain ⟨q2, q3⟩ := HAt.out _ B3.out)
        | go_in)
        obtain ⟨g, cap, cur, rfl, hgB, hgb, hncap, hcapm, hcl, htk⟩ := own_pos O3.out hn0
        have m3 := hgb.cell (i := k * 4 + 3) (v := .int .i64 p.lf) (by rw [cur_at htk hkn HL.out (by omega), HP.out]; rfl)
        have f3 := hgb.free (k * 4 + 3)
        have B4 := Lib.hid (show Below w.heap.size w (w3.setCell ⟨g, k * 4 + 3, none⟩ (.int .i64 (p.lf - 1))) from B3.out.setCell (p := ⟨g, _, none⟩) hgB _)
        have HX := Lib.hid (hgb.set (k * 4 + 3) (.int .i64 (p.lf - 1)))
        have HS := Lib.hid (set_cell (v := .int .i64 (p.lf - 1)) (p := ⟨u, d, p.nx, p.lf - 1⟩) htk HL.out hkn (i := 3) (by omega) (by rw [HP.out]; obtain ⟨a1, a2⟩ := HDv.out; unfold enc; rw [a1, a2]; rfl))
        have HSP := Lib.hid (set_perm HRt.out.srt hk (p := ⟨u, d, p.nx, p.lf - 1⟩) (by rw [HP.out]; exact HDv.out))
        obtain ⟨r2, r3⟩ := HAt.out _ B4.out
        clear htk hcl
        go_upto_region 9 with (fail)
        go_quiet (fail)
        go_wp2
        go_ret3
        have hlen : (zs.set k ⟨u, d, p.nx, p.lf - 1⟩).length = n := by rw [List.length_set]; exact HL.out
        refine ⟨some ⟨g, 0, none⟩, cap, zs.set k ⟨u, d, p.nx, p.lf - 1⟩, by rw [hlen]; rfl, ?_, below_drewN B4.out _, fun _ b off e => by cases e; exact hgB, fun _ => HSP.out, fun h => absurd rfl h⟩
        rw [hlen]
        refine (Rcs.ofBlk HX.out HS.out hlen hncap (by omega) ?_).below (below_drewN (Below.refl _ _) _)
        intro q hq
        rcases List.mem_or_eq_of_mem_set hq with hq | rfl
        · exact H.out.fit q hq
        · exact ⟨hu, hd⟩
  · have HE := Lib.hid (show clE zs u d = chk zs n by unfold clE; rw [HL.out, if_neg hc])
    have HKy := Lib.hid (show clK zs u d = 0 by unfold clK; rw [HE.out, if_neg hc])
    have HNc := Lib.hid hc
    rw [HE.out, HKy.out]
    have hcb : (chk zs n != 0) = true := by simpa using hc
    generalize chk zs n = r at HC HNc hcb ⊢
    clear hc
    go_wp2_with (first
        | (go_at_call 11; (with_reducible refine HC.out.mono ?_); rintro e w1 ⟨rfl, hb1⟩; have B1 := Lib.hid hb1; clear hb1)
        | go_in)
    go_ret3
    exact ⟨none, 0, [], rfl, outP_err HNc.out B1.out⟩
end Go.Proofs.Ytkmocchikgmnbaa
