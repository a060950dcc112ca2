/- One-time keys: Upload of the reference: a new device. Bound: at most 900000 entries. -/
import Derived.Test.YtkmocchikgmnbaaW17
namespace Go.Proofs.Ytkmocchikgmnbaa
open Go.RowKit
set_option linter.unusedVariables false
set_option linter.unusedSimpArgs false

set_option maxRecDepth 100000 in
theorem run_fromA {A : Option Addr} {n c k : Nat} (hk : k ≤ n) (w : World) : (Instr.sliceAt 22 (.slice A n c) (some (.int .i64 (k : Int))) none none).run Try.prog w = .ok (.slice (if c = k then A else A.map (·.add (k * 4))) (n - k) (c - k)) w := by
  have hrun := run_slice_l (P := Try.prog) w 22 A n c under22 .i64 (k : Int) (by omega) (by omega)
  rw [size22e] at hrun
  rw [run_sliceAt_slice w 22 _ _ _ _ under22, hrun]
  rfl
theorem own_belowR {w w' : World} {B : Nat} {v : Value} {n : Nat} {xs : List Value} (h : w.ownsRow B 45 4 v n xs) (hb : Below w.heap.size w w') : w'.ownsRow B 45 4 v n xs :=
  ⟨h.1, h.2.imp id fun ⟨g, cap, cur, e, hB, hg, r⟩ => ⟨g, cap, cur, e, hB, (hb.block g (Blk.lt (T := 45) (cs := cur.toList) ⟨by rw [Array.toArray_toList]; exact hg⟩)).trans hg, r⟩⟩
theorem rup_end {w w' : World} {v : Value} {zs : List Rc} {u d : ByteArray} {K : Int} {n i : Nat} (hs : Srt zs) (hl : zs.length = n) (hn : n ≤ 900000) (hi : i ≤ n) (hu : u.size ≤ 9223372036854775807) (hd : d.size ≤ 9223372036854775807) (hfit : ∀ p ∈ zs, fitR p)
    (h1 : ∀ j, j < i → ltR (zs.getD j t0) ⟨u, d, K, K⟩) (h2 : i < zs.length → ¬ ltR (zs.getD i t0) ⟨u, d, K, K⟩) (hdv : ∀ q ∈ zs, dev u d q = false)
    (ho : w'.ownsRow w.heap.size 45 4 v (i + 1 + (n - i)) ((cl (zs.take i) ++ enc ⟨u, d, K, K⟩) ++ cl (zs.drop i))) (hb : Below w.heap.size w w') :
    ∃ A' c' ys, Ending.returned (.tuple #[v, .int .i64 0]) = .returned (.tuple #[.slice A' ys.length c', .int .i64 0]) ∧ OutP w 0 (putL zs ⟨u, d, K, K⟩) A' c' ys w' := by
  obtain ⟨g, cap, cur, rfl, hgB, hgb, hncap, hcapm, hcl, htk⟩ := own_pos ho (by omega)
  have hlen : (zs.take i ++ (⟨u, d, K, K⟩ : Rc) :: zs.drop i).length = i + 1 + (n - i) := by simp; omega
  refine ⟨some ⟨g, 0, none⟩, cap, zs.take i ++ ⟨u, d, K, K⟩ :: zs.drop i, by rw [hlen], ?_, hb, fun _ b off e => by cases e; exact hgB, fun _ => ins_perm hs (by omega) h1 h2 hdv, fun h => absurd rfl h⟩
  rw [hlen]
  refine Rcs.ofBlk hgb (by rw [htk, cl_append, cl_cons, List.append_assoc]) hlen hncap (by omega) ?_
  intro q hq
  rcases List.mem_append.1 hq with hq | hq
  · exact hfit q (List.mem_of_mem_take hq)
  · rcases List.mem_cons.1 hq with rfl | hq
    · exact ⟨hu, hd⟩
    · exact hfit q (List.mem_of_mem_drop hq)
set_option maxRecDepth 100000 in
set_option maxHeartbeats 4000000 in
theorem rup_new (A : Option Addr) (n c : Nat) (zs : List Rc) (u d : ByteArray) (K : Int) (w : World) (h : Rcs w A n c zs) (hn : n ≤ 900000) (hu : u.size ≤ 9223372036854775807) (hd : d.size ≤ 9223372036854775807)
    (hc : chk zs n = 0) (hok : okO u d = true) (hK : 1 ≤ K ∧ K ≤ 100) (h1 : fidx (dev u d) zs = -1) (h2 : lk zs u d = t0) (h3 : ∀ p ∈ zs, dev u d p = false) : RUp A n c zs u d K w := by
  unfold RUp
  have H := Lib.hid h
  have HL := Lib.hid h.len
  have HC := Lib.hid (check11 A n c zs w h hn)
  have HV := Lib.hid (fun u' => names_any u d hu hd u')
  have HPl := Lib.hid (fun v (hb : Below w.heap.size w v) => place_any A n c zs u d v (H.out.below hb) hn)
  obtain ⟨i0, hi, hz0, hz1, hz2⟩ := info_parts info45
  have HI := Lib.hid (And.intro hi (And.intro hz0 (And.intro hz1 hz2)))
  clear h hi hz0 hz1 hz2
  have HK := Lib.hid (show chk zs zs.length = 0 by rw [HL.out]; exact hc)
  have HRt := Lib.hid (right_iff.1 HK.out)
  have HE := Lib.hid (show upE zs u d K = 0 by unfold upE; rw [if_pos HK.out, if_pos hok, if_neg (by omega), h2, if_neg (by show ¬ (200 < (0 : Int) + K ∨ 1000000000000 < (0 : Int) + K); omega)])
  have HPp := Lib.hid (show upP zs u d K = ⟨u, d, K, K⟩ by unfold upP; rw [h2]; show (⟨u, d, 0 + K, 0 + K⟩ : Rc) = _; rw [Int.zero_add])
  rw [hc] at HC
  rw [nmE_t hok] at HV
  rw [h1] at HPl
  have HD := Lib.hid h3
  rw [HE.out, HPp.out]
  clear hc hok h1 h2 h3
  have k1_ : ¬ K < 1 := by omega
  have k2_ : ¬ 100 < K := by omega
  go_enter Try.func13, Try.ntmps13
  go_wp2_with (first
    | (go_at_call 11; (with_reducible refine HC.out.mono ?_); rintro e w1 ⟨rfl, hb1⟩; have B1 := Lib.hid hb1; clear hb1)
    | (go_at_call 24; (with_reducible refine (HV.out _).mono ?_); rintro e w2 ⟨rfl, e2_⟩; subst e2_)
    | (go_at_call 28; (with_reducible refine (HPl.out _ B1.out).mono ?_); rintro e w2 ⟨rfl, e2_⟩; subst e2_)
    | go_in)
  go_loopg [13, 14] n (fun gg s13 s14 wr => ∃ (kk : Nat) (v : Value), kk ≤ n ∧ n - kk ≤ gg ∧ v = s13 ∧ s14 = .int .i64 kk ∧ Hid (wr.ownsRow w.heap.size 45 4 v kk (cl (zs.take kk))) ∧ Hid (∀ j, j < kk → ltR (zs.getD j t0) ⟨u, d, K, K⟩) ∧ Hid (Below w.heap.size w wr))
  case atStart => exact ⟨0, .slice none 0 0, Nat.zero_le _, by omega, rfl, rfl, Lib.hid (World.ownsRow_nil w1 _ 45 4), Lib.hid (fun j hj => absurd hj (Nat.not_lt_zero _)), B1⟩
  case round =>
    obtain ⟨kk, v, hkk, hg, rfl, rfl, HO, HJ, BW⟩ := hrel
    by_cases hlt : kk < n
    · have hltz : (kk : Int) < (n : Int) := by omega
      obtain ⟨b, off, eA, hbl, k0, k1, k2, k3, _⟩ := (H.out.below BW.out).at_ hlt
      have HNx := Lib.hid (show cl (zs.take kk) ++ enc (zs.getD kk t0) = cl (zs.take (kk + 1)) by rw [cl_snoc, List.take_succ_eq_append_getElem (by rw [HL.out]; exact hlt), getD_at (by rw [HL.out]; exact hlt)])
      have HB := Lib.hid (bef_iff (zs.getD kk t0) ⟨u, d, K, K⟩)
      have HAt := Lib.hid (show ∀ x, Below w.heap.size w x → ∃ b2 off2, A = some ⟨b2, off2, none⟩ ∧ x.cell? ⟨b2, off2 + kk * 4, none⟩ = some (.string (zs.getD kk t0).us) ∧ x.cell? ⟨b2, off2 + kk * 4 + 1, none⟩ = some (.string (zs.getD kk t0).dv) ∧ x.cell? ⟨b2, off2 + kk * 4 + 2, none⟩ = some (.int .i64 (zs.getD kk t0).nx) ∧ x.cell? ⟨b2, off2 + kk * 4 + 3, none⟩ = some (.int .i64 (zs.getD kk t0).lf) from fun x hb => by
        obtain ⟨b2, off2, e5, _, q0, q1, q2, q3, _⟩ := (H.out.below hb).at_ hlt
        exact ⟨b2, off2, e5, q0, q1, q2, q3⟩)
      generalize hz : zs.getD kk t0 = p at k0 k1 k2 k3 HNx HB HAt
      have HZ := Lib.hid hz
      subst eA
      clear hz
      have HBf := Lib.hid (fun x => before_any p u d x)
      cases hbf : bef p u d
      · rw [hbf] at HBf
        have HNl := Lib.hid (show ¬ ltR p ⟨u, d, K, K⟩ from fun hx => by have := HB.out.2 hx; rw [show bef p u d = _ from this] at hbf; cases hbf)
        clear hbf
        obtain ⟨FX, hFr, hFs⟩ : ∃ FX, (∀ w, (Instr.sliceAt 22 (.slice (some ⟨b, off, none⟩) n c) (some (.int .i64 (kk : Int))) none none).run Try.prog w = .ok (.slice FX (n - kk) (c - kk)) w) ∧ ∀ x, Below w.heap.size w x → Src x FX (n - kk) (c - kk) 4 (cl (zs.drop kk)) := ⟨_, run_fromA hkk, fun x hb => (H.out.below hb).dropSrc hkk⟩
        have rF' := hFr
        have RFs := Lib.hid (show ∀ x, Below w.heap.size w x → Src x FX (n - kk) (c - kk) 4 (cl (zs.drop kk)) from hFs)
        clear hFs
        go_wp2_with (first
          | (go_at_call 25; (with_reducible refine (HBf.out _).mono ?_); rintro e w3 ⟨rfl, hb3⟩; have B3 := Lib.hid (BW.out.trans (hb3.mono BW.out.size)); have O3 := Lib.hid (own_belowR HO.out hb3); clear hb3 k0 k1 k2 k3)
          | (at_builtin; refine wpList_append_any _ rfl _ _ 22 rfl w.heap.size 45 i0 _ 4 48 Try.underlying22 HI.out.1 HI.out.2.1 HI.out.2.2.1 HI.out.2.2.2 rfl (by decide) v kk (cl (zs.take kk)) rfl (O3.out.alloc _) (some ⟨w3.heap.size, 0, none⟩) 1 1 (enc ⟨u, d, K, K⟩) rfl (one_src w3 ⟨u, d, K, K⟩) (by unfold maxLen; omega) (by omega) (by have := B3.out.size; simp; omega) ?_; intro v4 w4 hgr; have B4 := Lib.hid (hgr.below (B3.out.alloc B3.out.size _) (O3.out.alloc _)); have O4 := Lib.hid hgr.own; clear hgr)
          | (at_builtin; refine wpList_append_any _ rfl _ _ 22 rfl w.heap.size 45 i0 _ 4 48 Try.underlying22 HI.out.1 HI.out.2.1 HI.out.2.2.1 HI.out.2.2.2 rfl (by decide) v4 (kk + 1) (cl (zs.take kk) ++ enc ⟨u, d, K, K⟩) rfl O4.out _ (n - kk) _ (cl (zs.drop kk)) rfl (RFs.out _ B4.out) (by unfold maxLen; omega) (by omega) B4.out.size ?_; intro v5 w5 hgr; have B5 := Lib.hid (hgr.below B4.out O4.out); have O5 := Lib.hid hgr.own; clear hgr)
          | go_in)
        go_ret2
        exact rup_end HRt.out.srt HL.out hn hkk hu hd H.out.fit HJ.out (fun _ => by rw [HZ.out]; exact HNl.out) HD.out (O5.out) B5.out
      · rw [hbf] at HBf
        have HYl := Lib.hid (show ltR p ⟨u, d, K, K⟩ from HB.out.1 hbf)
        clear hbf
        go_wp2_with (first
          | (go_at_call 25; (with_reducible refine (HBf.out _).mono ?_); rintro e w3 ⟨rfl, hb3⟩; have B3 := Lib.hid (BW.out.trans (hb3.mono BW.out.size)); have O3 := Lib.hid (own_belowR HO.out hb3); clear hb3 k0 k1 k2 k3; obtain ⟨b2, off2, e5, k0, k1, k2, k3⟩ := HAt.out _ B3.out; simp only [Option.some.injEq, Addr.mk.injEq, and_true] at e5; obtain ⟨rfl, rfl⟩ := e5)
          | (at_builtin; refine wpList_append_any _ rfl _ _ 22 rfl w.heap.size 45 i0 _ 4 48 Try.underlying22 HI.out.1 HI.out.2.1 HI.out.2.2.1 HI.out.2.2.2 rfl (by decide) v kk (cl (zs.take kk)) rfl (O3.out.alloc _) (some ⟨w3.heap.size, 0, none⟩) 1 1 (enc p) rfl (one_src w3 p) (by unfold maxLen; omega) (by omega) (by have := B3.out.size; simp; omega) ?_; intro v4 w4 hgr; have B4 := Lib.hid (hgr.below (B3.out.alloc B3.out.size _) (O3.out.alloc _)); have O4 := Lib.hid hgr.own; clear hgr)
          | go_in)
        go_roundg (n - (kk + 1))
        case measure => omega
        case rel =>
          refine ⟨kk + 1, v4, by omega, by omega, rfl, by go_num, Lib.hid (by rw [← HNx.out]; exact O4.out), Lib.hid (fun j hj => ?_), B4⟩
          by_cases e : j = kk
          · subst e; rw [HZ.out]; exact HYl.out
          · exact HJ.out j (by omega)
    · have hltz : ¬ (kk : Int) < (n : Int) := by omega
      obtain rfl : kk = n := by omega
      obtain ⟨FX, hFr, hFs⟩ : ∃ FX, (∀ w, (Instr.sliceAt 22 (.slice (A) kk c) (some (.int .i64 (kk : Int))) none none).run Try.prog w = .ok (.slice FX (kk - kk) (c - kk)) w) ∧ ∀ x, Below w.heap.size w x → Src x FX (kk - kk) (c - kk) 4 (cl (zs.drop kk)) := ⟨_, run_fromA hkk, fun x hb => (H.out.below hb).dropSrc hkk⟩
      have rF' := hFr
      have RFs := Lib.hid (show ∀ x, Below w.heap.size w x → Src x FX 0 (c - kk) 4 (cl (zs.drop kk)) from fun x hb => by have := hFs x hb; rwa [Nat.sub_self] at this)
      clear hFs
      go_wp2_with (first
        | (at_builtin; refine wpList_append_any _ rfl _ _ 22 rfl w.heap.size 45 i0 _ 4 48 Try.underlying22 HI.out.1 HI.out.2.1 HI.out.2.2.1 HI.out.2.2.2 rfl (by decide) v kk (cl (zs.take kk)) rfl (HO.out.alloc _) (some ⟨wr.heap.size, 0, none⟩) 1 1 (enc ⟨u, d, K, K⟩) rfl (one_src wr ⟨u, d, K, K⟩) (by unfold maxLen; omega) (by omega) (by have := BW.out.size; simp; omega) ?_; intro v4 w4 hgr; have B4 := Lib.hid (hgr.below (BW.out.alloc BW.out.size _) (HO.out.alloc _)); have O4 := Lib.hid hgr.own; clear hgr)
        | (at_builtin; refine wpList_append_any _ rfl _ _ 22 rfl w.heap.size 45 i0 _ 4 48 Try.underlying22 HI.out.1 HI.out.2.1 HI.out.2.2.1 HI.out.2.2.2 rfl (by decide) v4 (kk + 1) (cl (zs.take kk) ++ enc ⟨u, d, K, K⟩) rfl O4.out _ 0 _ (cl (zs.drop kk)) rfl (RFs.out _ B4.out) (by unfold maxLen; omega) (by omega) B4.out.size ?_; intro v5 w5 hgr; have B5 := Lib.hid (hgr.below B4.out O4.out); have O5 := Lib.hid hgr.own; clear hgr)
        | go_in)
      go_ret2
      exact rup_end HRt.out.srt HL.out hn hkk hu hd H.out.fit HJ.out (fun hx => absurd hx (by rw [HL.out]; omega)) HD.out (by rw [Nat.sub_self]; exact O5.out) B5.out
theorem rupload_any (A : Option Addr) (n c : Nat) (zs : List Rc) (u d : ByteArray) (K : Int) (w : World) (h : Rcs w A n c zs) (hn : n ≤ 900000) (hu : u.size ≤ 9223372036854775807) (hd : d.size ≤ 9223372036854775807) : RUp A n c zs u d K w := by
  by_cases hb : chk zs n = 0 ∧ okO u d = true ∧ 1 ≤ K ∧ K ≤ 100
  · obtain ⟨hc, hok, hK⟩ := hb
    rcases lk_fidx zs u d with ⟨h1, h2, h3⟩ | ⟨k, hk, h1, h2, h3⟩
    · exact rup_new A n c zs u d K w h hn hu hd hc hok hK h1 h2 h3
    · exact rup_old A n c zs u d K w h hn hu hd hc hok hK k hk h1 h2 h3
  · exact rup_bad A n c zs u d K w h hn hu hd hb
end Go.Proofs.Ytkmocchikgmnbaa
