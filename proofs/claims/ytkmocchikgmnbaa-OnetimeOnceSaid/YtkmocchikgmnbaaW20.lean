/- One-time keys: Low of the program and of the reference. Bound: at most 900000 entries. -/
import Derived.Test.YtkmocchikgmnbaaW19
namespace Go.Proofs.Ytkmocchikgmnbaa
open Go.RowKit
set_option linter.unusedVariables false
set_option linter.unusedSimpArgs false

/-- An entry of which at least x keys are left. -/
def lo (x : Int) (p : Rc) : Bool := decide (x ≤ p.lf)
theorem pred31 (p : Rc) (x : Int) (cb : Nat) (w : World) (hlt : cb < w.heap.size) (hc : w.cell? ⟨cb, 0, none⟩ = some (.int .i64 x)) :
    Calls Try.prog 31 #[.agg #[.string p.us, .string p.dv, .int .i64 p.nx, .int .i64 p.lf], .pointer (some ⟨cb, 0, none⟩)] w fun e w' => e = .returned (.bool (lo x p)) ∧ Below w.heap.size w w' := by
  have hne : cb ≠ w.heap.size := by omega
  have HW := Lib.hid (Below.alloc (Below.refl w.heap.size w) (Nat.le_refl _) (.cells #[.string p.us, .string p.dv, .int .i64 p.nx, .int .i64 p.lf] 45))
  go_enter Try.func31, Try.ntmps31
  go_wp2
  all_goals (go_ret; exact ⟨rfl, HW.out⟩)
set_option maxRecDepth 100000 in
set_option maxHeartbeats 1000000 in
theorem delete_nil (q : Rc → Bool) (cb B : Nat) (w : World) (hBw : B ≤ w.heap.size)
    (hp : ∀ (p : Rc) (u : World), Below B w u → Calls Try.prog 31 #[.agg #[.string p.us, .string p.dv, .int .i64 p.nx, .int .i64 p.lf], .pointer (some ⟨cb, 0, none⟩)] u fun e w' => e = .returned (.bool (q p)) ∧ Below u.heap.size u w') :
    Calls Try.prog 29 #[.slice none 0 0, .func (.func 31) #[] #[.pointer (some ⟨cb, 0, none⟩)]] w (FilP B w []) := by
  have HI := Lib.hid (index31 q cb none 0 0 [] w (Rcs.nil w) (fun p u hu => hp p u (hu.mono hBw)))
  rw [show fidx q [] = -1 from rfl] at HI
  clear hp
  go_enter Try.func29, Try.ntmps29
  go_wp2_with (go_at_call 38; (with_reducible refine HI.out.mono ?_); rintro e w' ⟨rfl, hb'⟩)
  go_ret
  exact ⟨none, 0, rfl, Rcs.nil _, hb'.mono hBw, fun b off e => by cases e⟩
theorem delete_own (q : Rc → Bool) (cb : Nat) (A : Option Addr) (n c B : Nat) (zs : List Rc) (w : World) (ho : w.ownsRow B 45 4 (.slice A n c) n (cl zs)) (hl : zs.length = n) (hn : n ≤ 1000000) (hBw : B ≤ w.heap.size) (hf : ∀ p ∈ zs, fitR p)
    (hp : ∀ (p : Rc) (u : World), Below B w u → Calls Try.prog 31 #[.agg #[.string p.us, .string p.dv, .int .i64 p.nx, .int .i64 p.lf], .pointer (some ⟨cb, 0, none⟩)] u fun e w' => e = .returned (.bool (q p)) ∧ Below u.heap.size u w') :
    Calls Try.prog 29 #[.slice A n c, .func (.func 31) #[] #[.pointer (some ⟨cb, 0, none⟩)]] w (FilP B w (zs.filter fun p => !q p)) := by
  rcases ho.2 with ⟨hv, h0⟩ | ⟨g, cap, cur, hv, hB, hg, hnc, hcm, hs, ht⟩
  · cases hv
    obtain rfl : zs = [] := List.eq_nil_of_length_eq_zero (by omega)
    exact delete_nil q cb B w hBw hp
  · cases hv
    have hblk : Blk w g cur.toList 45 := ⟨by rw [Array.toArray_toList]; exact hg⟩
    obtain ⟨R, hR⟩ : ∃ R, cur.toList = cl zs ++ R := ⟨cur.toList.drop (n * 4), by rw [← ht, List.take_append_drop]⟩
    have hlen : c * 4 = (cl zs ++ R).length := by rw [← hR, Array.length_toList]; exact hs.symm
    rw [hR] at hblk
    exact delete31 q cb g n c B R zs w hblk hnc (by omega) hl hn hB hf hp
set_option maxRecDepth 100000 in
set_option maxHeartbeats 1000000 in
theorem low_any (A : Option Addr) (n c : Nat) (zs : List Rc) (x : Int) (w : World) (h : Rcs w A n c zs) (hn : n ≤ 900000) : Calls Try.prog 19 #[.slice A n c, .int .i64 x] w (FilP w.heap.size w (zs.filter fun p => !lo x p)) := by
  have H := Lib.hid h
  have BA := Lib.hid ((Below.refl _ w).alloc (Nat.le_refl _) (.cells #[.int .i64 x] 3))
  have C0 := Lib.hid ((blk_new w [.int .i64 x] 3).cell (i := 0) rfl)
  have hsz : w.heap.size < (w.alloc (.cells #[.int .i64 x] 3)).heap.size := by simp
  have HSz := Lib.hid hsz
  clear h hsz
  go_enter Try.func19, Try.ntmps19
  go_wp2_with (first
    | (go_at_call 30; (with_reducible refine (clone30 A n c (rowR zs) _ (H.out.below BA.out).rws (by omega)).mono ?_); rintro e w1 ⟨A1, c1, rfl, hc1⟩; have B1 := Lib.hid (BA.out.trans (hc1.bel.mono BA.out.size)); have C1 := Lib.hid ((hc1.bel.cell (p := ⟨w.heap.size, 0, none⟩) HSz.out).trans C0.out); have HO := Lib.hid (show w1.ownsRow (w.heap.size + 1) 45 4 (.slice A1 n c1) n (cl zs) by have h1 := hc1.own; rw [← H.out.len, flat_cl, H.out.len] at h1; exact own_mono h1 HSz.out); have hz1 : w.heap.size + 1 ≤ w1.heap.size := Nat.le_trans HSz.out hc1.bel.size; have HD := Lib.hid (delete_own (lo x) w.heap.size A1 n c1 (w.heap.size + 1) zs w1 HO.out H.out.len (by omega) hz1 H.out.fit (fun p u hu => pred31 p x w.heap.size u (Nat.lt_of_lt_of_le (Nat.lt_succ_self _) (Nat.le_trans hz1 hu.size)) ((hu.cell (p := ⟨w.heap.size, 0, none⟩) (Nat.lt_succ_self _)).trans C1.out))); clear hc1 hz1)
    | (go_at_call 29; (with_reducible refine HD.out.mono ?_); rintro e w2 ⟨A2, c2, rfl, hT, hb2, hap⟩; have P2 := Lib.hid hap; clear hap; have T2 := Lib.hid hT; have B2 := Lib.hid (B1.out.trans (hb2.mono (Nat.le_succ _))); clear hT hb2))
  go_ret
  exact ⟨A2, c2, rfl, T2.out, B2.out, fun b off e => Nat.le_of_succ_le (P2.out b off e)⟩
theorem own_next {w : World} {B : Nat} {v : Value} {q : Rc → Bool} {zs : List Rc} {kk : Nat} (hj : kk < zs.length) (hq : q (zs.getD kk t0) = true)
    (h : w.ownsRow B 45 4 v (((zs.take kk).filter q).length + 1) (cl ((zs.take kk).filter q) ++ enc (zs.getD kk t0))) : w.ownsRow B 45 4 v ((zs.take (kk + 1)).filter q).length (cl ((zs.take (kk + 1)).filter q)) := by
  rw [filter_step hj, hq, if_pos rfl, List.length_append, List.length_singleton, ← cl_snoc]
  exact h
theorem own_stay {q : Rc → Bool} {zs : List Rc} {kk : Nat} (hj : kk < zs.length) (hq : q (zs.getD kk t0) = false) : (zs.take (kk + 1)).filter q = (zs.take kk).filter q := by
  rw [filter_step hj, hq]
  simp
theorem len_next {q : Rc → Bool} {zs : List Rc} {kk : Nat} (hj : kk < zs.length) (hq : q (zs.getD kk t0) = true) : ((zs.take (kk + 1)).filter q).length = ((zs.take kk).filter q).length + 1 := by
  rw [filter_step hj, hq, if_pos rfl, List.length_append, List.length_singleton]
set_option maxRecDepth 100000 in
set_option maxHeartbeats 2000000 in
theorem rlow_any (A : Option Addr) (n c : Nat) (zs : List Rc) (x : Int) (w : World) (h : Rcs w A n c zs) (hn : n ≤ 900000) : Calls Try.prog 20 #[.slice A n c, .int .i64 x] w (FilP w.heap.size w (zs.filter fun p => !lo x p)) := by
  have H := Lib.hid h
  have HL := Lib.hid h.len
  obtain ⟨i0, hi, hz0, hz1, hz2⟩ := info_parts info45
  have HI := Lib.hid (And.intro hi (And.intro hz0 (And.intro hz1 hz2)))
  clear h hi hz0 hz1 hz2
  obtain ⟨q, hqd⟩ : ∃ q : Rc → Bool, q = fun p => !lo x p := ⟨_, rfl⟩
  have HQD := Lib.hid hqd
  rw [← hqd]
  clear hqd
  go_enter Try.func20, Try.ntmps20
  go_wp2
  go_loopg [5, 6] n (fun gg s5 s6 wr => ∃ (kk m : Nat) (v : Value) (acc : List Rc), kk ≤ n ∧ n - kk ≤ gg ∧ m ≤ kk ∧ v = s5 ∧ s6 = .int .i64 kk ∧ Hid (acc = (zs.take kk).filter q) ∧ Hid (acc.length = m) ∧ Hid (wr.ownsRow w.heap.size 45 4 v m (cl acc)) ∧ Hid (Below w.heap.size w wr))
  case atStart => exact ⟨0, 0, .slice none 0 0, [], Nat.zero_le _, by omega, Nat.le_refl _, rfl, rfl, Lib.hid (by rw [List.take_zero]; rfl), Lib.hid rfl, Lib.hid (World.ownsRow_nil w _ 45 4), Lib.hid (Below.refl _ _)⟩
  case round =>
    obtain ⟨kk, m, v, acc, hkk, hg, hmk, rfl, rfl, HA, HM, HO, BW⟩ := hrel
    by_cases hlt : kk < n
    · have hltz : (kk : Int) < (n : Int) := by omega
      obtain ⟨b, off, rfl, hbl, k0, k1, k2, k3, hfit⟩ := (H.out.below BW.out).at_ hlt
      have HN := Lib.hid (fun B v w3 => own_next (w := w3) (B := B) (v := v) (q := q) (zs := zs) (kk := kk) (by rw [HL.out]; exact hlt))
      have HLn := Lib.hid (len_next (q := q) (zs := zs) (kk := kk) (by rw [HL.out]; exact hlt))
      have HS := Lib.hid (own_stay (q := q) (zs := zs) (kk := kk) (by rw [HL.out]; exact hlt))
      have HP := Lib.hid (show q (zs.getD kk t0) = !lo x (zs.getD kk t0) by rw [HQD.out])
      generalize zs.getD kk t0 = p at k0 k1 k2 k3 hfit HN HS HP HLn
      by_cases hq : p.lf < x
      · have HV := Lib.hid (show q p = true by rw [HP.out]; unfold lo; rw [decide_eq_false (by omega)]; rfl)
        go_wp2_with (at_builtin; refine wpList_append_any _ rfl (.tmp 20) (.tmp 25) 22 rfl w.heap.size 45 i0 _ 4 48 Try.underlying22 HI.out.1 HI.out.2.1 HI.out.2.2.1 HI.out.2.2.2 rfl (by decide) v m (cl acc) rfl (HO.out.alloc _) (some ⟨wr.heap.size, 0, none⟩) 1 1 (enc p) rfl (one_src wr p) (by unfold maxLen; omega) (by omega) (by have := BW.out.size; simp; omega) ?_; intro v3 w3 hgr; have B3 := Lib.hid (hgr.below (BW.out.alloc BW.out.size _) (HO.out.alloc _)); have O3 := Lib.hid hgr.own; clear hgr)
        go_roundg (n - (kk + 1))
        case measure => omega
        case rel =>
          refine ⟨kk + 1, m + 1, v3, (zs.take (kk + 1)).filter q, by omega, by omega, by omega, rfl, by go_num, Lib.hid rfl, Lib.hid ?_, Lib.hid ?_, B3⟩
          · rw [HLn.out HV.out, ← HA.out, HM.out]
          · have h2 := O3.out
            have h3 := HN.out w.heap.size v3 w3 HV.out (by rw [← HA.out, HM.out]; exact h2)
            rw [HLn.out HV.out, ← HA.out, HM.out] at h3
            exact h3
      · have HV := Lib.hid (show q p = false by rw [HP.out]; unfold lo; rw [decide_eq_true (by omega)]; rfl)
        go_wp2
        go_roundg (n - (kk + 1))
        case measure => omega
        case rel => exact ⟨kk + 1, m, v, acc, by omega, by omega, by omega, rfl, by go_num, Lib.hid (by rw [HS.out HV.out]; exact HA.out), HM, HO, BW⟩
    · have hltz : ¬ (kk : Int) < (n : Int) := by omega
      obtain rfl : kk = n := by omega
      have HF := Lib.hid (show acc = zs.filter q by rw [HA.out, List.take_of_length_le (by rw [HL.out]; exact Nat.le_refl _)])
      obtain ⟨A2, c2, rfl, hT, hap⟩ := Rcs.ofOwn HO.out HM.out (by omega) (fun p hp => H.out.fit p (by rw [HF.out] at hp; exact (List.mem_filter.1 hp).1))
      have T2 := Lib.hid hT
      have P2 := Lib.hid hap
      clear hT hap
      go_wp2
      go_ret
      have e1 := HF.out
      have e2 := HM.out
      subst e1
      exact ⟨A2, c2, ret_slice e2.symm, e2 ▸ T2.out, BW.out, P2.out⟩
end Go.Proofs.Ytkmocchikgmnbaa
