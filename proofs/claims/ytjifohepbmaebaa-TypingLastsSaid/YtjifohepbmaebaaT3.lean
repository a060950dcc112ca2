/- Who types: copied, Stop, Clean of the program and of the reference; equal lists are the same. Bound: at most 1000000 records. -/
import Derived.Test.YtjifohepbmaebaaT2
import Derived.Deep.QuietTactic
import Derived.BigQuiet
import Derived.WalkSmall
namespace Go.Proofs.Ytjifohepbmaebaa
open Go.RowKit
set_option linter.unusedVariables false

def CopP (w : World) (n : Nat) (zs : List Tp) (e : Ending) (w' : World) : Prop := ∃ g, e = .returned (.slice (some ⟨g, 0, none⟩) n n) ∧ Blk w' g (cl zs) 44 ∧ w.heap.size ≤ g ∧ Below w.heap.size w w'
set_option maxHeartbeats 1000000 in
theorem copied30 (A : Option Addr) (n c : Nat) (zs : List Tp) (w : World) (h : Tps w A n c zs) (hn : n ≤ 1000000) : Calls Try.prog 30 #[.slice A n c] w (CopP w n zs) := by
  have H := Lib.hid h
  clear h
  go_enter Try.func30, Try.ntmps30
  go_wp2_with (first
    | (refine wpList_make_blk rfl (l := .tmp 5) rfl n rfl hn ?_; intro w1 cur hb1 hl1 hbel1 hlt1; have X1 := Lib.hid hb1; have L1 := Lib.hid hl1; have B1 := Lib.hid hbel1; clear hb1 hl1 hbel1)
    | (refine wpList_copy_blk rfl (.tmp 7) (.tmp 8) rfl w.heap.size n c A cur zs rfl rfl X1.out L1.out (H.out.below B1.out) w.heap.size w B1.out (Nat.le_refl _) ?_; intro w2 hb2 hbel2; have X2 := Lib.hid hb2; have B2 := Lib.hid hbel2; clear hb2 hbel2))
  go_ret
  exact ⟨w.heap.size, rfl, X2.out, Nat.le_refl _, B2.out⟩
theorem two_src (w : World) (p : Tp) : Src (w.alloc (.cells #[.string p.1, .int .i64 p.2] 44)) (some ⟨w.heap.size, 0, none⟩) 1 1 2 [.string p.1, .int .i64 p.2] := by
  refine ⟨rfl, (fun h => by cases h), .inr ⟨w.heap.size, 0, rfl, by simp, fun j u hu => ?_⟩, by simp [Value.oneCell']⟩
  rw [Nat.zero_add]
  exact (blk_new w [.string p.1, .int .i64 p.2] 44).cell hu
theorem own_next {w : World} {B : Nat} {v : Value} {q : Tp → Bool} {zs : List Tp} {kk : Nat} (hj : kk < zs.length) (hq : q (zs.getD kk t0) = true)
    (h : w.ownsRow B 44 2 v (((zs.take kk).filter q).length + 1) (cl ((zs.take kk).filter q) ++ [.string (zs.getD kk t0).1, .int .i64 (zs.getD kk t0).2])) : w.ownsRow B 44 2 v ((zs.take (kk + 1)).filter q).length (cl ((zs.take (kk + 1)).filter q)) := by
  rw [filter_step hj, hq, if_pos rfl, List.length_append, List.length_singleton, ← cl_snoc]
  exact h
theorem own_stay {q : Tp → Bool} {zs : List Tp} {kk : Nat} (hj : kk < zs.length) (hq : q (zs.getD kk t0) = false) : (zs.take (kk + 1)).filter q = (zs.take kk).filter q := by
  rw [filter_step hj, hq]
  simp
theorem len_next {q : Tp → Bool} {zs : List Tp} {kk : Nat} (hj : kk < zs.length) (hq : q (zs.getD kk t0) = true) : ((zs.take (kk + 1)).filter q).length = ((zs.take kk).filter q).length + 1 := by
  rw [filter_step hj, hq, if_pos rfl, List.length_append, List.length_singleton]
theorem filter_bound (q : Tp → Bool) (zs : List Tp) (k : Nat) : ((zs.take k).filter q).length ≤ k := Nat.le_trans (List.length_filter_le _ _) (List.length_take_le _ _)
set_option maxHeartbeats 1000000 in
theorem stop16 (A : Option Addr) (n c : Nat) (zs : List Tp) (x : ByteArray) (w : World) (h : Tps w A n c zs) (hn : n ≤ 1000000) : Calls Try.prog 16 #[.slice A n c, .string x] w (FilP w.heap.size w (zs.filter fun p => !pu x p)) := by
  have H := Lib.hid h
  have BA := Lib.hid ((Below.refl _ w).alloc (Nat.le_refl _) (.cells #[.string x] 9))
  have C0 := Lib.hid ((blk_new w [.string x] 9).cell (i := 0) rfl)
  have hsz : w.heap.size < (w.alloc (.cells #[.string x] 9)).heap.size := by simp
  have HSz := Lib.hid hsz
  clear h hsz
  go_enter Try.func16, Try.ntmps16
  go_wp2_with (first
    | (go_at_call 30; (with_reducible refine (copied30 A n c zs _ (H.out.below BA.out) hn).mono ?_); rintro e w1 ⟨g, rfl, hX, hg, hb⟩; have B1 := Lib.hid (BA.out.trans (hb.mono BA.out.size)); have C1 := Lib.hid ((hb.cell (p := ⟨w.heap.size, 0, none⟩) HSz.out).trans C0.out); have HD := Lib.hid (delete31 (pu x) w.heap.size g n (w.heap.size + 1) zs w1 hX H.out.len hn (Nat.lt_of_lt_of_le HSz.out hg) H.out.fit (fun p u hu => pred31 p x w.heap.size u (Nat.lt_of_lt_of_le (Nat.lt_of_lt_of_le HSz.out hb.size) hu.size) ((hu.cell (p := ⟨w.heap.size, 0, none⟩) (Nat.lt_succ_self _)).trans C1.out))); clear hX hg hb)
    | (go_at_call 29; (with_reducible refine HD.out.mono ?_); rintro e w2 ⟨A2, c2, rfl, hT, hb2, hap⟩; have P2 := Lib.hid hap; clear hap; have T2 := Lib.hid hT; have B2 := Lib.hid (B1.out.trans (hb2.mono (Nat.le_succ _))); clear hT hb2))
  go_ret
  exact ⟨A2, c2, rfl, T2.out, B2.out, fun b off e => Nat.le_of_succ_le (P2.out b off e)⟩
set_option maxHeartbeats 1000000 in
theorem clean18 (A : Option Addr) (n c : Nat) (zs : List Tp) (x : Int) (w : World) (h : Tps w A n c zs) (hn : n ≤ 1000000) : Calls Try.prog 18 #[.slice A n c, .int .i64 x] w (FilP w.heap.size w (zs.filter fun p => !pc x p)) := by
  have H := Lib.hid h
  have BA := Lib.hid ((Below.refl _ w).alloc (Nat.le_refl _) (.cells #[.int .i64 x] 3))
  have C0 := Lib.hid ((blk_new w [.int .i64 x] 3).cell (i := 0) rfl)
  have hsz : w.heap.size < (w.alloc (.cells #[.int .i64 x] 3)).heap.size := by simp
  have HSz := Lib.hid hsz
  clear h hsz
  go_enter Try.func18, Try.ntmps18
  go_wp2_with (first
    | (go_at_call 30; (with_reducible refine (copied30 A n c zs _ (H.out.below BA.out) hn).mono ?_); rintro e w1 ⟨g, rfl, hX, hg, hb⟩; have B1 := Lib.hid (BA.out.trans (hb.mono BA.out.size)); have C1 := Lib.hid ((hb.cell (p := ⟨w.heap.size, 0, none⟩) HSz.out).trans C0.out); have HD := Lib.hid (delete32 (pc x) w.heap.size g n (w.heap.size + 1) zs w1 hX H.out.len hn (Nat.lt_of_lt_of_le HSz.out hg) H.out.fit (fun p u hu => pred32 p x w.heap.size u (Nat.lt_of_lt_of_le (Nat.lt_of_lt_of_le HSz.out hb.size) hu.size) ((hu.cell (p := ⟨w.heap.size, 0, none⟩) (Nat.lt_succ_self _)).trans C1.out))); clear hX hg hb)
    | (go_at_call 29; (with_reducible refine HD.out.mono ?_); rintro e w2 ⟨A2, c2, rfl, hT, hb2, hap⟩; have P2 := Lib.hid hap; clear hap; have T2 := Lib.hid hT; have B2 := Lib.hid (B1.out.trans (hb2.mono (Nat.le_succ _))); clear hT hb2))
  go_ret
  exact ⟨A2, c2, rfl, T2.out, B2.out, fun b off e => Nat.le_of_succ_le (P2.out b off e)⟩
set_option maxRecDepth 100000 in
set_option maxHeartbeats 2000000 in
theorem rstop17 (A : Option Addr) (n c : Nat) (zs : List Tp) (x : ByteArray) (w : World) (h : Tps w A n c zs) (hn : n ≤ 1000000) : Calls Try.prog 17 #[.slice A n c, .string x] w (FilP w.heap.size w (zs.filter fun p => !pu x p)) := by
  have H := Lib.hid h
  have HL := Lib.hid h.len
  obtain ⟨i0, hi, hz0, hz1, hz2⟩ := info_parts info44
  have HI := Lib.hid (And.intro hi (And.intro hz0 (And.intro hz1 hz2)))
  clear h hi hz0 hz1 hz2
  obtain ⟨q, hqd⟩ : ∃ q : Tp → Bool, q = fun p => !pu x p := ⟨_, rfl⟩
  have HQD := Lib.hid hqd
  rw [← hqd]
  clear hqd
  go_enter Try.func17, Try.ntmps17
  go_wp2
  go_loopg [5, 6] n (fun gg s5 s6 wr => ∃ (kk m : Nat) (v : Value) (acc : List Tp), kk ≤ n ∧ n - kk ≤ gg ∧ m ≤ kk ∧ v = s5 ∧ s6 = .int .i64 kk ∧ Hid (acc = (zs.take kk).filter q) ∧ Hid (acc.length = m) ∧ Hid (wr.ownsRow w.heap.size 44 2 v m (cl acc)) ∧ Hid (Below w.heap.size w wr))
  case atStart => exact ⟨0, 0, .slice none 0 0, [], Nat.zero_le _, by omega, Nat.le_refl _, rfl, rfl, Lib.hid (by rw [List.take_zero]; rfl), Lib.hid rfl, Lib.hid (World.ownsRow_nil w _ 44 2), Lib.hid (Below.refl _ _)⟩
  case round =>
    obtain ⟨kk, m, v, acc, hkk, hg, hmk, rfl, rfl, HA, HM, HO, BW⟩ := hrel
    by_cases hlt : kk < n
    · have hltz : (kk : Int) < (n : Int) := by omega
      obtain ⟨b, off, rfl, hbl, k0, k1, _⟩ := (H.out.below BW.out).get hlt
      have HN := Lib.hid (fun B v w3 => own_next (w := w3) (B := B) (v := v) (q := q) (zs := zs) (kk := kk) (by rw [HL.out]; exact hlt))
      have HLn := Lib.hid (len_next (q := q) (zs := zs) (kk := kk) (by rw [HL.out]; exact hlt))
      have HS := Lib.hid (own_stay (q := q) (zs := zs) (kk := kk) (by rw [HL.out]; exact hlt))
      have HP := Lib.hid (show q (zs.getD kk t0) = !pu x (zs.getD kk t0) by rw [HQD.out])
      generalize zs.getD kk t0 = p at k0 k1 HN HS HP HLn
      cases hq : pu x p
      · have HV := Lib.hid (show q p = true by rw [HP.out, hq]; rfl)
        have hs : (p.1.toList == x.toList) = false := hq
        clear hq
        go_wp2_with (at_builtin; refine wpList_append_any _ rfl (.tmp 20) (.tmp 25) 22 rfl w.heap.size 44 i0 _ 2 24 Try.underlying22 HI.out.1 HI.out.2.1 HI.out.2.2.1 HI.out.2.2.2 rfl (by decide) v m (cl acc) rfl (HO.out.alloc _) (some ⟨wr.heap.size, 0, none⟩) 1 1 [.string p.1, .int .i64 p.2] rfl (two_src wr p) (by unfold maxLen; omega) (by omega) (by have := BW.out.size; simp; omega) ?_; intro v3 w3 hgr; have B3 := Lib.hid (hgr.below (BW.out.alloc BW.out.size _) (HO.out.alloc _)); have O3 := Lib.hid hgr.own; clear hgr)
        go_roundg (n - (kk + 1))
        case measure => omega
        case rel =>
          refine ⟨kk + 1, m + 1, v3, (zs.take (kk + 1)).filter q, by omega, by omega, by omega, rfl, by go_num, Lib.hid rfl, Lib.hid ?_, Lib.hid ?_, B3⟩
          · rw [HLn.out HV.out, ← HA.out, HM.out]
          · have h2 := O3.out
            have h3 := HN.out w.heap.size v3 w3 HV.out (by rw [← HA.out, HM.out]; exact h2)
            rw [HLn.out HV.out, ← HA.out, HM.out] at h3
            exact h3
      · have HV := Lib.hid (show q p = false by rw [HP.out, hq]; rfl)
        have hs : (p.1.toList == x.toList) = true := hq
        clear hq
        go_wp2
        go_roundg (n - (kk + 1))
        case measure => omega
        case rel => exact ⟨kk + 1, m, v, acc, by omega, by omega, by omega, rfl, by go_num, Lib.hid (by rw [HS.out HV.out]; exact HA.out), HM, HO, BW⟩
    · have hltz : ¬ (kk : Int) < (n : Int) := by omega
      obtain rfl : kk = n := by omega
      have HF := Lib.hid (show acc = zs.filter q by rw [HA.out, List.take_of_length_le (by rw [HL.out]; exact Nat.le_refl _)])
      obtain ⟨A2, c2, rfl, hT, hap⟩ := Tps.ofOwn HO.out HM.out (by omega) (fun p hp => H.out.fit p (by rw [HF.out] at hp; exact (List.mem_filter.1 hp).1))
      have T2 := Lib.hid hT
      have P2 := Lib.hid hap
      clear hT hap
      go_wp2
      go_ret
      have e1 := HF.out
      have e2 := HM.out
      subst e1
      exact ⟨A2, c2, ret_slice e2.symm, e2 ▸ T2.out, BW.out, P2.out⟩
set_option maxRecDepth 100000 in
set_option maxHeartbeats 2000000 in
theorem rclean19 (A : Option Addr) (n c : Nat) (zs : List Tp) (x : Int) (w : World) (h : Tps w A n c zs) (hn : n ≤ 1000000) : Calls Try.prog 19 #[.slice A n c, .int .i64 x] w (FilP w.heap.size w (zs.filter fun p => !pc x p)) := by
  have H := Lib.hid h
  have HL := Lib.hid h.len
  obtain ⟨i0, hi, hz0, hz1, hz2⟩ := info_parts info44
  have HI := Lib.hid (And.intro hi (And.intro hz0 (And.intro hz1 hz2)))
  clear h hi hz0 hz1 hz2
  obtain ⟨q, hqd⟩ : ∃ q : Tp → Bool, q = fun p => !pc x p := ⟨_, rfl⟩
  have HQD := Lib.hid hqd
  rw [← hqd]
  clear hqd
  go_enter Try.func19, Try.ntmps19
  go_wp2
  go_loopg [5, 6] n (fun gg s5 s6 wr => ∃ (kk m : Nat) (v : Value) (acc : List Tp), kk ≤ n ∧ n - kk ≤ gg ∧ m ≤ kk ∧ v = s5 ∧ s6 = .int .i64 kk ∧ Hid (acc = (zs.take kk).filter q) ∧ Hid (acc.length = m) ∧ Hid (wr.ownsRow w.heap.size 44 2 v m (cl acc)) ∧ Hid (Below w.heap.size w wr))
  case atStart => exact ⟨0, 0, .slice none 0 0, [], Nat.zero_le _, by omega, Nat.le_refl _, rfl, rfl, Lib.hid (by rw [List.take_zero]; rfl), Lib.hid rfl, Lib.hid (World.ownsRow_nil w _ 44 2), Lib.hid (Below.refl _ _)⟩
  case round =>
    obtain ⟨kk, m, v, acc, hkk, hg, hmk, rfl, rfl, HA, HM, HO, BW⟩ := hrel
    by_cases hlt : kk < n
    · have hltz : (kk : Int) < (n : Int) := by omega
      obtain ⟨b, off, rfl, hbl, k0, k1, _⟩ := (H.out.below BW.out).get hlt
      have HN := Lib.hid (fun B v w3 => own_next (w := w3) (B := B) (v := v) (q := q) (zs := zs) (kk := kk) (by rw [HL.out]; exact hlt))
      have HLn := Lib.hid (len_next (q := q) (zs := zs) (kk := kk) (by rw [HL.out]; exact hlt))
      have HS := Lib.hid (own_stay (q := q) (zs := zs) (kk := kk) (by rw [HL.out]; exact hlt))
      have HP := Lib.hid (show q (zs.getD kk t0) = !pc x (zs.getD kk t0) by rw [HQD.out])
      generalize zs.getD kk t0 = p at k0 k1 HN HS HP HLn
      cases hq : pc x p
      · have HV := Lib.hid (show q p = true by rw [HP.out, hq]; rfl)
        have hs : x < p.2 := by unfold pc at hq; simpa using hq
        clear hq
        go_wp2_with (at_builtin; refine wpList_append_any _ rfl (.tmp 20) (.tmp 25) 22 rfl w.heap.size 44 i0 _ 2 24 Try.underlying22 HI.out.1 HI.out.2.1 HI.out.2.2.1 HI.out.2.2.2 rfl (by decide) v m (cl acc) rfl (HO.out.alloc _) (some ⟨wr.heap.size, 0, none⟩) 1 1 [.string p.1, .int .i64 p.2] rfl (two_src wr p) (by unfold maxLen; omega) (by omega) (by have := BW.out.size; simp; omega) ?_; intro v3 w3 hgr; have B3 := Lib.hid (hgr.below (BW.out.alloc BW.out.size _) (HO.out.alloc _)); have O3 := Lib.hid hgr.own; clear hgr)
        go_roundg (n - (kk + 1))
        case measure => omega
        case rel =>
          refine ⟨kk + 1, m + 1, v3, (zs.take (kk + 1)).filter q, by omega, by omega, by omega, rfl, by go_num, Lib.hid rfl, Lib.hid ?_, Lib.hid ?_, B3⟩
          · rw [HLn.out HV.out, ← HA.out, HM.out]
          · have h2 := O3.out
            have h3 := HN.out w.heap.size v3 w3 HV.out (by rw [← HA.out, HM.out]; exact h2)
            rw [HLn.out HV.out, ← HA.out, HM.out] at h3
            exact h3
      · have HV := Lib.hid (show q p = false by rw [HP.out, hq]; rfl)
        have hs : p.2 ≤ x := by unfold pc at hq; simpa using hq
        clear hq
        go_wp2
        go_roundg (n - (kk + 1))
        case measure => omega
        case rel => exact ⟨kk + 1, m, v, acc, by omega, by omega, by omega, rfl, by go_num, Lib.hid (by rw [HS.out HV.out]; exact HA.out), HM, HO, BW⟩
    · have hltz : ¬ (kk : Int) < (n : Int) := by omega
      obtain rfl : kk = n := by omega
      have HF := Lib.hid (show acc = zs.filter q by rw [HA.out, List.take_of_length_le (by rw [HL.out]; exact Nat.le_refl _)])
      obtain ⟨A2, c2, rfl, hT, hap⟩ := Tps.ofOwn HO.out HM.out (by omega) (fun p hp => H.out.fit p (by rw [HF.out] at hp; exact (List.mem_filter.1 hp).1))
      have T2 := Lib.hid hT
      have P2 := Lib.hid hap
      clear hT hap
      go_wp2
      go_ret
      have e1 := HF.out
      have e2 := HM.out
      subst e1
      exact ⟨A2, c2, ret_slice e2.symm, e2 ▸ T2.out, BW.out, P2.out⟩
set_option maxHeartbeats 1000000 in
theorem same15 (A1 A2 : Option Addr) (n c1 c2 : Nat) (zs : List Tp) (w : World) (h1 : Tps w A1 n c1 zs) (h2 : Tps w A2 n c2 zs) :
    Calls Try.prog 15 #[.slice A1 n c1, .slice A2 n c2] w fun e w' => e = .returned (.bool true) ∧ Below w.heap.size w w' := by
  have H1 := Lib.hid h1
  have H2 := Lib.hid h2
  have hbig := h1.rws.big
  unfold maxLen at hbig
  clear h1 h2
  go_enter Try.func15, Try.ntmps15
  go_wp2
  go_loopg [5] n (fun gg s5 wr => ∃ kk : Nat, kk ≤ n ∧ n - kk ≤ gg ∧ s5 = .int .i64 kk ∧ Hid (Below w.heap.size w wr))
  case atStart => exact ⟨0, Nat.zero_le _, by omega, rfl, Lib.hid (Below.refl _ w)⟩
  case round =>
    obtain ⟨kk, hkk, hg, rfl, BW⟩ := hrel
    by_cases hlt : kk < n
    · have hltz : (kk : Int) < (n : Int) := by omega
      obtain ⟨b1, o1, rfl, _, k0, k1, _⟩ := (H1.out.below BW.out).get hlt
      obtain ⟨b2, o2, rfl, _, m0, m1, _⟩ := (H2.out.below BW.out).get hlt
      generalize zs.getD kk t0 = p at k0 k1 m0 m1
      have q : (p.1.toList == p.1.toList) = true := beq_self_eq_true _
      go_wp2
      go_quiet (fail)
      go_wp2
      go_roundg (n - (kk + 1))
      case measure => omega
      case rel => exact ⟨kk + 1, by omega, by omega, by go_num, Lib.hid (below_drewN BW.out _)⟩
    · have hltz : ¬ (kk : Int) < (n : Int) := by omega
      have : kk = n := by omega
      subst this
      go_wp2
      go_ret
      exact ⟨rfl, BW.out⟩
end Go.Proofs.Ytjifohepbmaebaa
