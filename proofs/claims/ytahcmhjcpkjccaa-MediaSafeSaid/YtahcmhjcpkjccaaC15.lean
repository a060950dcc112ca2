/- Media: the reference's Expire. Bound: at most 900000 files. -/
import Derived.Test.YtahcmhjcpkjccaaM1
namespace Go.Proofs.Ytahcmhjcpkjccaa
open Go.RowKit
set_option linter.unusedVariables false
set_option linter.unusedSimpArgs false

/-- One cell of one record set. -/
theorem cl_setc (p' : Rc) (i : Nat) (v : Value) (hi : i < 5) : ∀ (zs : List Rc) (k : Nat), k < zs.length → (enc (zs.getD k t0)).set i v = enc p' → (cl zs).set (k * 5 + i) v = cl (zs.set k p')
  | q :: zs, 0, _, h => by
    rw [cl_cons, Nat.zero_mul, Nat.zero_add, List.set_append_left _ _ (by rw [enc_len]; exact hi), List.set_cons_zero, cl_cons]
    exact congrArg (· ++ cl zs) h
  | q :: zs, k + 1, hk, h => by
    rw [cl_cons, List.set_append_right _ _ (by rw [enc_len]; omega), enc_len, show (k + 1) * 5 + i - 5 = k * 5 + i by omega, cl_setc p' i v hi zs k (by simpa using hk) h, List.set_cons_succ, cl_cons]
/-- What expires. -/
def expC (own : ByteArray) (now age : Int) (p : Rc) : Bool := p.st == 1 && (!(p.sv.toList == own.toList) && decide (max age 0 < now - p.tt))
def exp1 (own : ByteArray) (now age : Int) (p : Rc) : Rc := if expC own now age p then { p with st := 3 } else p
def expL (own : ByteArray) (now age : Int) (zs : List Rc) : List Rc := zs.map (exp1 own now age)
def rexpL (zs : List Rc) (own : ByteArray) (now age : Int) : List Rc := if chk zs zs.length = 0 ∧ 0 ≤ now then expL own now age zs else zs
theorem mix_next {f : Rc → Rc} {zs : List Rc} {k : Nat} (h : k < zs.length) : ((zs.take k).map f ++ zs.drop k).set k (f (zs.getD k t0)) = (zs.take (k + 1)).map f ++ zs.drop (k + 1) := by
  rw [getD_at h, List.take_succ_eq_append_getElem h, List.drop_eq_getElem_cons h, List.set_append_right _ _ (by rw [List.length_map, List.length_take]; omega)]
  have : k - ((zs.take k).map f).length = 0 := by rw [List.length_map, List.length_take]; omega
  rw [this, List.set_cons_zero, List.map_append, List.append_assoc]
  rfl
theorem mix_get {f : Rc → Rc} {zs : List Rc} {k : Nat} (h : k < zs.length) : ((zs.take k).map f ++ zs.drop k).getD k t0 = zs.getD k t0 := by
  rw [getD_at h, List.getD_eq_getElem?_getD, List.getElem?_append_right (by rw [List.length_map, List.length_take]; omega), List.length_map, List.length_take, show k - min k zs.length = 0 by omega, List.getElem?_drop, Nat.add_zero, List.getElem?_eq_getElem h]
  rfl
theorem mix_len {f : Rc → Rc} {zs : List Rc} {k : Nat} : ((zs.take k).map f ++ zs.drop k).length = zs.length := by
  rw [List.length_append, List.length_map, List.length_take, List.length_drop]; omega
theorem exp1_fit {own : ByteArray} {now age : Int} {p : Rc} (h : fitR p) : fitR (exp1 own now age p) := by
  unfold exp1
  split <;> exact h
theorem set_same {l : List Rc} {k : Nat} {p : Rc} (h : l.getD k t0 = p) (hk : k < l.length) : l.set k p = l := by
  rw [← h, getD_at hk]; exact List.set_getElem_self hk
set_option maxRecDepth 100000 in
set_option maxHeartbeats 8000000 in
theorem rexpire_neg (A : Option Addr) (n c : Nat) (zs : List Rc) (own : ByteArray) (now age : Int) (w : World) (h : Rcs w A n c zs) (hn : n ≤ 900000) (hn0 : 0 < n) (hc : chk zs zs.length = 0) (h0 : 0 ≤ now) (h63 : now ≤ 9223372036854775807) (ha : age < 0) : Calls Try.prog 26 #[.slice A n c, .string own, .int .i64 now, .int .i64 age] w (LsP w (expL own now age zs)) := by
  have HMx : Hid (max age 0 = 0) := Lib.hid (by omega)
  have H := Lib.hid h
  have HL := Lib.hid h.len
  have hC := check14 A n c zs w h hn
  rw [show chk zs n = 0 by rw [← h.len]; exact hc] at hC
  have HC := Lib.hid hC
  have HB := Lib.hid (fun j (hj : j < n) => (rg_bounds (fileE_zero (step_file (chk_steps hc j (by rw [h.len]; exact hj)))).2).2.1)
  have MF : Hid (∀ k, ∀ p ∈ (zs.take k).map (exp1 own now age) ++ zs.drop k, fitR p) := Lib.hid (fun k p hp => by
    rcases List.mem_append.1 hp with h1 | h1
    · obtain ⟨q, hq, rfl⟩ := List.mem_map.1 h1
      exact exp1_fit (h.fit q (List.mem_of_mem_take hq))
    · exact h.fit p (List.mem_of_mem_drop h1))
  obtain ⟨i0, hi, hz0, hz1, hz2⟩ := info_parts info44
  have HI := Lib.hid (And.intro hi (And.intro hz0 (And.intro hz1 hz2)))
  clear h hC hc hi hz0 hz1 hz2
  go_enter Try.func26, Try.ntmps26
  go_wp2_with (first
    | (go_at_call 14; (with_reducible refine HC.out.mono ?_); rintro e w1 ⟨rfl, hb⟩; have B1 := Lib.hid hb; have B2 := Lib.hid (B1.out.alloc B1.out.size (.cells #[] 26)); have O2 : Hid ((w1.alloc (.cells #[] 26)).ownsRow w.heap.size 26 5 (.slice (some ⟨w1.heap.size, 0, none⟩) 0 0) 0 []) := Lib.hid (World.ownsRow_made (base := w.heap.size) (e := 26) (size := 5) w1 #[] 0 B1.out.size (by decide) (by simp)); have S2 := Lib.hid ((H.out.below B2.out).src); clear hb)
    | (at_builtin; refine wpList_append_any _ rfl (.tmp 21) (.tmp 22) 22 rfl w.heap.size 26 i0 _ 5 56 Try.underlying22 HI.out.1 HI.out.2.1 HI.out.2.2.1 HI.out.2.2.2 rfl (by decide) (.slice (some ⟨w1.heap.size, 0, none⟩) 0 0) 0 [] rfl O2.out A n c (cl zs) rfl S2.out (by unfold maxLen; omega) (by omega) B2.out.size ?_; intro v3 w3 hgr; have B3 := Lib.hid (hgr.below B2.out O2.out); have O3 := Lib.hid hgr.own; clear hgr; rw [Nat.zero_add, List.nil_append] at O3; obtain ⟨g1, c1, cur, rfl, hB1, hX1, hnc, hcm, hcl, htk⟩ := own_pos O3.out hn0; have Y3 := Lib.hid hX1; have L3 := Lib.hid hcl; have N3 := Lib.hid hnc; have G3 := Lib.hid hB1; have TK := Lib.hid htk; clear hB1 hX1 hnc hcm hcl htk O3))
  go_loopg [10] n (fun gg s10 wr => ∃ (kk : Nat) (cs : List Value), kk ≤ n ∧ n - kk ≤ gg ∧ s10 = .int .i64 kk ∧ Hid (Blk wr g1 cs 26) ∧ Hid (c1 * 5 = cs.length) ∧ Hid (cs.take (n * 5) = cl ((zs.take kk).map (exp1 own now age) ++ zs.drop kk)) ∧ Hid (Below w.heap.size w wr))
  case atStart => exact ⟨0, cur, Nat.zero_le _, by omega, rfl, Y3, L3, Lib.hid (by rw [TK.out]; rfl), B3⟩
  case round =>
    obtain ⟨kk, cs, hkk, hg, rfl, HY, HCl, HTk, BW⟩ := hrel
    by_cases hlt : kk < n
    · have hltz : (kk : Int) < (n : Int) := by omega
      have HR := Lib.hid (Rcs.ofBlk HY.out HTk.out (by rw [mix_len]; exact HL.out) N3.out (by omega) (MF.out kk))
      obtain ⟨b2, off2, e5, _, k0, k1, k2, k3, k4, _⟩ := HR.out.at_ hlt
      simp only [Option.some.injEq, Addr.mk.injEq, and_true] at e5
      obtain ⟨rfl, rfl⟩ := e5
      rw [mix_get (by rw [HL.out]; exact hlt)] at k0 k1 k2 k3 k4
      rw [Nat.zero_add] at k0 k1 k2 k3 k4
      have hb := HB.out kk hlt
      have HNx := Lib.hid (mix_next (f := exp1 own now age) (zs := zs) (k := kk) (by rw [HL.out]; exact hlt))
      have HMg := Lib.hid (mix_get (f := exp1 own now age) (zs := zs) (k := kk) (by rw [HL.out]; exact hlt))
      have fz := HY.out.free (kk * 5 + 4)
      generalize zs.getD kk t0 = p at k0 k1 k2 k3 k4 hb HNx HMg
      have ew : IntKind.i64.wrap (now - p.tt) = now - p.tt := IntWalk.i64_in _ (by omega)
      cases q1 : (p.st == 1)
      · have HE := Lib.hid (show exp1 own now age p = p by unfold exp1 expC; rw [q1]; rfl)
        clear HR
        go_wp2
        go_roundg (n - (kk + 1))
        case measure => omega
        case rel => exact ⟨kk + 1, cs, by omega, by omega, by go_num, HY, HCl, Lib.hid (by rw [HTk.out, ← HNx.out, HE.out]; congr 1; exact (set_same HMg.out (by rw [mix_len, HL.out]; exact hlt)).symm), BW⟩
      · cases q2 : (p.sv.toList == own.toList)
        · by_cases q3 : 0 < now - p.tt
          · have HE := Lib.hid (show exp1 own now age p = { p with st := 3 } by unfold exp1 expC; rw [q1, q2, HMx.out, decide_eq_true q3]; rfl)
            clear HR
            go_wp2
            go_roundg (n - (kk + 1))
            case measure => omega
            case rel => exact ⟨kk + 1, cs.set (kk * 5 + 4) (.int .i64 3), by omega, by omega, by go_num, Lib.hid (HY.out.set _ _), Lib.hid (by rw [List.length_set]; exact HCl.out), Lib.hid (by
              rw [List.take_set, HTk.out, ← HNx.out, HE.out]
              exact cl_setc { p with st := 3 } 4 _ (by decide) _ kk (by rw [mix_len, HL.out]; exact hlt) (by rw [HMg.out]; rfl)), Lib.hid (BW.out.setCell (p := ⟨g1, kk * 5 + 4, none⟩) G3.out _)⟩
          · have HE := Lib.hid (show exp1 own now age p = p by unfold exp1 expC; rw [q1, q2, HMx.out, decide_eq_false q3]; rfl)
            clear HR
            go_wp2
            go_roundg (n - (kk + 1))
            case measure => omega
            case rel => exact ⟨kk + 1, cs, by omega, by omega, by go_num, HY, HCl, Lib.hid (by rw [HTk.out, ← HNx.out, HE.out]; congr 1; exact (set_same HMg.out (by rw [mix_len, HL.out]; exact hlt)).symm), BW⟩
        · have HE := Lib.hid (show exp1 own now age p = p by unfold exp1 expC; rw [q1, q2]; rfl)
          clear HR
          go_wp2
          go_roundg (n - (kk + 1))
          case measure => omega
          case rel => exact ⟨kk + 1, cs, by omega, by omega, by go_num, HY, HCl, Lib.hid (by rw [HTk.out, ← HNx.out, HE.out]; congr 1; exact (set_same HMg.out (by rw [mix_len, HL.out]; exact hlt)).symm), BW⟩
    · have hltz : ¬ (kk : Int) < (n : Int) := by omega
      obtain rfl : kk = n := by omega
      go_wp2
      go_ret
      have hzz : (zs.take kk).map (exp1 own now age) ++ zs.drop kk = expL own now age zs := by
        rw [List.take_of_length_le (by rw [HL.out]; exact Nat.le_refl _), List.drop_of_length_le (by rw [HL.out]; exact Nat.le_refl _), List.append_nil]; rfl
      have h9 := Rcs.ofBlk HY.out HTk.out (by rw [mix_len]; exact HL.out) N3.out (by omega) (MF.out kk)
      rw [hzz] at h9
      have hl : (expL own now age zs).length = kk := by unfold expL; rw [List.length_map]; exact HL.out
      exact ⟨some ⟨g1, 0, none⟩, c1, ret_slice hl.symm, by rw [hl]; exact h9, BW.out⟩
set_option maxRecDepth 100000 in
set_option maxHeartbeats 8000000 in
theorem rexpire_pos (A : Option Addr) (n c : Nat) (zs : List Rc) (own : ByteArray) (now age : Int) (w : World) (h : Rcs w A n c zs) (hn : n ≤ 900000) (hn0 : 0 < n) (hc : chk zs zs.length = 0) (h0 : 0 ≤ now) (h63 : now ≤ 9223372036854775807) (ha : 0 ≤ age) : Calls Try.prog 26 #[.slice A n c, .string own, .int .i64 now, .int .i64 age] w (LsP w (expL own now age zs)) := by
  have HMx : Hid (max age 0 = age) := Lib.hid (by omega)
  have H := Lib.hid h
  have HL := Lib.hid h.len
  have hC := check14 A n c zs w h hn
  rw [show chk zs n = 0 by rw [← h.len]; exact hc] at hC
  have HC := Lib.hid hC
  have HB := Lib.hid (fun j (hj : j < n) => (rg_bounds (fileE_zero (step_file (chk_steps hc j (by rw [h.len]; exact hj)))).2).2.1)
  have MF : Hid (∀ k, ∀ p ∈ (zs.take k).map (exp1 own now age) ++ zs.drop k, fitR p) := Lib.hid (fun k p hp => by
    rcases List.mem_append.1 hp with h1 | h1
    · obtain ⟨q, hq, rfl⟩ := List.mem_map.1 h1
      exact exp1_fit (h.fit q (List.mem_of_mem_take hq))
    · exact h.fit p (List.mem_of_mem_drop h1))
  obtain ⟨i0, hi, hz0, hz1, hz2⟩ := info_parts info44
  have HI := Lib.hid (And.intro hi (And.intro hz0 (And.intro hz1 hz2)))
  clear h hC hc hi hz0 hz1 hz2
  go_enter Try.func26, Try.ntmps26
  go_wp2_with (first
    | (go_at_call 14; (with_reducible refine HC.out.mono ?_); rintro e w1 ⟨rfl, hb⟩; have B1 := Lib.hid hb; have B2 := Lib.hid (B1.out.alloc B1.out.size (.cells #[] 26)); have O2 : Hid ((w1.alloc (.cells #[] 26)).ownsRow w.heap.size 26 5 (.slice (some ⟨w1.heap.size, 0, none⟩) 0 0) 0 []) := Lib.hid (World.ownsRow_made (base := w.heap.size) (e := 26) (size := 5) w1 #[] 0 B1.out.size (by decide) (by simp)); have S2 := Lib.hid ((H.out.below B2.out).src); clear hb)
    | (at_builtin; refine wpList_append_any _ rfl (.tmp 21) (.tmp 22) 22 rfl w.heap.size 26 i0 _ 5 56 Try.underlying22 HI.out.1 HI.out.2.1 HI.out.2.2.1 HI.out.2.2.2 rfl (by decide) (.slice (some ⟨w1.heap.size, 0, none⟩) 0 0) 0 [] rfl O2.out A n c (cl zs) rfl S2.out (by unfold maxLen; omega) (by omega) B2.out.size ?_; intro v3 w3 hgr; have B3 := Lib.hid (hgr.below B2.out O2.out); have O3 := Lib.hid hgr.own; clear hgr; rw [Nat.zero_add, List.nil_append] at O3; obtain ⟨g1, c1, cur, rfl, hB1, hX1, hnc, hcm, hcl, htk⟩ := own_pos O3.out hn0; have Y3 := Lib.hid hX1; have L3 := Lib.hid hcl; have N3 := Lib.hid hnc; have G3 := Lib.hid hB1; have TK := Lib.hid htk; clear hB1 hX1 hnc hcm hcl htk O3))
  go_loopg [10] n (fun gg s10 wr => ∃ (kk : Nat) (cs : List Value), kk ≤ n ∧ n - kk ≤ gg ∧ s10 = .int .i64 kk ∧ Hid (Blk wr g1 cs 26) ∧ Hid (c1 * 5 = cs.length) ∧ Hid (cs.take (n * 5) = cl ((zs.take kk).map (exp1 own now age) ++ zs.drop kk)) ∧ Hid (Below w.heap.size w wr))
  case atStart => exact ⟨0, cur, Nat.zero_le _, by omega, rfl, Y3, L3, Lib.hid (by rw [TK.out]; rfl), B3⟩
  case round =>
    obtain ⟨kk, cs, hkk, hg, rfl, HY, HCl, HTk, BW⟩ := hrel
    by_cases hlt : kk < n
    · have hltz : (kk : Int) < (n : Int) := by omega
      have HR := Lib.hid (Rcs.ofBlk HY.out HTk.out (by rw [mix_len]; exact HL.out) N3.out (by omega) (MF.out kk))
      obtain ⟨b2, off2, e5, _, k0, k1, k2, k3, k4, _⟩ := HR.out.at_ hlt
      simp only [Option.some.injEq, Addr.mk.injEq, and_true] at e5
      obtain ⟨rfl, rfl⟩ := e5
      rw [mix_get (by rw [HL.out]; exact hlt)] at k0 k1 k2 k3 k4
      rw [Nat.zero_add] at k0 k1 k2 k3 k4
      have hb := HB.out kk hlt
      have HNx := Lib.hid (mix_next (f := exp1 own now age) (zs := zs) (k := kk) (by rw [HL.out]; exact hlt))
      have HMg := Lib.hid (mix_get (f := exp1 own now age) (zs := zs) (k := kk) (by rw [HL.out]; exact hlt))
      have fz := HY.out.free (kk * 5 + 4)
      generalize zs.getD kk t0 = p at k0 k1 k2 k3 k4 hb HNx HMg
      have ew : IntKind.i64.wrap (now - p.tt) = now - p.tt := IntWalk.i64_in _ (by omega)
      cases q1 : (p.st == 1)
      · have HE := Lib.hid (show exp1 own now age p = p by unfold exp1 expC; rw [q1]; rfl)
        clear HR
        go_wp2
        go_roundg (n - (kk + 1))
        case measure => omega
        case rel => exact ⟨kk + 1, cs, by omega, by omega, by go_num, HY, HCl, Lib.hid (by rw [HTk.out, ← HNx.out, HE.out]; congr 1; exact (set_same HMg.out (by rw [mix_len, HL.out]; exact hlt)).symm), BW⟩
      · cases q2 : (p.sv.toList == own.toList)
        · by_cases q3 : age < now - p.tt
          · have HE := Lib.hid (show exp1 own now age p = { p with st := 3 } by unfold exp1 expC; rw [q1, q2, HMx.out, decide_eq_true q3]; rfl)
            clear HR
            go_wp2
            go_roundg (n - (kk + 1))
            case measure => omega
            case rel => exact ⟨kk + 1, cs.set (kk * 5 + 4) (.int .i64 3), by omega, by omega, by go_num, Lib.hid (HY.out.set _ _), Lib.hid (by rw [List.length_set]; exact HCl.out), Lib.hid (by
              rw [List.take_set, HTk.out, ← HNx.out, HE.out]
              exact cl_setc { p with st := 3 } 4 _ (by decide) _ kk (by rw [mix_len, HL.out]; exact hlt) (by rw [HMg.out]; rfl)), Lib.hid (BW.out.setCell (p := ⟨g1, kk * 5 + 4, none⟩) G3.out _)⟩
          · have HE := Lib.hid (show exp1 own now age p = p by unfold exp1 expC; rw [q1, q2, HMx.out, decide_eq_false q3]; rfl)
            clear HR
            go_wp2
            go_roundg (n - (kk + 1))
            case measure => omega
            case rel => exact ⟨kk + 1, cs, by omega, by omega, by go_num, HY, HCl, Lib.hid (by rw [HTk.out, ← HNx.out, HE.out]; congr 1; exact (set_same HMg.out (by rw [mix_len, HL.out]; exact hlt)).symm), BW⟩
        · have HE := Lib.hid (show exp1 own now age p = p by unfold exp1 expC; rw [q1, q2]; rfl)
          clear HR
          go_wp2
          go_roundg (n - (kk + 1))
          case measure => omega
          case rel => exact ⟨kk + 1, cs, by omega, by omega, by go_num, HY, HCl, Lib.hid (by rw [HTk.out, ← HNx.out, HE.out]; congr 1; exact (set_same HMg.out (by rw [mix_len, HL.out]; exact hlt)).symm), BW⟩
    · have hltz : ¬ (kk : Int) < (n : Int) := by omega
      obtain rfl : kk = n := by omega
      go_wp2
      go_ret
      have hzz : (zs.take kk).map (exp1 own now age) ++ zs.drop kk = expL own now age zs := by
        rw [List.take_of_length_le (by rw [HL.out]; exact Nat.le_refl _), List.drop_of_length_le (by rw [HL.out]; exact Nat.le_refl _), List.append_nil]; rfl
      have h9 := Rcs.ofBlk HY.out HTk.out (by rw [mix_len]; exact HL.out) N3.out (by omega) (MF.out kk)
      rw [hzz] at h9
      have hl : (expL own now age zs).length = kk := by unfold expL; rw [List.length_map]; exact HL.out
      exact ⟨some ⟨g1, 0, none⟩, c1, ret_slice hl.symm, by rw [hl]; exact h9, BW.out⟩
end Go.Proofs.Ytahcmhjcpkjccaa
