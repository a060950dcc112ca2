/- Media: the program's Expire. Bound: at most 900000 files. -/
import Derived.Test.YtahcmhjcpkjccaaC16
import Derived.Test.YtahcmhjcpkjccaaMB
namespace Go.Proofs.Ytahcmhjcpkjccaa
open Go.RowKit
set_option linter.unusedVariables false
set_option linter.unusedSimpArgs false

/-- What does not stay. -/
def goX (own : ByteArray) (now age : Int) (p : Rc) : Bool := !(p.sv.toList == own.toList) && (decide (p.tt < now) && decide (max age 0 < now - p.tt))
def stay1 (zs : List Rc) (k j : Nat) : Bool := decide (j < k) && (zs.getD j t0).st == 1
def stay2 (own : ByteArray) (now age : Int) (zs : List Rc) (n k j : Nat) : Bool := stay1 zs n j && !(decide (j < k) && goX own now age (zs.getD j t0))
theorem stay1_zero (zs : List Rc) (j : Nat) : false = stay1 zs 0 j := by unfold stay1; rw [decide_eq_false (by omega)]; rfl
theorem stay1_yes {zs : List Rc} {k : Nat} (h : (zs.getD k t0).st = 1) (j : Nat) : (if j = k then true else stay1 zs k j) = stay1 zs (k + 1) j := by
  unfold stay1
  by_cases e : j = k
  · subst e; rw [if_pos rfl, h, decide_eq_true (by omega)]; rfl
  · rw [if_neg e, show decide (j < k) = decide (j < k + 1) from decide_eq_decide.2 (by omega)]
theorem stay1_no {zs : List Rc} {k : Nat} (h : ¬ (zs.getD k t0).st = 1) (j : Nat) : stay1 zs k j = stay1 zs (k + 1) j := by
  unfold stay1
  by_cases e : j = k
  · subst e; rw [show ((zs.getD j t0).st == 1) = false by simpa using h, Bool.and_false, Bool.and_false]
  · rw [show decide (j < k) = decide (j < k + 1) from decide_eq_decide.2 (by omega)]
theorem stay2_zero {own : ByteArray} {now age : Int} {zs : List Rc} {n : Nat} (j : Nat) : stay1 zs n j = stay2 own now age zs n 0 j := by unfold stay2; rw [decide_eq_false (by omega : ¬ j < 0)]; simp
theorem stay2_yes {own : ByteArray} {now age : Int} {zs : List Rc} {n k : Nat} (h : goX own now age (zs.getD k t0) = true) (j : Nat) : (if j = k then false else stay2 own now age zs n k j) = stay2 own now age zs n (k + 1) j := by
  unfold stay2
  by_cases e : j = k
  · subst e; rw [if_pos rfl, h, decide_eq_true (by omega)]; simp
  · rw [if_neg e, show decide (j < k) = decide (j < k + 1) from decide_eq_decide.2 (by omega)]
theorem stay2_no {own : ByteArray} {now age : Int} {zs : List Rc} {n k : Nat} (h : goX own now age (zs.getD k t0) = false) (j : Nat) : stay2 own now age zs n k j = stay2 own now age zs n (k + 1) j := by
  unfold stay2
  by_cases e : j = k
  · subst e; rw [h, Bool.and_false, Bool.and_false]
  · rw [show decide (j < k) = decide (j < k + 1) from decide_eq_decide.2 (by omega)]
theorem stay2_end {own : ByteArray} {now age : Int} {zs : List Rc} {n j : Nat} (hj : j < n) (h1 : (zs.getD j t0).st = 1) : stay2 own now age zs n n j = !goX own now age (zs.getD j t0) := by
  unfold stay2 stay1; rw [h1, decide_eq_true hj]; simp
theorem goX_exp {own : ByteArray} {now age : Int} {p : Rc} (h1 : p.st = 1) : expC own now age p = goX own now age p := by
  unfold expC goX
  rw [h1]
  by_cases h : max age 0 < now - p.tt
  · rw [decide_eq_true h, decide_eq_true (by omega : p.tt < now)]; rfl
  · rw [decide_eq_false h]; simp
theorem Blk.grew {w w' : World} {g : Nat} {cs : List Value} {T : TypeId} {row : Option Nat} (h : Blk w g cs T) (hg : w.grownBy w' row) (hne : some g ≠ row) : Blk w' g cs T := ⟨(hg.block g h.lt hne).trans h.heap⟩
set_option maxRecDepth 100000 in
set_option maxHeartbeats 8000000 in
theorem expire_some (A : Option Addr) (n c : Nat) (zs : List Rc) (own : ByteArray) (now age : Int) (w : World) (h : Rcs w A n c zs) (hn : n ≤ 900000) (hn0 : 0 < n) (hc : chk zs zs.length = 0) (h63 : now ≤ 9223372036854775807) : Calls Try.prog 25 #[.slice A n c, .string own, .int .i64 now, .int .i64 age] w (LsP w (expL own now age zs)) := by
  have H := Lib.hid h
  have HL := Lib.hid h.len
  have hC := check13 A n c zs
  have HC : Hid (∀ u, Below w.heap.size w u → Calls Try.prog 13 #[.slice A n c] u fun e w' => e = .returned (.int .i64 0) ∧ Below u.heap.size u w') := Lib.hid (fun u hb => by
    have := hC u (h.below hb) hn
    rw [show chk zs n = 0 by rw [← h.len]; exact hc] at this
    exact this)
  have HB := Lib.hid (fun j (hj : j < n) => (rg_bounds (fileE_zero (step_file (chk_steps hc j (by rw [h.len]; exact hj)))).2).2.1)
  have MF : Hid (∀ k, ∀ p ∈ (zs.take k).map (exp1 own now age) ++ zs.drop k, fitR p) := Lib.hid (fun k p hp => by
    rcases List.mem_append.1 hp with h1 | h1
    · obtain ⟨q, hq, rfl⟩ := List.mem_map.1 h1
      exact exp1_fit (h.fit q (List.mem_of_mem_take hq))
    · exact h.fit p (List.mem_of_mem_drop h1))
  have hmm := @run_makeMap Try.prog
  clear h hC hc
  go_enter Try.func25, Try.ntmps25
  go_wp2_with (first
    | (go_at_call 36; (with_reducible refine (clone36 A n c (rowR zs) _ H.out.rws (by omega)).mono ?_); rintro e w1 ⟨A1, c1, rfl, hT⟩; obtain ⟨g1, c2, cur, hv1, hB1, hX1, hnc, hcm, hcl, htk⟩ := own_pos hT.own hn0; simp only [Value.slice.injEq, true_and] at hv1; obtain ⟨rfl, rfl⟩ := hv1; have B1 := Lib.hid hT.bel; have Y1 := Lib.hid hX1; have L1 := Lib.hid hcl; have N1 := Lib.hid hnc; have G1 := Lib.hid hB1; have TK := Lib.hid htk; clear hT hB1 hX1 hnc hcm hcl htk)
    | (go_at_call 13; (with_reducible refine (HC.out _ B1.out).mono ?_); rintro e w2 ⟨rfl, hb⟩; have B2 := Lib.hid (B1.out.trans (hb.mono B1.out.size)); have Y2 := Lib.hid (Y1.out.below hb); have M2 := Lib.hid (MapB.made w2); have NE := Lib.hid (show w2.heap.size ≠ g1 from fun e1 => by have := Y2.out.lt; omega); have B3 := Lib.hid (B2.out.alloc B2.out.size (.map #[] 0)); have Y3 := Lib.hid (Y2.out.alloc (.map #[] 0)); have MS := Lib.hid (show w.heap.size ≤ w2.heap.size from B2.out.size); clear hb))
  have HF := Lib.hid (show cur.take (n * 5) = cl zs by rw [TK.out, ← HL.out, flat_cl])
  clear TK hmm
  go_loopg [11, 12, 26] n (fun gg _ _ s26 wr => ∃ (kk nm : Nat), kk ≤ n ∧ n - kk ≤ gg ∧ s26 = .int .i64 kk ∧ Hid (MapB wr w2.heap.size nm (stay1 zs kk)) ∧ nm ≤ kk ∧ Hid (Blk wr g1 cur 26) ∧ Hid (Below w.heap.size w wr))
  case atStart => exact ⟨0, 0, Nat.zero_le _, by omega, rfl, Lib.hid (M2.out.same (stay1_zero zs)), Nat.le_refl _, Y3, B3⟩
  case round =>
    obtain ⟨kk, nm, hkk, hg, rfl, HM, hnm, HY, BW⟩ := hrel
    by_cases hlt : kk < n
    · have hltz : (kk : Int) < (n : Int) := by omega
      obtain ⟨b, off, rfl, hbl, k0, k1, k2, k3, k4, _⟩ := (H.out.below BW.out).at_ hlt
      have HS1 := Lib.hid (fun h => stay1_yes (zs := zs) (k := kk) h)
      have HS0 := Lib.hid (fun h => stay1_no (zs := zs) (k := kk) h)
      generalize zs.getD kk t0 = p at k0 k1 k2 k3 k4 HS1 HS0
      by_cases hp : p.st = 1
      · have HS := Lib.hid (HS1.out hp)
        have hpb : (p.st == 1) = true := by simpa using hp
        clear hp HS0 HS1
        go_wp2_with (at_mapUpdate; refine wpList_putB rfl _ _ _ rfl _ _ _ rfl (HM.out.alloc _) (by omega) kk (by omega) rfl true rfl ?_; intro w5 hm5 hg5; have M5 := Lib.hid (hm5.same HS.out); have Y5 := Lib.hid ((HY.out.alloc _).grew hg5 (fun e1 => NE.out (by cases e1; rfl))); have B5 := Lib.hid ((BW.out.alloc BW.out.size _).grown hg5 (Nat.le_trans BW.out.size (by rw [World.alloc]; simp)) (fun k hk => by cases hk; exact MS.out)); clear hm5 hg5)
        go_roundg (n - (kk + 1))
        case measure => omega
        case rel => exact ⟨kk + 1, nm + 1, by omega, by omega, by go_num, M5, by omega, Y5, B5⟩
      · have HS := Lib.hid (HS0.out hp)
        have hpb : (p.st == 1) = false := by simpa using hp
        clear hp HS0 HS1
        go_wp2
        go_roundg (n - (kk + 1))
        case measure => omega
        case rel => exact ⟨kk + 1, nm, by omega, by omega, by go_num, Lib.hid ((HM.out.alloc _).same HS.out), by omega, Lib.hid (HY.out.alloc _), Lib.hid (BW.out.alloc BW.out.size _)⟩
    · have hltz : ¬ (kk : Int) < (n : Int) := by omega
      obtain rfl : kk = n := by omega
      go_wp2
      go_loopg [13, 14, 39] kk (fun gg _ _ s39 wr => ∃ (kj : Nat), kj ≤ kk ∧ kk - kj ≤ gg ∧ s39 = .int .i64 kj ∧ Hid (MapB wr w2.heap.size nm (stay2 own now age zs kk kj)) ∧ Hid (Blk wr g1 cur 26) ∧ Hid (Below w.heap.size w wr))
      case atStart => exact ⟨0, Nat.zero_le _, by omega, rfl, Lib.hid (HM.out.same stay2_zero), HY, BW⟩
      case round =>
        obtain ⟨kj, hkj, hg2, rfl, HM, HY, BW⟩ := hrel
        by_cases hlt : kj < kk
        · have hltz : (kj : Int) < (kk : Int) := by omega
          obtain ⟨b, off, rfl, hbl, k0, k1, k2, k3, k4, _⟩ := (H.out.below BW.out).at_ hlt
          have HS1 := Lib.hid (fun h => stay2_yes (own := own) (now := now) (age := age) (zs := zs) (n := kk) (k := kj) h)
          have HS0 := Lib.hid (fun h => stay2_no (own := own) (now := now) (age := age) (zs := zs) (n := kk) (k := kj) h)
          have hb := HB.out kj hlt
          generalize zs.getD kj t0 = p at k0 k1 k2 k3 k4 HS1 HS0 hb
          cases q1 : (p.sv.toList == own.toList)
          · by_cases q2 : p.tt < now
            · have ew : IntKind.i64.wrap (now - p.tt) = now - p.tt := IntWalk.i64_in _ (by omega)
              rcases (show age < 0 ∨ 0 ≤ age by omega) with ha | ha
              · have HMx := Lib.hid (show max age 0 = 0 by omega)
                by_cases q3 : 0 < now - p.tt
                · have HE := Lib.hid (show goX own now age p = true by unfold goX; rw [q1, decide_eq_true q2, HMx.out, decide_eq_true q3]; rfl)
                  have HS := Lib.hid (HS1.out HE.out)
                  go_wp2_with (at_delete; refine wpList_delB rfl _ _ rfl _ _ _ rfl (HM.out.alloc _) kj (by omega) rfl ?_; intro w5 hm5 hg5; have M5 := Lib.hid (hm5.same HS.out); have Y5 := Lib.hid ((HY.out.alloc _).grew hg5 (fun e1 => NE.out (by cases e1; rfl))); have B5 := Lib.hid ((BW.out.alloc BW.out.size _).grown hg5 (Nat.le_trans BW.out.size (by rw [World.alloc]; simp)) (fun k hk => by cases hk; exact MS.out)); clear hm5 hg5)
                  go_roundg (kk - (kj + 1))
                  case measure => omega
                  case rel => exact ⟨kj + 1, by omega, by omega, by go_num, M5, Y5, B5⟩
                · exact absurd q3 (by omega)
              · have HMx := Lib.hid (show max age 0 = age by omega)
                by_cases q3 : age < now - p.tt
                · have HE := Lib.hid (show goX own now age p = true by unfold goX; rw [q1, decide_eq_true q2, HMx.out, decide_eq_true q3]; rfl)
                  have HS := Lib.hid (HS1.out HE.out)
                  go_wp2_with (at_delete; refine wpList_delB rfl _ _ rfl _ _ _ rfl (HM.out.alloc _) kj (by omega) rfl ?_; intro w5 hm5 hg5; have M5 := Lib.hid (hm5.same HS.out); have Y5 := Lib.hid ((HY.out.alloc _).grew hg5 (fun e1 => NE.out (by cases e1; rfl))); have B5 := Lib.hid ((BW.out.alloc BW.out.size _).grown hg5 (Nat.le_trans BW.out.size (by rw [World.alloc]; simp)) (fun k hk => by cases hk; exact MS.out)); clear hm5 hg5)
                  go_roundg (kk - (kj + 1))
                  case measure => omega
                  case rel => exact ⟨kj + 1, by omega, by omega, by go_num, M5, Y5, B5⟩
                · have HE := Lib.hid (show goX own now age p = false by unfold goX; rw [q1, decide_eq_true q2, HMx.out, decide_eq_false q3]; rfl)
                  go_wp2
                  go_roundg (kk - (kj + 1))
                  case measure => omega
                  case rel => exact ⟨kj + 1, by omega, by omega, by go_num, Lib.hid ((HM.out.alloc _).same (HS0.out HE.out)), Lib.hid (HY.out.alloc _), Lib.hid (BW.out.alloc BW.out.size _)⟩
            · have HE := Lib.hid (show goX own now age p = false by unfold goX; rw [decide_eq_false q2]; simp)
              go_wp2
              go_roundg (kk - (kj + 1))
              case measure => omega
              case rel => exact ⟨kj + 1, by omega, by omega, by go_num, Lib.hid ((HM.out.alloc _).same (HS0.out HE.out)), Lib.hid (HY.out.alloc _), Lib.hid (BW.out.alloc BW.out.size _)⟩
          · have HE := Lib.hid (show goX own now age p = false by unfold goX; rw [q1]; rfl)
            go_wp2
            go_roundg (kk - (kj + 1))
            case measure => omega
            case rel => exact ⟨kj + 1, by omega, by omega, by go_num, Lib.hid ((HM.out.alloc _).same (HS0.out HE.out)), Lib.hid (HY.out.alloc _), Lib.hid (BW.out.alloc BW.out.size _)⟩
        · have hltz : ¬ (kj : Int) < (kk : Int) := by omega
          obtain rfl : kj = kk := by omega
          have Y9 := Lib.hid HY.out
          go_wp2
          go_loopg [15, 16, 68] kj (fun gg _ _ s68 wr => ∃ (kk : Nat) (cs : List Value), kk ≤ kj ∧ kj - kk ≤ gg ∧ s68 = .int .i64 kk ∧ Hid (MapB wr w2.heap.size nm (stay2 own now age zs kj kj)) ∧ Hid (Blk wr g1 cs 26) ∧ Hid (c1 * 5 = cs.length) ∧ Hid (cs.take (kj * 5) = cl ((zs.take kk).map (exp1 own now age) ++ zs.drop kk)) ∧ Hid (Below w.heap.size w wr))
          case atStart => exact ⟨0, cur, Nat.zero_le _, by omega, rfl, HM, HY, L1, Lib.hid (by rw [HF.out]; rfl), BW⟩
          case round =>
            obtain ⟨kk, cs, hkk, hg3, rfl, HM, HY, HCl, HTk, BW⟩ := hrel
            by_cases hlt : kk < kj
            · have hltz : (kk : Int) < (kj : Int) := by omega
              have hcc : kk < c1 := Nat.lt_of_lt_of_le hlt N1.out
              have HR := Lib.hid (Rcs.ofBlk HY.out HTk.out (by rw [mix_len]; exact HL.out) N1.out (by omega) (MF.out kk))
              obtain ⟨b2, off2, e5, _, j0, j1, j2, j3, j4, _⟩ := HR.out.at_ hlt
              simp only [Option.some.injEq, Addr.mk.injEq, and_true] at e5
              obtain ⟨rfl, rfl⟩ := e5
              clear j0 j1 j2 j3
              rw [mix_get (by rw [HL.out]; exact hlt)] at j4
              rw [Nat.zero_add] at j4
              obtain ⟨b, off, rfl, hbl, k0, k1, k2, k3, k4, _⟩ := (H.out.below BW.out).at_ hlt
              have HNx := Lib.hid (mix_next (f := exp1 own now age) (zs := zs) (k := kk) (by rw [HL.out]; exact hlt))
              have HMg := Lib.hid (mix_get (f := exp1 own now age) (zs := zs) (k := kk) (by rw [HL.out]; exact hlt))
              have HSt := Lib.hid (fun h => stay2_end (own := own) (now := now) (age := age) (zs := zs) (n := kj) (j := kk) hlt h)
              have fz := HY.out.free (kk * 5 + 4)
              generalize zs.getD kk t0 = p at k0 k1 k2 k3 k4 j4 HNx HMg HSt
              clear HR
              cases q1 : (p.st == 1)
              · have HE := Lib.hid (show exp1 own now age p = p by unfold exp1 expC; rw [q1]; rfl)
                go_wp2
                go_roundg (kj - (kk + 1))
                case measure => omega
                case rel => exact ⟨kk + 1, cs, by omega, by omega, by go_num, Lib.hid (HM.out.alloc _), Lib.hid (HY.out.alloc _), HCl, Lib.hid (by rw [HTk.out, ← HNx.out, HE.out]; congr 1; exact (set_same HMg.out (by rw [mix_len, HL.out]; exact hlt)).symm), Lib.hid (BW.out.alloc BW.out.size _)⟩
              · have hp : p.st = 1 := by simpa using q1
                have hlook := (HM.out.alloc (.cells #[.string p.sv, .string p.nm, .int .i64 p.sz, .int .i64 p.tt, .int .i64 p.st] 26)).look (k := kk) (by omega)
                rw [HSt.out hp] at hlook
                clear HSt
                cases q2 : goX own now age p
                · have HE := Lib.hid (show exp1 own now age p = p by unfold exp1; rw [goX_exp hp, q2]; rfl)
                  rw [q2] at hlook
                  clear hp
                  go_wp2
                  go_roundg (kj - (kk + 1))
                  case measure => omega
                  case rel => exact ⟨kk + 1, cs, by omega, by omega, by go_num, Lib.hid (HM.out.alloc _), Lib.hid (HY.out.alloc _), HCl, Lib.hid (by rw [HTk.out, ← HNx.out, HE.out]; congr 1; exact (set_same HMg.out (by rw [mix_len, HL.out]; exact hlt)).symm), Lib.hid (BW.out.alloc BW.out.size _)⟩
                · have HE := Lib.hid (show exp1 own now age p = { p with st := 3 } by unfold exp1; rw [goX_exp hp, q2]; rfl)
                  rw [q2] at hlook
                  clear hp
                  go_wp2
                  go_roundg (kj - (kk + 1))
                  case measure => omega
                  case rel => exact ⟨kk + 1, cs.set (kk * 5 + 4) (.int .i64 3), by omega, by omega, by go_num, Lib.hid ((HM.out.set ⟨g1, kk * 5 + 4, none⟩ _ NE.out).alloc _), Lib.hid ((HY.out.set _ _).alloc _), Lib.hid (by rw [List.length_set]; exact HCl.out), Lib.hid (by
                    rw [List.take_set, HTk.out, ← HNx.out, HE.out]
                    exact cl_setc { p with st := 3 } 4 _ (by decide) _ kk (by rw [mix_len, HL.out]; exact hlt) (by rw [HMg.out]; rfl)), Lib.hid ((BW.out.setCell (p := ⟨g1, kk * 5 + 4, none⟩) G1.out _).alloc (BW.out.setCell (p := ⟨g1, kk * 5 + 4, none⟩) G1.out _).size _)⟩
            · have hltz : ¬ (kk : Int) < (kj : Int) := by omega
              obtain rfl : kk = kj := by omega
              go_wp2
              go_ret
              have hzz : (zs.take kk).map (exp1 own now age) ++ zs.drop kk = expL own now age zs := by
                rw [List.take_of_length_le (by rw [HL.out]; exact Nat.le_refl _), List.drop_of_length_le (by rw [HL.out]; exact Nat.le_refl _), List.append_nil]; rfl
              have h9 := Rcs.ofBlk HY.out HTk.out (by rw [mix_len]; exact HL.out) N1.out (by omega) (MF.out kk)
              rw [hzz] at h9
              have hl : (expL own now age zs).length = kk := by unfold expL; rw [List.length_map]; exact HL.out
              exact ⟨some ⟨g1, 0, none⟩, c1, ret_slice hl.symm, by rw [hl]; exact h9, BW.out⟩
end Go.Proofs.Ytahcmhjcpkjccaa
