/- Media: what a right list gives, Total of both. Bound: at most 900000 files. -/
import Derived.Test.YtahcmhjcpkjccaaC5
namespace Go.Proofs.Ytahcmhjcpkjccaa
open Go.RowKit
set_option linter.unusedVariables false
set_option linter.unusedSimpArgs false

theorem chk_steps {zs : List Rc} {n : Nat} (h : chk zs n = 0) : ∀ j, j < n → stepM zs j = 0 := by
  intro j hj
  unfold chk at h
  cases hf : ((List.range n).map (stepM zs)).find? (fun r => r != 0) with
  | none =>
    have := List.find?_eq_none.1 hf (stepM zs j) (List.mem_map.2 ⟨j, by simpa using hj, rfl⟩)
    simpa using this
  | some r =>
    rw [hf] at h
    have := List.find?_some hf
    simp at h this
    exact absurd h this
theorem fileE_zero {p : Rc} (h : fileE p = 0) : nmOK p.sv p.nm = true ∧ rgOK p = true := by
  unfold fileE at h
  cases h1 : nmOK p.sv p.nm
  · rw [h1, if_pos rfl] at h; cases h
  · rw [h1, if_neg (by decide)] at h
    cases h2 : rgOK p
    · rw [h2, if_pos rfl] at h; cases h
    · exact ⟨rfl, rfl⟩
theorem wi_bounds {n most : Int} (h : wi n most = true) : 0 ≤ n ∧ n ≤ most := by
  unfold wi at h
  rw [Bool.and_eq_true, decide_eq_true_iff, decide_eq_true_iff] at h
  exact h
theorem rg_bounds {p : Rc} (h : rgOK p = true) : (0 ≤ p.sz ∧ p.sz ≤ 1000000000000) ∧ (0 ≤ p.tt ∧ p.tt ≤ 1000000000) ∧ 0 ≤ p.st ∧ p.st ≤ 3 := by
  unfold rgOK at h
  rw [Bool.and_eq_true, Bool.and_eq_true] at h
  exact ⟨wi_bounds h.1, wi_bounds h.2.1, wi_bounds h.2.2⟩
theorem step_file {zs : List Rc} {j : Nat} (h : stepM zs j = 0) : fileE (zs.getD j t0) = 0 := by
  unfold stepM at h
  by_cases h1 : fileE (zs.getD j t0) = 0
  · exact h1
  · rw [if_neg h1] at h; exact absurd h h1
/-- The size of the present files. -/
def sumT (zs : List Rc) : Int := (zs.map fun p => if p.st = 1 then p.sz else 0).sum
theorem sumT_next {zs : List Rc} {k : Nat} (h : k < zs.length) : sumT (zs.take (k + 1)) = sumT (zs.take k) + (if (zs.getD k t0).st = 1 then (zs.getD k t0).sz else 0) := by
  rw [List.take_succ_eq_append_getElem h, getD_at h]
  unfold sumT
  rw [List.map_append, List.sum_append]
  simp
def totR (zs : List Rc) (n : Nat) : Int := if chk zs n = 0 then sumT zs else 0
set_option maxRecDepth 100000 in
set_option maxHeartbeats 4000000 in
theorem total15 (A : Option Addr) (n c : Nat) (zs : List Rc) (w : World) (h : Rcs w A n c zs) (hn : n ≤ 900000) : Calls Try.prog 15 #[.slice A n c] w fun e w' => e = .returned (.int .i64 (totR zs n)) ∧ Below w.heap.size w w' := by
  have H := Lib.hid h
  have HL := Lib.hid h.len
  have HC := Lib.hid (check13 A n c zs w h hn)
  by_cases hc : chk zs n = 0
  · have HF := Lib.hid (show totR zs n = sumT zs from if_pos hc)
    have HB := Lib.hid (fun j (hj : j < n) => (rg_bounds (fileE_zero (step_file (chk_steps hc j hj))).2).1)
    rw [hc] at HC
    clear h hc
    go_enter Try.func15, Try.ntmps15
    go_wp2_with (go_at_call 13; (with_reducible refine HC.out.mono ?_); rintro e w1 ⟨rfl, hb1⟩; have B1 := Lib.hid hb1; clear hb1)
    go_loopg [3, 5, 11] n (fun gg s3 _ s11 wr => ∃ (kk : Nat) (z : Int), kk ≤ n ∧ n - kk ≤ gg ∧ s3 = .int .i64 z ∧ s11 = .int .i64 kk ∧ Hid (z = sumT (zs.take kk)) ∧ 0 ≤ z ∧ z ≤ (kk : Int) * 1000000000000 ∧ Hid (Below w.heap.size w wr))
    case atStart => exact ⟨0, 0, Nat.zero_le _, by omega, rfl, rfl, Lib.hid (by rw [List.take_zero]; rfl), by omega, by omega, B1⟩
    case round =>
      obtain ⟨kk, z, hkk, hg, rfl, rfl, HZ, hz0, hz1, BW⟩ := hrel
      by_cases hlt : kk < n
      · have hltz : (kk : Int) < (n : Int) := by omega
        obtain ⟨b, off, rfl, hbl, k0, k1, k2, k3, k4, _⟩ := (H.out.below BW.out).at_ hlt
        have HN := Lib.hid (sumT_next (zs := zs) (k := kk) (by rw [HL.out]; exact hlt))
        obtain ⟨q0, q1⟩ := HB.out kk hlt
        generalize zs.getD kk t0 = p at k0 k1 k2 k3 k4 HN q0 q1
        by_cases hp : p.st = 1
        · have HZ2 := Lib.hid (show z + p.sz = sumT (zs.take (kk + 1)) by rw [HN.out, HZ.out, if_pos hp])
          have hpb : (p.st == 1) = true := by simpa using hp
          have ew : IntKind.i64.wrap (z + p.sz) = z + p.sz := IntWalk.i64_in _ (by omega)
          have hs0 : 0 ≤ z + p.sz := by omega
          have hs1 : z + p.sz ≤ ((kk + 1 : Nat) : Int) * 1000000000000 := by omega
          clear hp
          go_wp2
          go_roundg (n - (kk + 1))
          case measure => omega
          case rel => exact ⟨kk + 1, z + p.sz, by omega, by omega, rfl, by go_num, HZ2, hs0, hs1, Lib.hid (BW.out.alloc BW.out.size _)⟩
        · have HZ2 := Lib.hid (show z = sumT (zs.take (kk + 1)) by rw [HN.out, HZ.out, if_neg hp]; omega)
          have hpb : (p.st == 1) = false := by simpa using hp
          have hs1 : z ≤ ((kk + 1 : Nat) : Int) * 1000000000000 := by omega
          clear hp
          go_wp2
          go_roundg (n - (kk + 1))
          case measure => omega
          case rel => exact ⟨kk + 1, z, by omega, by omega, rfl, by go_num, HZ2, hz0, hs1, Lib.hid (BW.out.alloc BW.out.size _)⟩
      · have hltz : ¬ (kk : Int) < (n : Int) := by omega
        have HZ2 := Lib.hid (show z = sumT zs by rw [HZ.out, List.take_of_length_le (by rw [HL.out]; omega)])
        go_wp2
        go_ret
        exact ⟨ret_i64 (by rw [HF.out, HZ2.out]), BW.out⟩
  · have HF := Lib.hid (show totR zs n = 0 from if_neg hc)
    have hrb : (chk zs n != 0) = true := by simpa using hc
    generalize chk zs n = r at HC hc hrb
    have hrc : (r == 0) = false := by simpa using hc
    clear h hc
    go_enter Try.func15, Try.ntmps15
    go_wp2_with (go_at_call 13; (with_reducible refine HC.out.mono ?_); rintro e w1 ⟨rfl, hb1⟩)
    go_ret
    exact ⟨ret_i64 HF.out.symm, hb1⟩
set_option maxRecDepth 100000 in
set_option maxHeartbeats 4000000 in
theorem total16 (A : Option Addr) (n c : Nat) (zs : List Rc) (w : World) (h : Rcs w A n c zs) (hn : n ≤ 900000) : Calls Try.prog 16 #[.slice A n c] w fun e w' => e = .returned (.int .i64 (totR zs n)) ∧ Below w.heap.size w w' := by
  have H := Lib.hid h
  have HL := Lib.hid h.len
  have HC := Lib.hid (check14 A n c zs w h hn)
  by_cases hc : chk zs n = 0
  · have HF := Lib.hid (show totR zs n = sumT zs from if_pos hc)
    have HB := Lib.hid (fun j (hj : j < n) => (rg_bounds (fileE_zero (step_file (chk_steps hc j hj))).2).1)
    rw [hc] at HC
    clear h hc
    go_enter Try.func16, Try.ntmps16
    go_wp2_with (go_at_call 14; (with_reducible refine HC.out.mono ?_); rintro e w1 ⟨rfl, hb1⟩; have B1 := Lib.hid hb1; clear hb1)
    go_loopg [3, 4] n (fun gg s3 s11 wr => ∃ (kk : Nat) (z : Int), kk ≤ n ∧ n - kk ≤ gg ∧ s3 = .int .i64 z ∧ s11 = .int .i64 kk ∧ Hid (z = sumT (zs.take kk)) ∧ 0 ≤ z ∧ z ≤ (kk : Int) * 1000000000000 ∧ Hid (Below w.heap.size w wr))
    case atStart => exact ⟨0, 0, Nat.zero_le _, by omega, rfl, rfl, Lib.hid (by rw [List.take_zero]; rfl), by omega, by omega, B1⟩
    case round =>
      obtain ⟨kk, z, hkk, hg, rfl, rfl, HZ, hz0, hz1, BW⟩ := hrel
      by_cases hlt : kk < n
      · have hltz : (kk : Int) < (n : Int) := by omega
        obtain ⟨b, off, rfl, hbl, k0, k1, k2, k3, k4, _⟩ := (H.out.below BW.out).at_ hlt
        have HN := Lib.hid (sumT_next (zs := zs) (k := kk) (by rw [HL.out]; exact hlt))
        obtain ⟨q0, q1⟩ := HB.out kk hlt
        generalize zs.getD kk t0 = p at k0 k1 k2 k3 k4 HN q0 q1
        by_cases hp : p.st = 1
        · have HZ2 := Lib.hid (show z + p.sz = sumT (zs.take (kk + 1)) by rw [HN.out, HZ.out, if_pos hp])
          have hpb : (p.st == 1) = true := by simpa using hp
          have ew : IntKind.i64.wrap (z + p.sz) = z + p.sz := IntWalk.i64_in _ (by omega)
          have hs0 : 0 ≤ z + p.sz := by omega
          have hs1 : z + p.sz ≤ ((kk + 1 : Nat) : Int) * 1000000000000 := by omega
          clear hp
          go_wp2
          go_roundg (n - (kk + 1))
          case measure => omega
          case rel => exact ⟨kk + 1, z + p.sz, by omega, by omega, rfl, by go_num, HZ2, hs0, hs1, BW⟩
        · have HZ2 := Lib.hid (show z = sumT (zs.take (kk + 1)) by rw [HN.out, HZ.out, if_neg hp]; omega)
          have hpb : (p.st == 1) = false := by simpa using hp
          have hs1 : z ≤ ((kk + 1 : Nat) : Int) * 1000000000000 := by omega
          clear hp
          go_wp2
          go_roundg (n - (kk + 1))
          case measure => omega
          case rel => exact ⟨kk + 1, z, by omega, by omega, rfl, by go_num, HZ2, hz0, hs1, BW⟩
      · have hltz : ¬ (kk : Int) < (n : Int) := by omega
        have HZ2 := Lib.hid (show z = sumT zs by rw [HZ.out, List.take_of_length_le (by rw [HL.out]; omega)])
        go_wp2
        go_ret
        exact ⟨ret_i64 (by rw [HF.out, HZ2.out]), BW.out⟩
  · have HF := Lib.hid (show totR zs n = 0 from if_neg hc)
    have hrb : (chk zs n != 0) = true := by simpa using hc
    generalize chk zs n = r at HC hc hrb
    have hrc : (r == 0) = false := by simpa using hc
    clear h hc
    go_enter Try.func16, Try.ntmps16
    go_wp2_with (go_at_call 14; (with_reducible refine HC.out.mono ?_); rintro e w1 ⟨rfl, hb1⟩)
    go_ret
    exact ⟨ret_i64 HF.out.symm, hb1⟩
end Go.Proofs.Ytahcmhjcpkjccaa
