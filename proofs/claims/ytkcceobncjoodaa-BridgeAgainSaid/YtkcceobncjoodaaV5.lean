/- Identities of other networks: Same at equal lists; Great, great. Bound: at most 1000000 ghosts. -/
import Derived.Test.YtkcceobncjoodaaV4
namespace Go.Proofs.Ytkcceobncjoodaa
open Go.RowKit
set_option linter.unusedVariables false
set_option linter.unusedSimpArgs false

set_option maxRecDepth 100000 in
set_option maxHeartbeats 8000000 in
theorem same18 (A1 A2 : Option Addr) (c1 c2 : Nat) (zs : List Rc) (w : World) (h1 : Rcs w A1 zs.length c1 zs) (h2 : Rcs w A2 zs.length c2 zs) (hn : zs.length ≤ 1000000) : Calls Try.prog 18 #[.slice A1 zs.length c1, .slice A2 zs.length c2] w fun e w' => e = .returned (.bool true) ∧ Below w.heap.size w w' := by
  have H1 := Lib.hid h1
  have H2 := Lib.hid h2
  obtain ⟨n, hnn⟩ : ∃ n, n = zs.length := ⟨_, rfl⟩
  rw [← hnn] at H1 H2 hn ⊢
  clear h1 h2 hnn
  go_enter Try.func18, Try.ntmps18
  go_wp2
  go_loopg [5] n (fun gg s5 wr => ∃ kk : Nat, kk ≤ n ∧ n - kk ≤ gg ∧ s5 = .int .i64 kk ∧ Hid (Below w.heap.size w wr))
  case atStart => exact ⟨0, Nat.zero_le _, by omega, rfl, Lib.hid (Below.refl _ _)⟩
  case round =>
    obtain ⟨kk, hkk, hg, rfl, BW⟩ := hrel
    by_cases hlt : kk < n
    · have hltz : (kk : Int) < (n : Int) := by omega
      obtain ⟨b, off, rfl, hbl, k0, k1, k2, _⟩ := (H1.out.below BW.out).at_ hlt
      obtain ⟨b2, off2, rfl, hbl2, q0, q1, q2, _⟩ := (H2.out.below BW.out).at_ hlt
      generalize zs.getD kk t0 = p at k0 k1 k2 q0 q1 q2
      go_wp2
      all_goals go_quiet (fail)
      all_goals go_wp2
      all_goals go_roundg (n - (kk + 1))
      all_goals first
        | omega
        | exact ⟨kk + 1, by omega, by omega, by go_num, Lib.hid (below_drewN BW.out _)⟩
    · have hltz : ¬ (kk : Int) < (n : Int) := by omega
      go_wp2
      go_ret
      exact ⟨rfl, BW.out⟩
def sh1 (p : Rc) : Prop := p.nt.size ≤ 100 ∧ p.na.size ≤ 100 ∧ p.us.size ≤ 100
instance (p : Rc) : Decidable (sh1 p) := inferInstanceAs (Decidable (_ ∧ _ ∧ _))
def grL (zs : List Rc) (n : Nat) (K : Int) : Bool := decide (K < (n : Int)) || zs.any (fun p => !decide (sh1 p))
theorem grL_no {zs : List Rc} {n : Nat} {K : Int} (h : grL zs n K = false) : (n : Int) ≤ K ∧ Sh 100 zs := by
  unfold grL at h
  rw [Bool.or_eq_false_iff, List.any_eq_false] at h
  exact ⟨by simpa using h.1, fun p hp => by have h2 := h.2 p hp; simp only [Bool.not_eq_true', Bool.not_eq_false', decide_eq_true_eq, decide_eq_false_iff_not, Decidable.not_not, Bool.not_eq_true] at h2; exact h2⟩
theorem grL_len {zs : List Rc} {n : Nat} {K : Int} (h : K < (n : Int)) : grL zs n K = true := by
  unfold grL
  rw [decide_eq_true h, Bool.true_or]
theorem grL_all {zs : List Rc} {n : Nat} {K : Int} (h : ¬ K < (n : Int)) (hl : zs.length = n) (ha : ∀ j, j < n → sh1 (zs.getD j t0)) : grL zs n K = false := by
  unfold grL
  rw [decide_eq_false h, Bool.false_or, List.any_eq_false]
  intro p hp
  obtain ⟨j, hj, rfl⟩ := List.getElem_of_mem hp
  have := ha j (by omega)
  rw [getD_at hj] at this
  simpa using this
theorem grL_at {zs : List Rc} {n k : Nat} {K : Int} (hk : k < zs.length) (h : ¬ sh1 (zs.getD k t0)) : grL zs n K = true := by
  unfold grL
  rw [getD_at hk] at h
  rw [List.any_eq_true.2 ⟨_, List.getElem_mem hk, by simpa using h⟩, Bool.or_true]
set_option maxRecDepth 100000 in
set_option maxHeartbeats 8000000 in
theorem great15 (A : Option Addr) (n c : Nat) (zs : List Rc) (K : Int) (hK : 0 ≤ K ∧ K ≤ 1000) (w : World) (h : Rcs w A n c zs) : Calls Try.prog 15 #[.slice A n c, .int .i64 K] w fun e w' => e = .returned (.bool (grL zs n K)) ∧ Below w.heap.size w w' := by
  by_cases hn : K < (n : Int)
  · rw [grL_len hn]
    clear h
    go_enter Try.func15, Try.ntmps15
    go_wp2
    go_ret
    exact ⟨rfl, Below.refl _ _⟩
  · have H := Lib.hid h
    have HL := Lib.hid h.len
    have HN := Lib.hid hn
    clear h
    go_enter Try.func15, Try.ntmps15
    go_wp2
    go_loopg [5] n (fun gg s5 wr => ∃ kk : Nat, kk ≤ n ∧ n - kk ≤ gg ∧ s5 = .int .i64 kk ∧ Hid (∀ j, j < kk → sh1 (zs.getD j t0)) ∧ Hid (Below w.heap.size w wr))
    case atStart => exact ⟨0, Nat.zero_le _, by omega, rfl, Lib.hid (fun j hj => absurd hj (Nat.not_lt_zero _)), Lib.hid (Below.refl _ _)⟩
    case round =>
      obtain ⟨kk, hkk, hg, rfl, HJ, BW⟩ := hrel
      by_cases hlt : kk < n
      · have hltz : (kk : Int) < (n : Int) := by omega
        obtain ⟨b, off, rfl, hbl, k0, k1, k2, _⟩ := (H.out.below BW.out).at_ hlt
        have HA := Lib.hid (fun h => grL_at (zs := zs) (n := n) (k := kk) (K := K) (by rw [HL.out]; exact hlt) h)
        have HSd : Hid (sh1 (zs.getD kk t0) → sh1 (zs.getD kk t0)) := Lib.hid id
        generalize hz : zs.getD kk t0 = p at k0 k1 k2 HA HSd
        have HZ := Lib.hid hz
        clear hz
        by_cases g1 : (100 : Int) < (p.nt.size : Int)
        · have HT := Lib.hid (HA.out (fun h => by have := h.1; omega))
          go_wp2
          go_ret
          exact ⟨ret_bool (by rw [HT.out]), BW.out⟩
        · by_cases g2 : (100 : Int) < (p.na.size : Int)
          · have HT := Lib.hid (HA.out (fun h => by have := h.2.1; omega))
            go_wp2
            go_ret
            exact ⟨ret_bool (by rw [HT.out]), BW.out⟩
          · by_cases g3 : (100 : Int) < (p.us.size : Int)
            · have HT := Lib.hid (HA.out (fun h => by have := h.2.2; omega))
              go_wp2
              go_ret
              exact ⟨ret_bool (by rw [HT.out]), BW.out⟩
            · have HOk := Lib.hid (show sh1 p from ⟨by omega, by omega, by omega⟩)
              go_wp2
              go_roundg (n - (kk + 1))
              case measure => omega
              case rel =>
                refine ⟨kk + 1, by omega, by omega, by go_num, Lib.hid (fun j hj => ?_), BW⟩
                by_cases e : j = kk
                · subst e; rw [HZ.out]; exact HOk.out
                · exact HJ.out j (by omega)
      · have hltz : ¬ (kk : Int) < (n : Int) := by omega
        obtain rfl : kk = n := by omega
        have HT := Lib.hid (grL_all (show ¬ K < (kk : Int) by have := HN.out; omega) HL.out HJ.out)
        go_wp2
        go_ret
        exact ⟨ret_bool (by rw [HT.out]), BW.out⟩
set_option maxHeartbeats 4000000 in
theorem great9 (a b c : ByteArray) (w : World) : Calls Try.prog 9 #[.agg #[.string a, .string b, .string c]] w fun e w' => e = .returned (.bool (!decide (sh1 ⟨a, b, c⟩))) ∧ Below w.heap.size w w' := by
  have BA := Lib.hid ((Below.refl w.heap.size w).alloc (Nat.le_refl _) (.cells #[.string a, .string b, .string c] 23))
  by_cases g1 : (100 : Int) < (a.size : Int)
  · rw [decide_eq_false (fun h : sh1 ⟨a, b, c⟩ => by have := h.1; simp only at this; omega)]
    go_enter Try.func9, Try.ntmps9
    go_wp2
    go_ret
    exact ⟨rfl, BA.out⟩
  · by_cases g2 : (100 : Int) < (b.size : Int)
    · rw [decide_eq_false (fun h : sh1 ⟨a, b, c⟩ => by have := h.2.1; simp only at this; omega)]
      go_enter Try.func9, Try.ntmps9
      go_wp2
      go_ret
      exact ⟨rfl, BA.out⟩
    · by_cases g3 : (100 : Int) < (c.size : Int)
      · rw [decide_eq_false (fun h : sh1 ⟨a, b, c⟩ => by have := h.2.2; simp only at this; omega)]
        go_enter Try.func9, Try.ntmps9
        go_wp2
        go_ret
        exact ⟨rfl, BA.out⟩
      · rw [decide_eq_true (show sh1 ⟨a, b, c⟩ from ⟨by simp only; omega, by simp only; omega, by simp only; omega⟩)]
        go_enter Try.func9, Try.ntmps9
        go_wp2
        go_ret
        exact ⟨rfl, BA.out⟩
end Go.Proofs.Ytkcceobncjoodaa
