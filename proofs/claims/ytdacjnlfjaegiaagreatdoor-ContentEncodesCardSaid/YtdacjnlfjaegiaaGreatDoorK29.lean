/- What is small; kinds of states. No condition. -/
import Derived.Test.YtdacjnlfjaegiaaGreatDoorK28
namespace Go.Proofs.YtdacjnlfjaegiaaGreatDoor
open Go Go.RowKit
set_option linter.unusedVariables false
set_option linter.unusedSimpArgs false
set_option maxRecDepth 100000

/-- A test that tells P. -/
def QB (P C : Prop) (e : Ending) : Prop := ∃ q, e = .returned (.bool q) ∧ (q = true → P) ∧ C
theorem qb_no {P C : Prop} (h : C) : QB P C (.returned (.bool false)) := ⟨_, rfl, fun e => Bool.noConfusion e, h⟩
theorem qb_yes {P C : Prop} (hp : P) (h : C) : QB P C (.returned (.bool true)) := ⟨_, rfl, fun _ => hp, h⟩
def stB (k : Int) : Bool := decide (1 ≤ k ∧ k ≤ 10)
set_option maxHeartbeats 1000000 in
theorem state27 (k : Int) (q : Bool) (hq : stB k = q) (w : World) : Calls Tryz.prog 27 #[.int .i64 k] w fun e w' => e = .returned (.bool q) ∧ w = w' := by
  by_cases h1 : 1 ≤ k
  · have z1 : k ≥ 1 := h1
    have d1 : decide (1 ≤ k) = true := decide_eq_true h1
    by_cases h2 : k ≤ 10
    · have HQ := Lib.hid (hq.symm.trans (decide_eq_true (And.intro h1 h2)))
      have d2 : decide (k ≤ 10) = true := decide_eq_true h2
      clear hq
      go_enter Tryz.func27, Tryz.ntmps27
      go_wp2
      go_ret
      exact ⟨ret_b HQ.out, rfl⟩
    · have HQ := Lib.hid (hq.symm.trans (decide_eq_false (fun h => h2 h.2)))
      have d2 : decide (k ≤ 10) = false := decide_eq_false h2
      clear hq
      go_enter Tryz.func27, Tryz.ntmps27
      go_wp2
      go_ret
      exact ⟨ret_b HQ.out, rfl⟩
  · have HQ := Lib.hid (hq.symm.trans (decide_eq_false (fun h => h1 h.1)))
    have z1 : ¬ k ≥ 1 := h1
    have d1 : decide (1 ≤ k) = false := decide_eq_false h1
    clear hq
    go_enter Tryz.func27, Tryz.ntmps27
    go_wp2
    go_ret
    exact ⟨ret_b HQ.out, rfl⟩
set_option maxHeartbeats 1000000 in
theorem state28 (k : Int) (q : Bool) (hq : stB k = q) (w : World) : Calls Tryz.prog 28 #[.int .i64 k] w fun e w' => e = .returned (.bool q) ∧ w = w' := by
  by_cases h1 : 1 ≤ k
  · have z1 : k ≥ 1 := h1
    have d1 : decide (1 ≤ k) = true := decide_eq_true h1
    by_cases h2 : k ≤ 10
    · have HQ := Lib.hid (hq.symm.trans (decide_eq_true (And.intro h1 h2)))
      have d2 : decide (k ≤ 10) = true := decide_eq_true h2
      clear hq
      go_enter Tryz.func28, Tryz.ntmps28
      go_wp2
      go_ret
      exact ⟨ret_b HQ.out, rfl⟩
    · have HQ := Lib.hid (hq.symm.trans (decide_eq_false (fun h => h2 h.2)))
      have d2 : decide (k ≤ 10) = false := decide_eq_false h2
      clear hq
      go_enter Tryz.func28, Tryz.ntmps28
      go_wp2
      go_ret
      exact ⟨ret_b HQ.out, rfl⟩
  · have HQ := Lib.hid (hq.symm.trans (decide_eq_false (fun h => h1 h.1)))
    have z1 : ¬ k ≥ 1 := h1
    have d1 : decide (1 ≤ k) = false := decide_eq_false h1
    clear hq
    go_enter Tryz.func28, Tryz.ntmps28
    go_wp2
    go_ret
    exact ⟨ret_b HQ.out, rfl⟩
set_option maxHeartbeats 4000000 in
theorem short34 (A : Option Addr) (n c : Nat) (zs : List ByteArray) (w : World) (h : Txs w A n c zs) : Calls Tryz.prog 34 #[.slice A n c] w fun e w' => QB (∀ s ∈ zs, s.size ≤ 100) (w = w') e := by
  have HT := Lib.hid h
  have hl := h.len
  have hm := h.rws.big
  unfold maxLen at hm
  have HL := Lib.hid hl
  clear h hl
  go_enter Tryz.func34, Tryz.ntmps34
  go_wp2
  go_loop [3] (fun s => ∃ (j : Nat), j ≤ n ∧ s = .int .i64 (j : Int) ∧ Hid (∀ i, i < j → (zs.getD i ByteArray.empty).size ≤ 100)) (fun s => n - (intOf s).toNat)
  case atStart => exact ⟨0, Nat.zero_le _, by go_num, Lib.hid (fun i hi => absurd hi (Nat.not_lt_zero _))⟩
  case round =>
    obtain ⟨j, hj, rfl, HJ⟩ := hrel
    by_cases hlt : j < n
    · have hltz : (j : Int) < (n : Int) := by omega
      have hk0 : (0 : Int) ≤ (j : Int) := by omega
      obtain ⟨b, off, rfl, t, ht, hts, q0⟩ := HT.out.get hlt
      have HR := Lib.hid ht
      clear ht
      by_cases e1 : 100 < t.size
      · have h1z : (100 : Int) < (t.size : Int) := by omega
        go_wp2
        go_ret
        exact qb_no rfl
      · have h1z : ¬ (100 : Int) < (t.size : Int) := by omega
        have HJ2 := Lib.hid (show ∀ i, i < j + 1 → (zs.getD i ByteArray.empty).size ≤ 100 from fun i hi => by
          by_cases e : i = j
          · subst e; rw [HR.out]; omega
          · exact HJ.out i (by omega))
        go_wp2
        go_round
        case rel => exact ⟨j + 1, by omega, by go_num, HJ2⟩
        case measure => simp [intOf]; omega
    · have hltz : ¬ (j : Int) < (n : Int) := by omega
      go_wp2
      go_ret
      refine qb_yes (fun s hs => ?_) rfl
      obtain ⟨i, hi, rfl⟩ := List.getElem_of_mem hs
      rw [getE hi]
      exact HJ.out i (by have := HL.out; omega)
set_option maxHeartbeats 4000000 in
theorem few17 (us : List (ByteArray × Int)) (ks : List (Int × Int)) (d x3 x4 x5 x6 x7 x8 : Int) (uA : Option Addr) (uC : Nat) (kA : Option Addr) (kC : Nat) (w : World) (h : IsL w ⟨us, ks, d, x3, x4, x5, x6, x7, x8⟩ uA uC kA kC) : Calls Tryz.prog 17 #[.agg #[.slice uA us.length uC, .slice kA ks.length kC, .int .i64 d, .int .i64 x3, .int .i64 x4, .int .i64 x5, .int .i64 x6, .int .i64 x7, .int .i64 x8]] w fun e w' => QB (SmL us ks) (Below w.heap.size w w') e := by
  have BA := Lib.hid ((Below.refl w.heap.size w).alloc (Nat.le_refl _) (.cells #[.slice uA us.length uC, .slice kA ks.length kC, .int .i64 d, .int .i64 x3, .int .i64 x4, .int .i64 x5, .int .i64 x6, .int .i64 x7, .int .i64 x8] 27))
  have XA := Lib.hid (blk_new w [.slice uA us.length uC, .slice kA ks.length kC, .int .i64 d, .int .i64 x3, .int .i64 x4, .int .i64 x5, .int .i64 x6, .int .i64 x7, .int .i64 x8] 27)
  have HU := Lib.hid (h.us.below BA.out)
  have hm := h.us.big
  have hm2 := h.ks.big
  unfold maxLen at hm hm2
  dsimp only at hm hm2 HU
  clear h
  generalize hW : w.alloc (.cells #[.slice uA us.length uC, .slice kA ks.length kC, .int .i64 d, .int .i64 x3, .int .i64 x4, .int .i64 x5, .int .i64 x6, .int .i64 x7, .int .i64 x8] 27) = W0 at BA XA HU
  have c0 := XA.out.cell (i := 0) rfl
  have c1 := XA.out.cell (i := 1) rfl
  by_cases h1 : 120 < us.length
  · have h1z : (120 : Int) < (us.length : Int) := by omega
    go_enter Tryz.func17, Tryz.ntmps17
    go_wp2
    go_ret
    exact qb_no BA.out
  · have h1z : ¬ (120 : Int) < (us.length : Int) := by omega
    by_cases h2 : 120 < ks.length
    · have h2z : (120 : Int) < (ks.length : Int) := by omega
      go_enter Tryz.func17, Tryz.ntmps17
      go_wp2
      go_ret
      exact qb_no BA.out
    · have h2z : ¬ (120 : Int) < (ks.length : Int) := by omega
      go_enter Tryz.func17, Tryz.ntmps17
      go_wp2
      go_loop [3] (fun s => ∃ (j : Nat), j ≤ us.length ∧ s = .int .i64 (j : Int) ∧ Hid (∀ i, i < j → (fU us i).1.size ≤ 100)) (fun s => us.length - (intOf s).toNat)
      case atStart => exact ⟨0, Nat.zero_le _, by go_num, Lib.hid (fun i hi => absurd hi (Nat.not_lt_zero _))⟩
      case round =>
        obtain ⟨j, hj, rfl, HJ⟩ := hrel
        by_cases hlt : j < us.length
        · have hltz : (j : Int) < (us.length : Int) := by omega
          have hk0 : (0 : Int) ≤ (j : Int) := by omega
          obtain ⟨b, off, rfl, q0, _⟩ := HU.out.user hlt
          have HJ1 := Lib.hid (fun (h : (fU us j).1.size ≤ 100) => show ∀ i, i < j + 1 → (fU us i).1.size ≤ 100 from fun i hi => by
            by_cases e : i = j
            · subst e; exact h
            · exact HJ.out i (by omega))
          generalize (fU us j).1 = t at q0 HJ1
          by_cases e1 : 100 < t.size
          · have h3z : (100 : Int) < (t.size : Int) := by omega
            go_wp2
            go_ret
            exact qb_no BA.out
          · have h3z : ¬ (100 : Int) < (t.size : Int) := by omega
            have HJ2 := Lib.hid (HJ1.out (by omega))
            go_wp2
            go_round
            case rel => exact ⟨j + 1, by omega, by go_num, HJ2⟩
            case measure => simp [intOf]; omega
        · have hltz : ¬ (j : Int) < (us.length : Int) := by omega
          go_wp2
          go_ret
          refine qb_yes ⟨by omega, by omega, fun p hp => ?_⟩ BA.out
          obtain ⟨i, hi, rfl⟩ := List.getElem_of_mem hp
          have := HJ.out i (by omega)
          rw [fU_at hi] at this
          omega
end Go.Proofs.YtdacjnlfjaegiaaGreatDoor
