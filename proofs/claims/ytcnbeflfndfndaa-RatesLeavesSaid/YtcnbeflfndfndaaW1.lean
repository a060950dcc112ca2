/- The walks of the rate limits' helpers: whole intervals that have passed, whether a bucket is full, how many tokens it has. Condition: the bucket is right, and the time is an int. -/
import Derived.Test.YtcnbeflfndfndaaRows
import Derived.WalkKit
import Derived.WalkSpells
import Derived.WalkLawsBesides
import Derived.Lib.Hide
import Derived.Deep.RegionWith
import Derived.Deep.RegionHeld3
import Derived.Deep.QuietTactic
import Derived.BigQuiet
namespace Go.Proofs.Ytcnbeflfndfndaa
open Go.RowKit
set_option linter.unusedVariables false

theorem bcell {W w1 : World} (hb : Below W.heap.size W w1) : (∀ b o, b < W.heap.size → w1.cell? ⟨b, o, none⟩ = W.cell? ⟨b, o, none⟩) ∧ (∀ b o, b < W.heap.size → w1.frozen? ⟨b, o, none⟩ = W.frozen? ⟨b, o, none⟩) :=
  ⟨fun b o h => hb.cell (p := ⟨b, o, none⟩) h, fun b o h => hb.frozen (p := ⟨b, o, none⟩) h⟩
theorem ret_i64 {a b : Int} (h : a = b) : Ending.returned (.int .i64 a) = .returned (.int .i64 b) := by rw [h]

/-- A bucket as a value: Left, At, Most, Every. -/
abbrev bk (L A M E : Int) : Value := .agg #[.int .i64 L, .int .i64 A, .int .i64 M, .int .i64 E]

/-- Whole intervals from A to now. -/
@[irreducible] def arr (A E now : Int) : Int := if A ≤ now then (now - A) / E else 0
theorem arr_hi {A E now : Int} (h : A ≤ now) : (now - A) / E = arr A E now := by unfold arr; rw [if_pos h]
theorem arr_lo {A E now : Int} (h : now < A) : arr A E now = 0 := by unfold arr; rw [if_neg (by omega)]
theorem arr_nn {A E now : Int} (hE : 1 ≤ E) : 0 ≤ arr A E now := by
  unfold arr; split
  · exact Int.ediv_nonneg (by omega) (by omega)
  · omega
theorem arr_le {A E now : Int} (hE : 1 ≤ E) (hA : 0 ≤ A) (hn : now ≤ 9223372036854775807) : arr A E now ≤ 9223372036854775807 := by
  unfold arr; split
  · have := Int.ediv_le_self E (a := now - A) (by omega); omega
  · omega

/-- A right bucket. -/
structure Ok (L A M E : Int) : Prop where
  m0 : 1 ≤ M
  m1 : M ≤ 1000000
  e0 : 1 ≤ E
  e1 : E ≤ 1000000000
  l0 : 0 ≤ L
  l1 : L ≤ M
  a0 : 0 ≤ A
  a1 : A ≤ 1000000000

set_option maxHeartbeats 400000 in
theorem arrived_any (L A M E now : Int) (ok : Ok L A M E) (hn0 : -9223372036854775808 ≤ now) (hn1 : now ≤ 9223372036854775807) (w : World) :
    Calls Try.prog 24 #[bk L A M E, .int .i64 now] w fun e w' => e = .returned (.int .i64 (arr A E now)) ∧ Below w.heap.size w w' := by
  obtain ⟨m0, m1, e0, e1, l0, l1, a0, a1⟩ := ok
  by_cases h : A ≤ now
  · go_enter Try.func24, Try.ntmps24
    go_wp2
    go_ret
    exact ⟨ret_i64 (arr_hi h), (Below.refl _ _).alloc (Nat.le_refl _) _⟩
  · have h : now < A := by omega
    have Hz := Lib.hid (arr_lo (E := E) h)
    go_enter Try.func24, Try.ntmps24
    go_wp2
    go_ret
    exact ⟨ret_i64 (by rw [Hz.out]), (Below.refl _ _).alloc (Nat.le_refl _) _⟩

set_option maxHeartbeats 400000 in
theorem full_any (L A M E now : Int) (ok : Ok L A M E) (hn0 : -9223372036854775808 ≤ now) (hn1 : now ≤ 9223372036854775807) (w : World) :
    Calls Try.prog 23 #[bk L A M E, .int .i64 now] w fun e w' => e = .returned (.bool (decide (M - L ≤ arr A E now))) ∧ Below w.heap.size w w' := by
  have ok2 := ok
  obtain ⟨m0, m1, e0, e1, l0, l1, a0, a1⟩ := ok
  have hw := IntWalk.i64_in (M - L) (by omega)
  go_enter Try.func23, Try.ntmps23
  go_wp2
  go_region_held3 (fun w' => w'.cell? ⟨w.heap.size, 0, none⟩ = some (.int .i64 L) ∧ w'.cell? ⟨w.heap.size, 1, none⟩ = some (.int .i64 A) ∧ w'.cell? ⟨w.heap.size, 2, none⟩ = some (.int .i64 M) ∧ w'.cell? ⟨w.heap.size, 3, none⟩ = some (.int .i64 E)) (go_keep)
    (first | (go_at_call 24; refine (arrived_any _ _ _ _ _ ok2 hn0 hn1 _).mono ?_; rintro e w1 ⟨rfl, hb1⟩; obtain ⟨hc1, hf1⟩ := bcell hb1))
  all_goals go_wp2
  go_ret
  exact ⟨rfl, Below.trans (by repeat (first | exact (Below.refl _ _).alloc (Nat.le_refl _) _ | apply Below.drew)) (hb1.mono (by simp))⟩

/-- How many tokens a right bucket has. -/
@[irreducible] def cnt (L A M E now : Int) : Int := if M - L ≤ arr A E now then M else L + arr A E now
theorem cnt_full {L A M E now : Int} (h : M - L ≤ arr A E now) : M = cnt L A M E now := by unfold cnt; rw [if_pos h]
theorem cnt_less {L A M E now : Int} (h : ¬ M - L ≤ arr A E now) : L + arr A E now = cnt L A M E now := by unfold cnt; rw [if_neg h]
theorem cnt_bd {L A M E now : Int} (ok : Ok L A M E) : 0 ≤ cnt L A M E now ∧ cnt L A M E now ≤ M := by
  have := arr_nn (A := A) (now := now) ok.e0
  have := ok.l0
  have := ok.l1
  unfold cnt; split <;> omega

set_option maxHeartbeats 400000 in
theorem count_any (L A M E now : Int) (ok : Ok L A M E) (hn0 : -9223372036854775808 ≤ now) (hn1 : now ≤ 9223372036854775807) (w : World) :
    Calls Try.prog 22 #[bk L A M E, .int .i64 now] w fun e w' => e = .returned (.int .i64 (cnt L A M E now)) ∧ Below w.heap.size w w' := by
  have ok2 := ok
  obtain ⟨m0, m1, e0, e1, l0, l1, a0, a1⟩ := ok
  have hz := arr_nn (A := A) (now := now) e0
  by_cases hf : M - L ≤ arr A E now
  · have hd : decide (M - L ≤ arr A E now) = true := by simpa using hf
    have Hf := Lib.hid (cnt_full hf)
    have c1 : ∀ w, Calls Try.prog 23 #[bk L A M E, .int .i64 now] w fun e w' => e = .returned (.bool true) ∧ Below w.heap.size w w' := fun w => (full_any L A M E now ok2 hn0 hn1 w).mono fun e w' ⟨he, hb⟩ => ⟨by rw [he, hd], hb⟩
    have C1 := Lib.hid c1
    clear hf hd c1
    go_enter Try.func22, Try.ntmps22
    go_wp2_with (go_at_call 23; refine (C1.out _).mono ?_; rintro e w1 ⟨rfl, hb1⟩; obtain ⟨hc1, hf1⟩ := bcell hb1)
    go_ret
    exact ⟨ret_i64 Hf.out, Below.trans ((Below.refl _ _).alloc (Nat.le_refl _) _) (hb1.mono (by simp))⟩
  · have hd : decide (M - L ≤ arr A E now) = false := by simpa using hf
    have Hf := Lib.hid (cnt_less hf)
    have c1 : ∀ w, Calls Try.prog 23 #[bk L A M E, .int .i64 now] w fun e w' => e = .returned (.bool false) ∧ Below w.heap.size w w' := fun w => (full_any L A M E now ok2 hn0 hn1 w).mono fun e w' ⟨he, hb⟩ => ⟨by rw [he, hd], hb⟩
    have C1 := Lib.hid c1
    have hw := IntWalk.i64_in (L + arr A E now) (by omega)
    clear hf hd c1
    go_enter Try.func22, Try.ntmps22
    go_wp2_with (go_at_call 23; refine (C1.out _).mono ?_; rintro e w1 ⟨rfl, hb1⟩; obtain ⟨hc1, hf1⟩ := bcell hb1)
    have hsz : w.heap.size < w1.heap.size := by have := hb1.size; simp at this; omega
    have k0 : w1.cell? ⟨w.heap.size, 0, none⟩ = some (.int .i64 L) := by rw [hc1 _ _ (by simp)]; go_simp
    have k1 : w1.cell? ⟨w.heap.size, 1, none⟩ = some (.int .i64 A) := by rw [hc1 _ _ (by simp)]; go_simp
    have k2 : w1.cell? ⟨w.heap.size, 2, none⟩ = some (.int .i64 M) := by rw [hc1 _ _ (by simp)]; go_simp
    have k3 : w1.cell? ⟨w.heap.size, 3, none⟩ = some (.int .i64 E) := by rw [hc1 _ _ (by simp)]; go_simp
    clear hc1 hf1
    have Hb1 := Lib.hid hb1
    clear hb1
    go_region_held3 (fun w' => w'.cell? ⟨w.heap.size, 0, none⟩ = some (.int .i64 L) ∧ w'.cell? ⟨w.heap.size, 1, none⟩ = some (.int .i64 A) ∧ w'.cell? ⟨w.heap.size, 2, none⟩ = some (.int .i64 M) ∧ w'.cell? ⟨w.heap.size, 3, none⟩ = some (.int .i64 E)) (go_keep)
      (first | (go_at_call 24; refine (arrived_any _ _ _ _ _ ok2 hn0 hn1 _).mono ?_; rintro e w2 ⟨rfl, hb2⟩; have y0 := (hb2.cell (p := ⟨w.heap.size, 0, none⟩) hsz).trans k0; have y1 := (hb2.cell (p := ⟨w.heap.size, 1, none⟩) hsz).trans k1; have y2 := (hb2.cell (p := ⟨w.heap.size, 2, none⟩) hsz).trans k2; have y3 := (hb2.cell (p := ⟨w.heap.size, 3, none⟩) hsz).trans k3))
    all_goals go_wp2
    go_ret
    exact ⟨ret_i64 Hf.out, Below.trans ((Below.refl _ _).alloc (Nat.le_refl _) _) ((Hb1.out.mono (by simp)).trans (Below.trans (by repeat (first | exact Below.refl _ _ | apply Below.drew)) (hb2.mono (Nat.le_of_lt hsz))))⟩
end Go.Proofs.Ytcnbeflfndfndaa
