/- The walks of `Left`, `New` and `Take`. Condition: the numbers are ints. -/
import Derived.Test.YtcnbeflfndfndaaW2
namespace Go.Proofs.Ytcnbeflfndfndaa
open Go.RowKit
set_option linter.unusedVariables false

theorem check_ok {L A M E : Int} (ok : Ok L A M E) (w : World) : Calls Try.prog 12 #[bk L A M E] w fun e w' => e = .returned (.int .i64 0) ∧ Below w.heap.size w w' :=
  (check_any L A M E w).mono fun e w' ⟨he, hb⟩ => ⟨by rw [he, chk_yes ok], hb⟩
theorem check_bad {L A M E : Int} (ok : ¬ Ok L A M E) (w : World) : Calls Try.prog 12 #[bk L A M E] w fun e w' => e = .returned (.int .i64 2) ∧ Below w.heap.size w w' :=
  (check_any L A M E w).mono fun e w' ⟨he, hb⟩ => ⟨by rw [he, chk_no ok], hb⟩
theorem rcheck_ok {L A M E : Int} (ok : Ok L A M E) (w : World) : Calls Try.prog 13 #[bk L A M E] w fun e w' => e = .returned (.int .i64 0) ∧ Below w.heap.size w w' :=
  (rcheck_any L A M E w).mono fun e w' ⟨he, hb⟩ => ⟨by rw [he, chk_yes ok], hb⟩
theorem rcheck_bad {L A M E : Int} (ok : ¬ Ok L A M E) (w : World) : Calls Try.prog 13 #[bk L A M E] w fun e w' => e = .returned (.int .i64 2) ∧ Below w.heap.size w w' :=
  (rcheck_any L A M E w).mono fun e w' ⟨he, hb⟩ => ⟨by rw [he, chk_no ok], hb⟩
theorem istime_yes {now : Int} (h : 0 ≤ now ∧ now ≤ 1000000000) (w : World) : Calls Try.prog 21 #[.int .i64 now] w fun e w' => e = .returned (.bool true) ∧ w = w' :=
  (istime_any now w).mono fun e w' ⟨he, hb⟩ => ⟨by rw [he, tim_yes.2 h], hb⟩
theorem istime_no {now : Int} (h : ¬ (0 ≤ now ∧ now ≤ 1000000000)) (w : World) : Calls Try.prog 21 #[.int .i64 now] w fun e w' => e = .returned (.bool false) ∧ w = w' :=
  (istime_any now w).mono fun e w' ⟨he, hb⟩ => ⟨by rw [he, tim_no.2 h], hb⟩

/-- How many tokens a bucket has, a wrong one none. -/
@[irreducible] def lef (L A M E now : Int) : Int := if Ok L A M E then cnt L A M E now else 0
theorem lef_yes {L A M E now : Int} (h : Ok L A M E) : cnt L A M E now = lef L A M E now := by unfold lef; rw [if_pos h]
theorem lef_no {L A M E now : Int} (h : ¬ Ok L A M E) : 0 = lef L A M E now := by unfold lef; rw [if_neg h]

set_option maxHeartbeats 400000 in
theorem left_any (L A M E now : Int) (hn0 : -9223372036854775808 ≤ now) (hn1 : now ≤ 9223372036854775807) (w : World) :
    Calls Try.prog 17 #[bk L A M E, .int .i64 now] w fun e w' => e = .returned (.int .i64 (lef L A M E now)) ∧ Below w.heap.size w w' := by
  by_cases ok : Ok L A M E
  · have Hf := Lib.hid (lef_yes (now := now) ok)
    go_enter Try.func17, Try.ntmps17
    go_wp2_with (first
      | (go_at_call 12; refine (check_ok ok _).mono ?_; rintro e w1 ⟨rfl, hb1⟩; obtain ⟨hc1, hf1⟩ := bcell hb1)
      | (go_at_call 22; refine (count_any _ _ _ _ _ ok hn0 hn1 _).mono ?_; rintro e w2 ⟨rfl, hb2⟩))
    go_ret
    exact ⟨ret_i64 Hf.out, Below.trans ((Below.refl _ _).alloc (Nat.le_refl _) _) ((hb1.mono (by simp)).trans (hb2.mono (by have := hb1.size; simp at this; omega)))⟩
  · have Hf := Lib.hid (lef_no (now := now) ok)
    go_enter Try.func17, Try.ntmps17
    go_wp2_with (first
      | (go_at_call 12; refine (check_bad ok _).mono ?_; rintro e w1 ⟨rfl, hb1⟩; obtain ⟨hc1, hf1⟩ := bcell hb1))
    go_ret
    exact ⟨ret_i64 Hf.out, Below.trans ((Below.refl _ _).alloc (Nat.le_refl _) _) (hb1.mono (by simp))⟩

/-- What New returns. -/
@[irreducible] def nw (m e : Int) : Value := if Ok m 0 m e then .tuple #[bk m 0 m e, .int .i64 0] else .tuple #[bk 0 0 0 0, .int .i64 2]
theorem nw_yes {m e : Int} (h : Ok m 0 m e) : Ending.returned (.tuple #[bk m 0 m e, .int .i64 0]) = .returned (nw m e) := by unfold nw; rw [if_pos h]
theorem nw_no {m e : Int} (h : ¬ Ok m 0 m e) : Ending.returned (.tuple #[bk 0 0 0 0, .int .i64 2]) = .returned (nw m e) := by unfold nw; rw [if_neg h]

set_option maxHeartbeats 400000 in
theorem new_any (m e : Int) (w : World) :
    Calls Try.prog 10 #[.int .i64 m, .int .i64 e] w fun r w' => r = .returned (nw m e) ∧ Below w.heap.size w w' := by
  by_cases ok : Ok m 0 m e
  · have Hf := Lib.hid (nw_yes ok)
    go_enter Try.func10, Try.ntmps10
    go_wp2_with (go_at_call 12; refine (check_ok ok _).mono ?_; rintro r w1 ⟨rfl, hb1⟩; obtain ⟨hc1, hf1⟩ := bcell hb1; have hz1 : w.heap.size + 1 < w1.heap.size := by have := hb1.size; simp at this; omega)
    have s0 : (w1.cell? ⟨w.heap.size, 0, none⟩).isSome = true := by rw [hc1 _ _ (by simp; omega)]; go_simp
    have s1 : (w1.cell? ⟨w.heap.size, 1, none⟩).isSome = true := by rw [hc1 _ _ (by simp; omega)]; go_simp
    have s2 : (w1.cell? ⟨w.heap.size, 2, none⟩).isSome = true := by rw [hc1 _ _ (by simp; omega)]; go_simp
    have s3 : (w1.cell? ⟨w.heap.size, 3, none⟩).isSome = true := by rw [hc1 _ _ (by simp; omega)]; go_simp
    refine bodyPost_ret (v := .tuple #[bk m 0 m e, .int .i64 0]) (by simp [results, Try.results10, go_sem, s0, s1, s2, s3]) rfl ⟨Hf.out, ?_⟩
    repeat (refine Below.setCell ?_ (by simp) _)
    exact Below.trans (((Below.refl _ _).alloc (Nat.le_refl _) _).alloc (by simp) _) (hb1.mono (by simp; omega))
  · have Hf := Lib.hid (nw_no ok)
    go_enter Try.func10, Try.ntmps10
    go_wp2_with (go_at_call 12; refine (check_bad ok _).mono ?_; rintro r w1 ⟨rfl, hb1⟩; obtain ⟨hc1, hf1⟩ := bcell hb1; have hz1 : w.heap.size + 1 < w1.heap.size := by have := hb1.size; simp at this; omega)
    have s0 : (w1.cell? ⟨w.heap.size, 0, none⟩).isSome = true := by rw [hc1 _ _ (by simp; omega)]; go_simp
    have s1 : (w1.cell? ⟨w.heap.size, 1, none⟩).isSome = true := by rw [hc1 _ _ (by simp; omega)]; go_simp
    have s2 : (w1.cell? ⟨w.heap.size, 2, none⟩).isSome = true := by rw [hc1 _ _ (by simp; omega)]; go_simp
    have s3 : (w1.cell? ⟨w.heap.size, 3, none⟩).isSome = true := by rw [hc1 _ _ (by simp; omega)]; go_simp
    refine bodyPost_ret (v := .tuple #[bk 0 0 0 0, .int .i64 2]) (by simp [results, Try.results10, go_sem, s0, s1, s2, s3]) rfl ⟨Hf.out, ?_⟩
    repeat (refine Below.setCell ?_ (by simp) _)
    exact Below.trans (((Below.refl _ _).alloc (Nat.le_refl _) _).alloc (by simp) _) (hb1.mono (by simp; omega))
end Go.Proofs.Ytcnbeflfndfndaa
