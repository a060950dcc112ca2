/- The walk of `Take`. Condition: the numbers are ints. -/
import Derived.Test.YtcnbeflfndfndaaW3
namespace Go.Proofs.Ytcnbeflfndfndaa
open Go.RowKit
set_option linter.unusedVariables false

/-- A block of four ints that can be written. -/
structure Held4 (w : World) (b : Nat) (x0 x1 x2 x3 : Int) : Prop where
  c0 : w.cell? ⟨b, 0, none⟩ = some (.int .i64 x0)
  c1 : w.cell? ⟨b, 1, none⟩ = some (.int .i64 x1)
  c2 : w.cell? ⟨b, 2, none⟩ = some (.int .i64 x2)
  c3 : w.cell? ⟨b, 3, none⟩ = some (.int .i64 x3)
  fz : ∀ o, w.frozen? ⟨b, o, none⟩ = false
  lt : b < w.heap.size
theorem Held4.below {w w1 : World} {b : Nat} {x0 x1 x2 x3 : Int} (h : Held4 w b x0 x1 x2 x3) (hb : Below w.heap.size w w1) : Held4 w1 b x0 x1 x2 x3 :=
  ⟨(hb.cell (p := ⟨b, 0, none⟩) h.lt).trans h.c0, (hb.cell (p := ⟨b, 1, none⟩) h.lt).trans h.c1, (hb.cell (p := ⟨b, 2, none⟩) h.lt).trans h.c2, (hb.cell (p := ⟨b, 3, none⟩) h.lt).trans h.c3,
   fun o => (hb.frozen (p := ⟨b, o, none⟩) h.lt).trans (h.fz o), Nat.lt_of_lt_of_le h.lt hb.size⟩
theorem held_new (w : World) (x0 x1 x2 x3 : Int) : Held4 (w.alloc (.cells #[.int .i64 x0, .int .i64 x1, .int .i64 x2, .int .i64 x3] 23)) w.heap.size x0 x1 x2 x3 :=
  ⟨by go_simp, by go_simp, by go_simp, by go_simp, fun o => by unfold World.frozen?; rw [heap_alloc_new]; simp, by simp⟩
theorem Held4.alloc {w : World} {b : Nat} {x0 x1 x2 x3 : Int} (h : Held4 w b x0 x1 x2 x3) (o : Obj) : Held4 (w.alloc o) b x0 x1 x2 x3 :=
  h.below ((Below.refl _ _).alloc (Nat.le_refl _) _)

/-- At which time the tokens are counted after Take. -/
@[irreducible] def tat (L A M E now : Int) : Int := if M - L ≤ arr A E now then (if A ≤ now then now else A) else A + arr A E now * E
/-- What Take returns. -/
@[irreducible] def tk (L A M E now n : Int) : Value :=
  if Ok L A M E ∧ 1 ≤ n ∧ 0 ≤ now ∧ now ≤ 1000000000 then
    (if cnt L A M E now < n then .tuple #[bk 0 0 0 0, .int .i64 25] else .tuple #[bk (cnt L A M E now - n) (tat L A M E now) M E, .int .i64 0])
  else .tuple #[bk 0 0 0 0, .int .i64 2]
theorem tk_bad {L A M E now n : Int} (h : ¬ (Ok L A M E ∧ 1 ≤ n ∧ 0 ≤ now ∧ now ≤ 1000000000)) : Ending.returned (.tuple #[bk 0 0 0 0, .int .i64 2]) = .returned (tk L A M E now n) := by unfold tk; rw [if_neg h]
theorem tk_few {L A M E now n : Int} (h : Ok L A M E ∧ 1 ≤ n ∧ 0 ≤ now ∧ now ≤ 1000000000) (h2 : cnt L A M E now < n) : Ending.returned (.tuple #[bk 0 0 0 0, .int .i64 25]) = .returned (tk L A M E now n) := by unfold tk; rw [if_pos h, if_pos h2]
theorem tk_yes {L A M E now n : Int} (h : Ok L A M E ∧ 1 ≤ n ∧ 0 ≤ now ∧ now ≤ 1000000000) (h2 : ¬ cnt L A M E now < n) : Ending.returned (.tuple #[bk (cnt L A M E now - n) (tat L A M E now) M E, .int .i64 0]) = .returned (tk L A M E now n) := by unfold tk; rw [if_pos h, if_neg h2]

theorem take_start (w : World) (L A M E : Int) : Held4 ((w.alloc (.cells #[.int .i64 L, .int .i64 A, .int .i64 M, .int .i64 E] 23)).alloc (.cells #[.int .i64 0, .int .i64 0, .int .i64 0, .int .i64 0] 23)) w.heap.size L A M E ∧
    Held4 ((w.alloc (.cells #[.int .i64 L, .int .i64 A, .int .i64 M, .int .i64 E] 23)).alloc (.cells #[.int .i64 0, .int .i64 0, .int .i64 0, .int .i64 0] 23)) (w.heap.size + 1) 0 0 0 0 := by
  refine ⟨(held_new w L A M E).alloc _, ?_⟩
  have := held_new (w.alloc (.cells #[.int .i64 L, .int .i64 A, .int .i64 M, .int .i64 E] 23)) 0 0 0 0
  have e : (w.alloc (.cells #[.int .i64 L, .int .i64 A, .int .i64 M, .int .i64 E] 23)).heap.size = w.heap.size + 1 := by simp
  rw [e] at this
  exact this
theorem take_below (w : World) (x y : Obj) : Below w.heap.size w ((w.alloc x).alloc y) := ((Below.refl _ _).alloc (Nat.le_refl _) _).alloc (by simp) _

set_option maxHeartbeats 800000 in
theorem take_bad (L A M E now n : Int) (h : ¬ (Ok L A M E ∧ 1 ≤ n ∧ 0 ≤ now ∧ now ≤ 1000000000)) (w : World) :
    Calls Try.prog 15 #[bk L A M E, .int .i64 now, .int .i64 n] w fun e w' => e = .returned (tk L A M E now n) ∧ Below w.heap.size w w' := by
  have Hf := Lib.hid (tk_bad h)
  obtain ⟨HB, HR⟩ := take_start w L A M E
  have HBB := Lib.hid HB
  have HRR := Lib.hid HR
  have ht := take_below w (.cells #[.int .i64 L, .int .i64 A, .int .i64 M, .int .i64 E] 23) (.cells #[.int .i64 0, .int .i64 0, .int .i64 0, .int .i64 0] 23)
  have Ht := Lib.hid ht
  clear HB HR ht
  by_cases ok : Ok L A M E
  · by_cases hn : n < 1
    · have d1 : decide (n < 1) = true := by simpa using hn
      clear h hn
      go_enter Try.func15, Try.ntmps15
      go_wp2_with (go_at_call 12; refine (check_ok ok _).mono ?_; rintro e w1 ⟨rfl, hb1⟩; obtain ⟨k0, k1, k2, k3, kf, kl⟩ := HBB.out.below hb1; obtain ⟨r0, r1, r2, r3, rf, rl⟩ := HRR.out.below hb1)
      refine bodyPost_ret (v := .tuple #[bk 0 0 0 0, .int .i64 2]) (by simp [results, Try.results15, go_sem, r0, r1, r2, r3]) rfl ⟨Hf.out, ?_⟩
      repeat (refine Below.setCell ?_ (by simp) _)
      exact Below.trans Ht.out (hb1.mono Ht.out.size)
    · have d1 : decide (n < 1) = false := by simpa using hn
      have hnt : ¬ (0 ≤ now ∧ now ≤ 1000000000) := fun ht => h ⟨ok, by omega, ht.1, ht.2⟩
      have C := Lib.hid (istime_no hnt)
      clear h hn hnt
      go_enter Try.func15, Try.ntmps15
      go_wp2_with (first
        | (go_at_call 12; refine (check_ok ok _).mono ?_; rintro e w1 ⟨rfl, hb1⟩; obtain ⟨k0, k1, k2, k3, kf, kl⟩ := HBB.out.below hb1; obtain ⟨r0, r1, r2, r3, rf, rl⟩ := HRR.out.below hb1)
        | (go_at_call 21; refine (C.out _).mono ?_; rintro e w' ⟨rfl, rfl⟩))
      refine bodyPost_ret (v := .tuple #[bk 0 0 0 0, .int .i64 2]) (by simp [results, Try.results15, go_sem, r0, r1, r2, r3]) rfl ⟨Hf.out, ?_⟩
      repeat (refine Below.setCell ?_ (by simp) _)
      exact Below.trans Ht.out (hb1.mono Ht.out.size)
  · clear h
    go_enter Try.func15, Try.ntmps15
    go_wp2_with (go_at_call 12; refine (check_bad ok _).mono ?_; rintro e w1 ⟨rfl, hb1⟩; obtain ⟨k0, k1, k2, k3, kf, kl⟩ := HBB.out.below hb1; obtain ⟨r0, r1, r2, r3, rf, rl⟩ := HRR.out.below hb1)
    refine bodyPost_ret (v := .tuple #[bk 0 0 0 0, .int .i64 2]) (by simp [results, Try.results15, go_sem, r0, r1, r2, r3]) rfl ⟨Hf.out, ?_⟩
    repeat (refine Below.setCell ?_ (by simp) _)
    exact Below.trans Ht.out (hb1.mono Ht.out.size)

set_option maxHeartbeats 800000 in
theorem take_few (L A M E now n : Int) (h : Ok L A M E ∧ 1 ≤ n ∧ 0 ≤ now ∧ now ≤ 1000000000) (h2 : cnt L A M E now < n) (w : World) :
    Calls Try.prog 15 #[bk L A M E, .int .i64 now, .int .i64 n] w fun e w' => e = .returned (tk L A M E now n) ∧ Below w.heap.size w w' := by
  have Hf := Lib.hid (tk_few h h2)
  obtain ⟨HB, HR⟩ := take_start w L A M E
  have HBB := Lib.hid HB
  have HRR := Lib.hid HR
  have ht := take_below w (.cells #[.int .i64 L, .int .i64 A, .int .i64 M, .int .i64 E] 23) (.cells #[.int .i64 0, .int .i64 0, .int .i64 0, .int .i64 0] 23)
  have Ht := Lib.hid ht
  clear HB HR ht
  obtain ⟨ok, hn, hn0, hn1⟩ := h
  have d1 : decide (n < 1) = false := by simpa using hn
  have C := Lib.hid (istime_yes ⟨hn0, hn1⟩)
  go_enter Try.func15, Try.ntmps15
  go_wp2_with (first
    | (go_at_call 12; refine (check_ok ok _).mono ?_; rintro e w1 ⟨rfl, hb1⟩; have HB1 := Lib.hid (HBB.out.below hb1); have HR1 := Lib.hid (HRR.out.below hb1); obtain ⟨k0, k1, k2, k3, kf, kl⟩ := HB1.out)
    | (go_at_call 21; refine (C.out _).mono ?_; rintro e w' ⟨rfl, rfl⟩)
    | (go_at_call 22; refine (count_any _ _ _ _ _ ok (by omega) (by omega) _).mono ?_; rintro e w2 ⟨rfl, hb2⟩; obtain ⟨r0, r1, r2, r3, rf, rl⟩ := HR1.out.below hb2))
  refine bodyPost_ret (v := .tuple #[bk 0 0 0 0, .int .i64 25]) (by simp [results, Try.results15, go_sem, r0, r1, r2, r3]) rfl ⟨Hf.out, ?_⟩
  repeat (refine Below.setCell ?_ (by simp) _)
  exact Below.trans Ht.out ((hb1.mono Ht.out.size).trans (hb2.mono (Nat.le_trans Ht.out.size hb1.size)))

theorem tat_hi {L A M E now : Int} (h : M - L ≤ arr A E now) (h2 : A ≤ now) : tat L A M E now = now := by unfold tat; rw [if_pos h, if_pos h2]
theorem tat_lo {L A M E now : Int} (h : M - L ≤ arr A E now) (h2 : now < A) : tat L A M E now = A := by unfold tat; rw [if_pos h, if_neg (by omega)]
theorem tat_no {L A M E now : Int} (h : ¬ M - L ≤ arr A E now) : tat L A M E now = A + arr A E now * E := by unfold tat; rw [if_neg h]

theorem chain3 {w W w1 w2 w3 : World} {o : Obj} (ht : Below w.heap.size w W) (h1 : Below W.heap.size W w1) (h2 : Below w1.heap.size w1 w2) (h3 : Below (w2.alloc o).heap.size (w2.alloc o) w3) : Below w.heap.size w w3 :=
  have s1 := ht.size
  have s2 := h1.size
  have s3 := h2.size
  have s4 : (w2.alloc o).heap.size = w2.heap.size + 1 := by simp
  (ht.trans (h1.mono s1)).trans ((h2.mono (by omega)).trans (((Below.refl w.heap.size w2).alloc (by omega) o).trans (h3.mono (by omega))))
end Go.Proofs.Ytcnbeflfndfndaa
