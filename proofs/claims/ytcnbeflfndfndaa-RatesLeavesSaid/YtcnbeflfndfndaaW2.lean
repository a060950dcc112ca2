/- The walks of the two checks of a bucket, and of the test of a time. No condition. -/
import Derived.Test.YtcnbeflfndfndaaW1
import Derived.Deep.Draws
namespace Go.Proofs.Ytcnbeflfndfndaa
open Go.RowKit
set_option linter.unusedVariables false

@[irreducible] def vs (L A M E : Int) (k : Nat) : Int := match k with | 0 => M | 1 => E | 2 => L | _ => A
@[irreducible] def los (k : Nat) : Int := match k with | 0 => 1 | 1 => 1 | 2 => 0 | _ => 0
@[irreducible] def his (M : Int) (k : Nat) : Int := match k with | 0 => 1000000 | 1 => 1000000000 | 2 => M | _ => 1000000000
theorem ok_all {L A M E : Int} : (∀ j, j < 4 → los j ≤ vs L A M E j ∧ vs L A M E j ≤ his M j) ↔ Ok L A M E := by
  unfold los vs his
  constructor
  · intro h
    have h0 := h 0 (by omega)
    have h1 := h 1 (by omega)
    have h2 := h 2 (by omega)
    have h3 := h 3 (by omega)
    exact ⟨h0.1, h0.2, h1.1, h1.2, h2.1, h2.2, h3.1, h3.2⟩
  · intro ok j hj
    match j, hj with
    | 0, _ => exact ⟨ok.m0, ok.m1⟩
    | 1, _ => exact ⟨ok.e0, ok.e1⟩
    | 2, _ => exact ⟨ok.l0, ok.l1⟩
    | 3, _ => exact ⟨ok.a0, ok.a1⟩
    | j + 4, h => exact absurd h (by omega)

instance (L A M E : Int) : Decidable (Ok L A M E) :=
  decidable_of_iff (1 ≤ M ∧ M ≤ 1000000 ∧ 1 ≤ E ∧ E ≤ 1000000000 ∧ 0 ≤ L ∧ L ≤ M ∧ 0 ≤ A ∧ A ≤ 1000000000)
    ⟨fun ⟨a, b, c, d, e, f, g, h⟩ => ⟨a, b, c, d, e, f, g, h⟩, fun ⟨a, b, c, d, e, f, g, h⟩ => ⟨a, b, c, d, e, f, g, h⟩⟩

theorem below_drewN (B : Nat) (W : World) (n : Nat) : Below B W (W.drewN n) := ⟨rfl, rfl, rfl, Nat.le_refl _, fun _ _ => rfl⟩

/-- What a check returns. -/
@[irreducible] def chk (L A M E : Int) : Int := if Ok L A M E then 0 else 2
theorem chk_yes {L A M E : Int} (h : Ok L A M E) : 0 = chk L A M E := by unfold chk; rw [if_pos h]
theorem chk_no {L A M E : Int} (h : ¬ Ok L A M E) : 2 = chk L A M E := by unfold chk; rw [if_neg h]

set_option maxHeartbeats 800000 in
theorem check_any (L A M E : Int) (w : World) :
    Calls Try.prog 12 #[bk L A M E] w fun e w' => e = .returned (.int .i64 (chk L A M E)) ∧ Below w.heap.size w w' := by
  go_enter Try.func12, Try.ntmps12
  go_wp2
  obtain ⟨W, hW⟩ : ∃ W : World, W = (((w.alloc (.cells #[.int .i64 L, .int .i64 A, .int .i64 M, .int .i64 E] 23)).alloc (.cells #[.int .i64 M, .int .i64 E, .int .i64 L, .int .i64 A] 39)).alloc (.cells #[.int .i64 1, .int .i64 1, .int .i64 0, .int .i64 0] 39)).alloc (.cells #[.int .i64 1000000, .int .i64 1000000000, .int .i64 M, .int .i64 1000000000] 39) := ⟨_, rfl⟩
  have hv : ∀ k, k < 4 → W.cell? ⟨w.heap.size + 1, k, none⟩ = some (.int .i64 (vs L A M E k)) := by
    intro k hk
    subst hW
    unfold vs
    match k, hk with
    | 0, _ => go_simp
    | 1, _ => go_simp
    | 2, _ => go_simp
    | 3, _ => go_simp
    | j + 4, h => exact absurd h (by omega)
  have hlo : ∀ k, k < 4 → W.cell? ⟨w.heap.size + 1 + 1, k, none⟩ = some (.int .i64 (los k)) := by
    intro k hk
    subst hW
    unfold los
    match k, hk with
    | 0, _ => go_simp
    | 1, _ => go_simp
    | 2, _ => go_simp
    | 3, _ => go_simp
    | j + 4, h => exact absurd h (by omega)
  have hhi : ∀ k, k < 4 → W.cell? ⟨w.heap.size + 1 + 1 + 1, k, none⟩ = some (.int .i64 (his M k)) := by
    intro k hk
    subst hW
    unfold his
    match k, hk with
    | 0, _ => go_simp
    | 1, _ => go_simp
    | 2, _ => go_simp
    | 3, _ => go_simp
    | j + 4, h => exact absurd h (by omega)
  have hbel : Below w.heap.size w W := by
    subst hW
    exact (((Below.refl _ _).alloc (Nat.le_refl _) _).alloc (by simp) _ |>.alloc (by simp; omega) _).alloc (by simp; omega) _
  rw [← hW]
  clear hW
  go_loopw [6, 20] (fun _ i wr => ∃ k n : Nat, k ≤ 4 ∧ i = .int .i64 k ∧ wr = W.drewN n ∧ ∀ j, j < k → los j ≤ vs L A M E j ∧ vs L A M E j ≤ his M j) (fun _ i _ => 4 - (intOf i).toNat)
  case atStart => exact ⟨0, 0, Nat.zero_le _, rfl, rfl, fun j hj => absurd hj (by omega)⟩
  case round =>
    obtain ⟨k, n, hk, rfl, rfl, hpre⟩ := hrel
    have Hpre := Lib.hid hpre
    clear hpre
    by_cases hlt : k < 4
    · have cv := hv k hlt
      have cl := hlo k hlt
      have ch := hhi k hlt
      have Hv := Lib.hid hv
      have Hlo := Lib.hid hlo
      have Hhi := Lib.hid hhi
      clear hv hlo hhi
      by_cases h1 : vs L A M E k < los k
      · have d1 : decide (vs L A M E k < los k) = true := by simpa using h1
        have Hf := Lib.hid (chk_no (L := L) (A := A) (M := M) (E := E) (fun ok => by have := (ok_all.2 ok k hlt).1; omega))
        clear h1
        generalize vs L A M E k = x at *
        generalize los k = y at *
        generalize his M k = z at *
        go_wp2
        go_quiet (fail)
        go_wp2
        go_ret
        exact ⟨ret_i64 Hf.out, Below.trans hbel ⟨rfl, rfl, rfl, Nat.le_refl _, fun _ _ => rfl⟩⟩
      · have d1 : decide (vs L A M E k < los k) = false := by simpa using h1
        by_cases h2 : his M k < vs L A M E k
        · have d2 : decide (his M k < vs L A M E k) = true := by simpa using h2
          have Hf := Lib.hid (chk_no (L := L) (A := A) (M := M) (E := E) (fun ok => by have := (ok_all.2 ok k hlt).2; omega))
          clear h1 h2
          generalize vs L A M E k = x at *
          generalize los k = y at *
          generalize his M k = z at *
          go_wp2
          go_quiet (fail)
          go_wp2
          go_ret
          exact ⟨ret_i64 Hf.out, Below.trans hbel ⟨rfl, rfl, rfl, Nat.le_refl _, fun _ _ => rfl⟩⟩
        · have d2 : decide (his M k < vs L A M E k) = false := by simpa using h2
          have hnext : ∀ j, j < k + 1 → los j ≤ vs L A M E j ∧ vs L A M E j ≤ his M j := by
            intro j hj
            by_cases e : j = k
            · subst e; exact ⟨by omega, by omega⟩
            · exact Hpre.out j (by omega)
          have Hnext := Lib.hid hnext
          clear h1 h2 hnext
          generalize vs L A M E k = x at *
          generalize los k = y at *
          generalize his M k = z at *
          go_wp2
          go_quiet (fail)
          go_wp2
          go_roundw
          case rel => exact ⟨k + 1, _, by omega, by go_num, rfl, Hnext.out⟩
          case measure => simp [intOf]; omega
    · have hke : k = 4 := by omega
      subst hke
      have Hf := Lib.hid (chk_yes (ok_all.1 Hpre.out))
      clear hlt hk hv hlo hhi
      go_wp2
      go_ret
      exact ⟨ret_i64 Hf.out, Below.trans hbel ⟨rfl, rfl, rfl, Nat.le_refl _, fun _ _ => rfl⟩⟩

set_option maxHeartbeats 800000 in
theorem rcheck_any (L A M E : Int) (w : World) :
    Calls Try.prog 13 #[bk L A M E] w fun e w' => e = .returned (.int .i64 (chk L A M E)) ∧ Below w.heap.size w w' := by
  by_cases h0 : M < 1
  · have d0 : decide (M < 1) = true := by simpa using h0
    have Hf := Lib.hid (chk_no (L := L) (A := A) (M := M) (E := E) (fun ok => by have := ok.m0; have := ok.m1; have := ok.e0; have := ok.e1; have := ok.l0; have := ok.l1; have := ok.a0; have := ok.a1; omega))
    clear h0
    go_enter Try.func13, Try.ntmps13
    go_wp2
    go_ret
    exact ⟨ret_i64 Hf.out, (Below.refl _ _).alloc (Nat.le_refl _) _⟩
  · have d0 : decide (M < 1) = false := by simpa using h0
    by_cases h1 : 1000000 < M
    · have d1 : decide (1000000 < M) = true := by simpa using h1
      have Hf := Lib.hid (chk_no (L := L) (A := A) (M := M) (E := E) (fun ok => by have := ok.m0; have := ok.m1; have := ok.e0; have := ok.e1; have := ok.l0; have := ok.l1; have := ok.a0; have := ok.a1; omega))
      clear h0 h1
      go_enter Try.func13, Try.ntmps13
      go_wp2
      go_ret
      exact ⟨ret_i64 Hf.out, (Below.refl _ _).alloc (Nat.le_refl _) _⟩
    · have d1 : decide (1000000 < M) = false := by simpa using h1
      by_cases h2 : E < 1
      · have d2 : decide (E < 1) = true := by simpa using h2
        have Hf := Lib.hid (chk_no (L := L) (A := A) (M := M) (E := E) (fun ok => by have := ok.m0; have := ok.m1; have := ok.e0; have := ok.e1; have := ok.l0; have := ok.l1; have := ok.a0; have := ok.a1; omega))
        clear h0 h1 h2
        go_enter Try.func13, Try.ntmps13
        go_wp2
        go_ret
        exact ⟨ret_i64 Hf.out, (Below.refl _ _).alloc (Nat.le_refl _) _⟩
      · have d2 : decide (E < 1) = false := by simpa using h2
        by_cases h3 : 1000000000 < E
        · have d3 : decide (1000000000 < E) = true := by simpa using h3
          have Hf := Lib.hid (chk_no (L := L) (A := A) (M := M) (E := E) (fun ok => by have := ok.m0; have := ok.m1; have := ok.e0; have := ok.e1; have := ok.l0; have := ok.l1; have := ok.a0; have := ok.a1; omega))
          clear h0 h1 h2 h3
          go_enter Try.func13, Try.ntmps13
          go_wp2
          go_ret
          exact ⟨ret_i64 Hf.out, (Below.refl _ _).alloc (Nat.le_refl _) _⟩
        · have d3 : decide (1000000000 < E) = false := by simpa using h3
          by_cases h4 : L < 0
          · have d4 : decide (L < 0) = true := by simpa using h4
            have Hf := Lib.hid (chk_no (L := L) (A := A) (M := M) (E := E) (fun ok => by have := ok.m0; have := ok.m1; have := ok.e0; have := ok.e1; have := ok.l0; have := ok.l1; have := ok.a0; have := ok.a1; omega))
            clear h0 h1 h2 h3 h4
            go_enter Try.func13, Try.ntmps13
            go_wp2
            go_ret
            exact ⟨ret_i64 Hf.out, (Below.refl _ _).alloc (Nat.le_refl _) _⟩
          · have d4 : decide (L < 0) = false := by simpa using h4
            by_cases h5 : M < L
            · have d5 : decide (M < L) = true := by simpa using h5
              have Hf := Lib.hid (chk_no (L := L) (A := A) (M := M) (E := E) (fun ok => by have := ok.m0; have := ok.m1; have := ok.e0; have := ok.e1; have := ok.l0; have := ok.l1; have := ok.a0; have := ok.a1; omega))
              clear h0 h1 h2 h3 h4 h5
              go_enter Try.func13, Try.ntmps13
              go_wp2
              go_ret
              exact ⟨ret_i64 Hf.out, (Below.refl _ _).alloc (Nat.le_refl _) _⟩
            · have d5 : decide (M < L) = false := by simpa using h5
              by_cases h6 : A < 0
              · have d6 : decide (A < 0) = true := by simpa using h6
                have Hf := Lib.hid (chk_no (L := L) (A := A) (M := M) (E := E) (fun ok => by have := ok.m0; have := ok.m1; have := ok.e0; have := ok.e1; have := ok.l0; have := ok.l1; have := ok.a0; have := ok.a1; omega))
                clear h0 h1 h2 h3 h4 h5 h6
                go_enter Try.func13, Try.ntmps13
                go_wp2
                go_ret
                exact ⟨ret_i64 Hf.out, (Below.refl _ _).alloc (Nat.le_refl _) _⟩
              · have d6 : decide (A < 0) = false := by simpa using h6
                by_cases h7 : 1000000000 < A
                · have d7 : decide (1000000000 < A) = true := by simpa using h7
                  have Hf := Lib.hid (chk_no (L := L) (A := A) (M := M) (E := E) (fun ok => by have := ok.m0; have := ok.m1; have := ok.e0; have := ok.e1; have := ok.l0; have := ok.l1; have := ok.a0; have := ok.a1; omega))
                  clear h0 h1 h2 h3 h4 h5 h6 h7
                  go_enter Try.func13, Try.ntmps13
                  go_wp2
                  go_ret
                  exact ⟨ret_i64 Hf.out, (Below.refl _ _).alloc (Nat.le_refl _) _⟩
                · have d7 : decide (1000000000 < A) = false := by simpa using h7
                  have Hf := Lib.hid (chk_yes (L := L) (A := A) (M := M) (E := E) ⟨by omega, by omega, by omega, by omega, by omega, by omega, by omega, by omega⟩)
                  clear h0 h1 h2 h3 h4 h5 h6 h7
                  go_enter Try.func13, Try.ntmps13
                  go_wp2
                  go_ret
                  exact ⟨ret_i64 Hf.out, (Below.refl _ _).alloc (Nat.le_refl _) _⟩

/-- Whether now is a time of the system. -/
@[irreducible] def tim (now : Int) : Bool := decide (0 ≤ now ∧ now ≤ 1000000000)
theorem tim_yes {now : Int} : tim now = true ↔ 0 ≤ now ∧ now ≤ 1000000000 := by unfold tim; exact decide_eq_true_iff
theorem tim_no {now : Int} : tim now = false ↔ ¬ (0 ≤ now ∧ now ≤ 1000000000) := by unfold tim; exact decide_eq_false_iff_not

theorem clip_any (now r : Int) (h : (now < 0 ∧ r = 0) ∨ (1000000000 < now ∧ r = 1000000000) ∨ (0 ≤ now ∧ now ≤ 1000000000 ∧ r = now)) (w : World) :
    Calls Try.prog 26 #[.int .i64 now, .int .i64 0, .int .i64 1000000000] w fun e w' => e = .returned (.int .i64 r) ∧ w = w' := by
  rcases h with ⟨h0, rfl⟩ | ⟨h0, rfl⟩ | ⟨h0, h1, rfl⟩
  · have d0 : decide (now < 0) = true := by simpa using h0
    go_enter Try.func26, Try.ntmps26
    go_wp2
    go_ret
    exact ⟨rfl, rfl⟩
  · have d0 : decide (now < 0) = false := by simp; omega
    go_enter Try.func26, Try.ntmps26
    go_wp2
    go_ret
    exact ⟨rfl, rfl⟩
  · have d0 : decide (r < 0) = false := by simp; omega
    go_enter Try.func26, Try.ntmps26
    go_wp2
    go_ret
    exact ⟨rfl, rfl⟩

theorem istime_any (now : Int) (w : World) :
    Calls Try.prog 21 #[.int .i64 now] w fun e w' => e = .returned (.bool (tim now)) ∧ w = w' := by
  by_cases h0 : now < 0
  · have q : (now == 0) = false := beq_eq_false_iff_ne.2 (by omega)
    have Hf := Lib.hid (tim_no.2 (fun h => by omega : ¬ (0 ≤ now ∧ now ≤ 1000000000)))
    have C := Lib.hid (clip_any now 0 (.inl ⟨h0, rfl⟩))
    clear h0
    go_enter Try.func21, Try.ntmps21
    go_wp2_with (go_at_call 26; refine (C.out _).mono ?_; rintro e w' ⟨rfl, rfl⟩)
    go_ret
    exact ⟨by rw [Hf.out]; rfl, rfl⟩
  · by_cases h1 : 1000000000 < now
    · have q : (now == 1000000000) = false := beq_eq_false_iff_ne.2 (by omega)
      have Hf := Lib.hid (tim_no.2 (fun h => by omega : ¬ (0 ≤ now ∧ now ≤ 1000000000)))
      have C := Lib.hid (clip_any now 1000000000 (.inr (.inl ⟨h1, rfl⟩)))
      clear h0 h1
      go_enter Try.func21, Try.ntmps21
      go_wp2_with (go_at_call 26; refine (C.out _).mono ?_; rintro e w' ⟨rfl, rfl⟩)
      go_ret
      exact ⟨by rw [Hf.out]; rfl, rfl⟩
    · have h2 : now ≤ 1000000000 := by omega
      have q : (now == now) = true := beq_self_eq_true _
      have Hf := Lib.hid (tim_yes.2 ⟨by omega, h2⟩)
      have C := Lib.hid (clip_any now now (.inr (.inr ⟨by omega, h2, rfl⟩)))
      clear h0 h1 h2
      go_enter Try.func21, Try.ntmps21
      go_wp2_with (go_at_call 26; refine (C.out _).mono ?_; rintro e w' ⟨rfl, rfl⟩)
      go_ret
      exact ⟨by rw [Hf.out]; rfl, rfl⟩
end Go.Proofs.Ytcnbeflfndfndaa
