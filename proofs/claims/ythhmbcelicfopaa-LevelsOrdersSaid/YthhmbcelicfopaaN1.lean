/- Which level a kind needs: program and reference. -/
import Derived.Test.YthhmbcelicfopaaLV7
namespace Go.Proofs.Ythhmbcelicfopaa
open Go.RowKit
set_option linter.unusedVariables false

/-- Is the kind a state kind? -/
def isState (k : Int) : Bool := decide (1 ≤ k) && decide (k ≤ 10)
def NeedPost (K : Nat → Int × Int) (k : Int) (n : Nat) (x3 x4 r : Int) : Prop :=
  (∃ i, i < n ∧ (K i).1 = k ∧ (∀ j, j < i → (K j).1 ≠ k) ∧ r = (K i).2) ∨ ((∀ j, j < n → (K j).1 ≠ k) ∧ r = if isState k = true then x4 else x3)
theorem NeedPost.some {K : Nat → Int × Int} {k : Int} {n : Nat} {x3 x4 r : Int} (h : NeedPost K k n x3 x4 r) {i : Nat} (hi : i < n) (e : (K i).1 = k) (hl : ∀ j, j < i → (K j).1 ≠ k) : r = (K i).2 := by
  rcases h with ⟨i', hi', e', hl', rfl⟩ | ⟨hn, _⟩
  · rcases Nat.lt_trichotomy i i' with h | h | h
    · exact absurd e (hl' i h)
    · rw [h]
    · exact absurd e' (hl i' h)
  · exact absurd e (hn i hi)
theorem NeedPost.none {K : Nat → Int × Int} {k : Int} {n : Nat} {x3 x4 r : Int} (h : NeedPost K k n x3 x4 r) (hn : ∀ j, j < n → (K j).1 ≠ k) : r = if isState k = true then x4 else x3 := by
  rcases h with ⟨i', hi', e', _⟩ | ⟨_, h⟩
  · exact absurd e' (hn i' hi')
  · exact h
theorem Rws.kind {w : World} {A : Option Addr} {n c : Nat} {K : Nat → Int × Int} (h : Rws w A n c 2 (rowK K)) {j : Nat} (hj : j < n) :
    ∃ b off, A = Option.some ⟨b, off, Option.none⟩ ∧ w.cell? ⟨b, off + j * 2, Option.none⟩ = Option.some (.int .i64 (K j).1) ∧ w.cell? ⟨b, off + j * 2 + 1, Option.none⟩ = Option.some (.int .i64 (K j).2) := by
  obtain ⟨b, off, e, _, hr⟩ := h.get hj
  exact ⟨b, off, e, hr 0 _ rfl, hr 1 _ rfl⟩

theorem state23 (k : Int) (w : World) : Calls Try.prog 23 #[.int .i64 k] w fun e w' => e = .returned (.bool (isState k)) ∧ w = w' := by
  by_cases h1 : 1 ≤ k
  · by_cases h2 : k ≤ 10
    · rw [show isState k = true by unfold isState; simp [h1, h2]]
      go_enter Try.func23, Try.ntmps23
      go_wp2
      go_ret
      exact ⟨rfl, rfl⟩
    · rw [show isState k = false by unfold isState; simp [h2]]
      go_enter Try.func23, Try.ntmps23
      go_wp2
      go_ret
      exact ⟨rfl, rfl⟩
  · rw [show isState k = false by unfold isState; simp [h1]]
    go_enter Try.func23, Try.ntmps23
    go_wp2
    go_ret
    exact ⟨rfl, rfl⟩
theorem state24 (k : Int) (w : World) : Calls Try.prog 24 #[.int .i64 k] w fun e w' => e = .returned (.bool (isState k)) ∧ w = w' := by
  by_cases h1 : 1 ≤ k
  · by_cases h2 : k ≤ 10
    · rw [show isState k = true by unfold isState; simp [h1, h2]]
      go_enter Try.func24, Try.ntmps24
      go_wp2
      go_ret
      exact ⟨rfl, rfl⟩
    · rw [show isState k = false by unfold isState; simp [h2]]
      go_enter Try.func24, Try.ntmps24
      go_wp2
      go_ret
      exact ⟨rfl, rfl⟩
  · rw [show isState k = false by unfold isState; simp [h1]]
    go_enter Try.func24, Try.ntmps24
    go_wp2
    go_ret
    exact ⟨rfl, rfl⟩
set_option maxHeartbeats 2000000 in
theorem needs13 (uA : Option Addr) (n uC : Nat) (kA : Option Addr) (nK kC : Nat) (K : Nat → Int × Int) (d x3 x4 x5 x6 x7 x8 k r : Int) (w : World) (hK : Rws w kA nK kC 2 (rowK K)) (hr : NeedPost K k nK x3 x4 r) :
    Calls Try.prog 13 #[.agg (lvc uA n uC kA nK kC d x3 x4 x5 x6 x7 x8).toArray, .int .i64 k] w
      fun e w' => e = .returned (.int .i64 r) ∧ Below w.heap.size w w' := by
  have HU := Lib.hid hK
  have HR := Lib.hid hr
  have hbig := hK.big
  unfold maxLen at hbig
  have HA := Lib.hid (Below.alloc (Below.refl w.heap.size w) (Nat.le_refl _) (.cells (lvc uA n uC kA nK kC d x3 x4 x5 x6 x7 x8).toArray 25))
  have HD := Lib.hid (box_new w (lvc uA n uC kA nK kC d x3 x4 x5 x6 x7 x8) 25)
  clear hK hr
  show Calls Try.prog 13 #[.agg #[.slice uA n uC, .slice kA nK kC, .int .i64 d, .int .i64 x3, .int .i64 x4, .int .i64 x5, .int .i64 x6, .int .i64 x7, .int .i64 x8], .int .i64 k] w _
  go_enter Try.func13, Try.ntmps13
  go_wp2
  generalize hw0 : (w.alloc _) = w0 at HA HD ⊢
  clear hw0
  go_loopg [10] nK (fun gg s10 wr => ∃ kk : Nat, kk ≤ nK ∧ nK - kk ≤ gg ∧ s10 = .int .i64 kk ∧ Hid (Below w0.heap.size w0 wr) ∧ Hid (∀ j, j < kk → (K j).1 ≠ k))
  case atStart => exact ⟨0, Nat.zero_le _, by omega, rfl, Lib.hid (Below.refl _ w0), Lib.hid (fun j hj => absurd hj (Nat.not_lt_zero _))⟩
  case round =>
    obtain ⟨kk, hkk, hg, rfl, BW, A⟩ := hrel
    by_cases hlt : kk < nK
    · have hltz : (kk : Int) < (nK : Int) := by omega
      obtain ⟨g, off, rfl, cy, cn⟩ := ((HU.out.below HA.out).below BW.out).kind hlt
      skip
      have HRk := Lib.hid (fun (h : (K kk).1 = k) => NeedPost.some HR.out hlt h A.out)
      generalize hky : (K kk).1 = ky at cy HRk
      generalize hnn : (K kk).2 = nn at cn HRk
      have Hky := Lib.hid hky
      have HB := Lib.hid (Below.alloc BW.out BW.out.size (.cells #[.int .i64 ky, .int .i64 nn] 54))
      clear hky hnn
      by_cases q2 : ky = k
      · subst q2
        obtain rfl := HRk.out rfl
        go_wp2
        go_ret
        exact ⟨rfl, HA.out.trans (HB.out.mono HA.out.size)⟩
      · have q3 : (ky == k) = false := by simpa using q2
        have HF := Lib.hid (show (K kk).1 ≠ k by rw [Hky.out]; exact q2)
        clear q2
        go_wp2
        go_roundg (nK - (kk + 1))
        case measure => omega
        case rel =>
          refine ⟨kk + 1, by omega, by omega, by go_num, Lib.hid HB.out, Lib.hid (fun j hj => ?_)⟩
          by_cases e : j = kk
          · subst e; exact HF.out
          · exact A.out j (by omega)
    · have hltz : ¬ (kk : Int) < (nK : Int) := by omega
      obtain rfl : nK = kk := by omega
      have hrr := HR.out.none A.out
      skip
      by_cases hst : isState k = true
      · rw [if_pos hst] at hrr
        subst hrr
        have cd := (HD.out.below BW.out).at_ 4 _ rfl
        go_wp2_with (go_at_call 23; refine (state23 k _).mono ?_; rintro e w' ⟨rfl, rfl⟩)
        go_ret
        exact ⟨rfl, HA.out.trans (BW.out.mono HA.out.size)⟩
      · rw [if_neg hst] at hrr
        subst hrr
        have hsf : isState k = false := by simpa using hst
        clear hst
        have cd := (HD.out.below BW.out).at_ 3 _ rfl
        go_wp2_with (go_at_call 23; refine (state23 k _).mono ?_; rintro e w' ⟨rfl, rfl⟩)
        go_ret
        exact ⟨rfl, HA.out.trans (BW.out.mono HA.out.size)⟩

set_option maxHeartbeats 2000000 in
theorem needs14 (uA : Option Addr) (n uC : Nat) (kA : Option Addr) (nK kC : Nat) (K : Nat → Int × Int) (d x3 x4 x5 x6 x7 x8 k r : Int) (w : World) (hK : Rws w kA nK kC 2 (rowK K)) (hr : NeedPost K k nK x3 x4 r) :
    Calls Try.prog 14 #[.agg (lvc uA n uC kA nK kC d x3 x4 x5 x6 x7 x8).toArray, .int .i64 k] w
      fun e w' => e = .returned (.int .i64 r) ∧ Below w.heap.size w w' := by
  have HU := Lib.hid hK
  have HR := Lib.hid hr
  have hbig := hK.big
  unfold maxLen at hbig
  have HA := Lib.hid (Below.alloc (Below.refl w.heap.size w) (Nat.le_refl _) (.cells (lvc uA n uC kA nK kC d x3 x4 x5 x6 x7 x8).toArray 25))
  have HD := Lib.hid (box_new w (lvc uA n uC kA nK kC d x3 x4 x5 x6 x7 x8) 25)
  clear hK hr
  show Calls Try.prog 14 #[.agg #[.slice uA n uC, .slice kA nK kC, .int .i64 d, .int .i64 x3, .int .i64 x4, .int .i64 x5, .int .i64 x6, .int .i64 x7, .int .i64 x8], .int .i64 k] w _
  go_enter Try.func14, Try.ntmps14
  go_wp2
  generalize hw0 : (w.alloc _) = w0 at HA HD ⊢
  clear hw0
  have HC1 := Lib.hid (HD.out.at_ 1 _ rfl)
  go_loopg [5] nK (fun gg s5 wr => ∃ kk : Nat, kk ≤ nK ∧ nK - kk ≤ gg ∧ s5 = .int .i64 kk ∧ Hid (Below w0.heap.size w0 wr) ∧ Hid (∀ j, j < kk → (K j).1 ≠ k))
  case atStart => exact ⟨0, Nat.zero_le _, by omega, rfl, Lib.hid (Below.refl _ w0), Lib.hid (fun j hj => absurd hj (Nat.not_lt_zero _))⟩
  case round =>
    obtain ⟨kk, hkk, hg, rfl, BW, A⟩ := hrel
    by_cases hlt : kk < nK
    · have hltz : (kk : Int) < (nK : Int) := by omega
      obtain ⟨g, off, rfl, cy, cn⟩ := ((HU.out.below HA.out).below BW.out).kind hlt
      have c1 := (HD.out.below BW.out).at_ 1 _ rfl
      have HRk := Lib.hid (fun (h : (K kk).1 = k) => NeedPost.some HR.out hlt h A.out)
      generalize hky : (K kk).1 = ky at cy HRk
      generalize hnn : (K kk).2 = nn at cn HRk
      have Hky := Lib.hid hky
      have HB := Lib.hid BW.out
      clear hky hnn
      by_cases q2 : ky = k
      · subst q2
        obtain rfl := HRk.out rfl
        go_wp2
        go_ret
        exact ⟨rfl, HA.out.trans (HB.out.mono HA.out.size)⟩
      · have q3 : (ky == k) = false := by simpa using q2
        have HF := Lib.hid (show (K kk).1 ≠ k by rw [Hky.out]; exact q2)
        clear q2
        go_wp2
        go_roundg (nK - (kk + 1))
        case measure => omega
        case rel =>
          refine ⟨kk + 1, by omega, by omega, by go_num, Lib.hid HB.out, Lib.hid (fun j hj => ?_)⟩
          by_cases e : j = kk
          · subst e; exact HF.out
          · exact A.out j (by omega)
    · have hltz : ¬ (kk : Int) < (nK : Int) := by omega
      obtain rfl : nK = kk := by omega
      have hrr := HR.out.none A.out
      have c1 := (HD.out.below BW.out).at_ 1 _ rfl
      by_cases hst : isState k = true
      · rw [if_pos hst] at hrr
        subst hrr
        have cd := (HD.out.below BW.out).at_ 4 _ rfl
        go_wp2_with (go_at_call 24; refine (state24 k _).mono ?_; rintro e w' ⟨rfl, rfl⟩)
        go_ret
        exact ⟨rfl, HA.out.trans (BW.out.mono HA.out.size)⟩
      · rw [if_neg hst] at hrr
        subst hrr
        have hsf : isState k = false := by simpa using hst
        clear hst
        have cd := (HD.out.below BW.out).at_ 3 _ rfl
        go_wp2_with (go_at_call 24; refine (state24 k _).mono ?_; rintro e w' ⟨rfl, rfl⟩)
        go_ret
        exact ⟨rfl, HA.out.trans (BW.out.mono HA.out.size)⟩

end Go.Proofs.Ythhmbcelicfopaa
