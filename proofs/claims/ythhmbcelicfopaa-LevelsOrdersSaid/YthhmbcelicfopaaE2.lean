/- The place of the first event of a kind (levels.first, slices.IndexFunc). No condition on the events. -/
import Derived.Test.YthhmbcelicfopaaE1
import Derived.Deep.MidRow
namespace Go.Proofs.Ythhmbcelicfopaa
open Go.RowKit
set_option linter.unusedVariables false

theorem size36 : (Try.prog.info? 42).map (·.size) = some 29 := by kernel_rfl

/-- THE CLOSURE of levels.first: is the event of the kind that lies in the caller's cell? -/
theorem pred_any (e : Ev) (k : Int) (B : Nat) (w : World) (hB : B < w.heap.size) (hc : w.cell? ⟨B, 0, none⟩ = some (.int .i64 k)) :
    Calls Try.prog 37 (#[.agg (enc e).toArray] ++ #[.pointer (some ⟨B, 0, none⟩)]) w fun en w' => en = .returned (.bool (e.kd == k)) ∧ Below w.heap.size w w' := by
  have hne : B ≠ w.heap.size := by omega
  have HW := Lib.hid (Below.alloc (Below.refl w.heap.size w) (Nat.le_refl _) (.cells (enc e).toArray 42))
  show Calls Try.prog 37 #[.agg (enc e).toArray, .pointer (some ⟨B, 0, none⟩)] w _
  unfold enc at *
  go_enter Try.func37, Try.ntmps37
  go_wp2
  all_goals (go_ret; exact ⟨rfl, HW.out⟩)

/-- The place of the first of kind `k`, or -1. -/
def FirstPost (E : Nat → Ev) (k : Int) (n : Nat) (r : Int) : Prop :=
  (∃ i : Nat, i < n ∧ (E i).kd = k ∧ (∀ j, j < i → (E j).kd ≠ k) ∧ r = i) ∨ ((∀ j, j < n → (E j).kd ≠ k) ∧ r = -1)

set_option maxHeartbeats 1000000 in
theorem index_any (b off n c : Nat) (E : Nat → Ev) (k : Int) (B : Nat) (w : World) (hE : Evs w b off n E) (hB : B < w.heap.size) (hc : w.cell? ⟨B, 0, none⟩ = some (.int .i64 k)) :
    Calls Try.prog 36 #[.slice (some ⟨b, off, none⟩) n c, .func (.func 37) #[] #[.pointer (some ⟨B, 0, none⟩)]] w fun e w' => ∃ r, e = .returned (.int .i64 r) ∧ FirstPost E k n r ∧ Below w.heap.size w w' := by
  have HE := Lib.hid hE
  have HC := Lib.hid hc
  have hbig := hE.big

  clear hE hc
  go_enter Try.func36, Try.ntmps36
  go_wp2
  go_loopg [5, 8] n (fun gg _ s8 wr => ∃ kk : Nat, kk ≤ n ∧ n - kk ≤ gg ∧ s8 = .int .i64 kk ∧ Hid (Below w.heap.size w wr) ∧ Hid (∀ j, j < kk → (E j).kd ≠ k))
  case atStart => exact ⟨0, Nat.zero_le _, by omega, rfl, Lib.hid (Below.refl _ w), Lib.hid (fun j hj => absurd hj (Nat.not_lt_zero _))⟩
  case round =>
    obtain ⟨kk, hkk, hg, rfl, BW, A⟩ := hrel
    by_cases hlt : kk < n
    · have hltz : (kk : Int) < (n : Int) := by omega
      have HR := Lib.hid (show World.rangeAt wr b (off + kk * 29) (enc (E kk)) from fun j v hv => (HE.out.below BW.out).cell kk hlt j v hv)
      have hp := pred_any (E kk) k B wr (Nat.lt_of_lt_of_le hB BW.out.size) ((BW.out.cell (p := ⟨B, 0, none⟩) hB).trans HC.out)
      have HK := Lib.hid (show ((E kk).kd == k) = ((E kk).kd == k) from rfl)
      generalize hq : ((E kk).kd == k) = q at hp
      have HQ := Lib.hid hq
      have HP := Lib.hid hp
      clear hp
      clear hq HK
      cases q with
      | true =>
        have HT := Lib.hid (show (E kk).kd = k by simpa using HQ.out)
        clear HQ
        go_wp2_with (first | (refine wpList_load_mid rfl 42 _ rfl b (off + kk * 29) rfl (enc (E kk)) _ HR.out Try.underlying42 rfl size36 ?_) | (go_at_call 37; refine HP.out.mono ?_; rintro e w' ⟨rfl, hb'⟩))
        go_ret
        exact ⟨kk, rfl, .inl ⟨kk, hlt, HT.out, A.out, rfl⟩, BW.out.trans (hb'.mono BW.out.size)⟩
      | false =>
        have HT := Lib.hid (show (E kk).kd ≠ k by simpa using HQ.out)
        clear HQ
        go_wp2_with (first | (refine wpList_load_mid rfl 42 _ rfl b (off + kk * 29) rfl (enc (E kk)) _ HR.out Try.underlying42 rfl size36 ?_) | (go_at_call 37; refine HP.out.mono ?_; rintro e w' ⟨rfl, hb'⟩))
        go_roundg (n - (kk + 1))
        case measure => omega
        case rel =>
          refine ⟨kk + 1, by omega, by omega, by go_num, Lib.hid (BW.out.trans (hb'.mono BW.out.size)), Lib.hid (fun j hj => ?_)⟩
          by_cases e : j = kk
          · subst e; exact HT.out
          · exact A.out j (by omega)
    · have hltz : ¬ (kk : Int) < (n : Int) := by omega
      have : kk = n := by omega
      subst this
      go_wp2
      go_ret
      exact ⟨-1, rfl, .inr ⟨A.out, rfl⟩, BW.out⟩

set_option maxHeartbeats 1000000 in
theorem first_any (b off n c : Nat) (E : Nat → Ev) (k : Int) (w : World) (hE : Evs w b off n E) :
    Calls Try.prog 26 #[.slice (some ⟨b, off, none⟩) n c, .int .i64 k] w fun e w' => ∃ r, e = .returned (.int .i64 r) ∧ FirstPost E k n r ∧ Below w.heap.size w w' := by
  have HA := Lib.hid (Below.alloc (Below.refl w.heap.size w) (Nat.le_refl _) (.cells #[.int .i64 k] 26))
  have hcon := index_any b off n c E k w.heap.size (w.alloc (.cells #[.int .i64 k] 26)) (hE.below HA.out) (by simp) (by simp)
  clear hE
  go_enter Try.func26, Try.ntmps26
  go_wp2_with (go_at_call 36; refine hcon.mono ?_; rintro e w' ⟨r, rfl, hr, hb'⟩)
  go_ret
  exact ⟨r, rfl, hr, HA.out.trans (hb'.mono HA.out.size)⟩

theorem FirstPost.one {E : Nat → Ev} {k : Int} {n : Nat} {r s : Int} (h : FirstPost E k n r) (g : FirstPost E k n s) : r = s := by
  rcases h with ⟨i, hi, gi, li, rfl⟩ | ⟨hn, rfl⟩ <;> rcases g with ⟨j, hj, gj, lj, rfl⟩ | ⟨kn, rfl⟩
  · rcases Nat.lt_trichotomy i j with h | h | h
    · exact absurd gi (lj i h)
    · rw [h]
    · exact absurd gj (li j h)
  · exact absurd gi (kn i hi)
  · exact absurd gj (hn j hj)
  · rfl
theorem first_is (b off n c : Nat) (E : Nat → Ev) (k r : Int) (w : World) (hE : Evs w b off n E) (hr : FirstPost E k n r) :
    Calls Try.prog 26 #[.slice (some ⟨b, off, none⟩) n c, .int .i64 k] w fun e w' => e = .returned (.int .i64 r) ∧ Below w.heap.size w w' :=
  (first_any b off n c E k w hE).mono fun e w' ⟨s, he, hs, hb⟩ => ⟨by rw [he, hs.one hr], hb⟩

theorem index_zero (A : Option Addr) (c : Nat) (k : Int) (B : Nat) (w : World) : Calls Try.prog 36 #[.slice A 0 c, .func (.func 37) #[] #[.pointer (some ⟨B, 0, none⟩)]] w fun e w' => e = .returned (.int .i64 (-1)) ∧ w = w' := by
  go_enter Try.func36, Try.ntmps36
  go_wp2
  go_loopg [5, 8] 0 (fun gg _ s8 wr => s8 = .int .i64 (0 : Nat) ∧ w = wr)
  case atStart => exact ⟨rfl, rfl⟩
  case round =>
    obtain ⟨rfl, rfl⟩ := hrel
    go_wp2
    go_ret
    exact ⟨rfl, rfl⟩
theorem first_zero (A : Option Addr) (c : Nat) (k : Int) (w : World) : Calls Try.prog 26 #[.slice A 0 c, .int .i64 k] w fun e w' => e = .returned (.int .i64 (-1)) ∧ Below w.heap.size w w' := by
  have HA := Lib.hid (Below.alloc (Below.refl w.heap.size w) (Nat.le_refl _) (.cells #[.int .i64 k] 26))
  go_enter Try.func26, Try.ntmps26
  go_wp2_with (go_at_call 36; refine (index_zero A c k _ _).mono ?_; rintro e w' ⟨rfl, rfl⟩)
  go_ret
  exact ⟨rfl, HA.out⟩
theorem first_all {w : World} {A : Option Addr} {n : Nat} {E : Nat → Ev} (c : Nat) (k r : Int) (hE : EvsA w A n E) (hr : FirstPost E k n r) : Calls Try.prog 26 #[.slice A n c, .int .i64 k] w fun e w' => e = .returned (.int .i64 r) ∧ Below w.heap.size w w' := by
  rcases hE with rfl | ⟨b, off, rfl, hE⟩
  · rcases hr with ⟨i, hi, _⟩ | ⟨_, rfl⟩
    · omega
    · exact first_zero A c k w
  · exact first_is b off n c E k r w hE hr


end Go.Proofs.Ythhmbcelicfopaa
