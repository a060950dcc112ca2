/- The place of the first event of a kind (levels.first, slices.IndexFunc). No condition on the events. -/
import Derived.Test.YtmgjmcpkoaacjaaW2
import Derived.Deep.MidRow
namespace Go.Proofs.Ytmgjmcpkoaacjaa
open Go.RowKit
set_option linter.unusedVariables false


theorem size36 : (Try.prog.info? 36).map (·.size) = some 29 := by kernel_rfl

/-- THE CLOSURE of levels.first: is the event of the kind that lies in the caller's cell? -/
theorem pred_any (e : Ev) (k : Int) (B : Nat) (w : World) (hB : B < w.heap.size) (hc : w.cell? ⟨B, 0, none⟩ = some (.int .i64 k)) :
    Calls Try.prog 30 (#[.agg (enc e).toArray] ++ #[.pointer (some ⟨B, 0, none⟩)]) w fun en w' => en = .returned (.bool (e.kd == k)) ∧ Below w.heap.size w w' := by
  have hne : B ≠ w.heap.size := by omega
  have HW := Lib.hid (Below.alloc (Below.refl w.heap.size w) (Nat.le_refl _) (.cells (enc e).toArray 36))
  show Calls Try.prog 30 #[.agg (enc e).toArray, .pointer (some ⟨B, 0, none⟩)] w _
  unfold enc at *
  go_enter Try.func30, Try.ntmps30
  go_wp2
  all_goals (go_ret; exact ⟨rfl, HW.out⟩)

/-- The place of the first of kind `k`, or -1. -/
def FirstPost (E : Nat → Ev) (k : Int) (n : Nat) (r : Int) : Prop :=
  (∃ i : Nat, i < n ∧ (E i).kd = k ∧ (∀ j, j < i → (E j).kd ≠ k) ∧ r = i) ∨ ((∀ j, j < n → (E j).kd ≠ k) ∧ r = -1)

set_option maxHeartbeats 1000000 in
theorem index_any (b off n c : Nat) (E : Nat → Ev) (k : Int) (B : Nat) (w : World) (hE : Evs w b off n E) (hB : B < w.heap.size) (hc : w.cell? ⟨B, 0, none⟩ = some (.int .i64 k)) :
    Calls Try.prog 29 #[.slice (some ⟨b, off, none⟩) n c, .func (.func 30) #[] #[.pointer (some ⟨B, 0, none⟩)]] w fun e w' => ∃ r, e = .returned (.int .i64 r) ∧ FirstPost E k n r ∧ Below w.heap.size w w' := by
  have HE := Lib.hid hE
  have HC := Lib.hid hc
  have hbig := hE.big

  clear hE hc
  go_enter Try.func29, Try.ntmps29
  go_wp2
  go_loopg [5, 8] n (fun gg _ s8 wr => ∃ kk : Nat, kk ≤ n ∧ n - kk ≤ gg ∧ s8 = .int .i64 kk ∧ Hid (Below w.heap.size w wr) ∧ Hid (∀ j, j < kk → (E j).kd ≠ k))
  case atStart => exact ⟨0, Nat.zero_le _, by omega, rfl, Lib.hid (Below.refl _ w), Lib.hid (fun j hj => absurd hj (Nat.not_lt_zero _))⟩
  case round =>
    obtain ⟨kk, hkk, hg, rfl, BW, A⟩ := hrel
    by_cases hlt : kk < n
    · have hltz : (kk : Int) < (n : Int) := by omega
      have HR := Lib.hid (show World.rangeAt wr b (off + kk * 29) (enc (E kk)) from fun j v hv => (HE.out.below BW.out).cell kk hlt j v hv)
      have hp := pred_any (E kk) k B wr (Nat.lt_of_lt_of_le hB BW.out.size) ((BW.out.cell (p := ⟨B, 0, none⟩) hB).trans HC.out)
      have HK := Lib.hid (show ((E kk).kd == k) = ((E kk).kd == k) from rfl)
      generalize hq : ((E kk).kd == k) = q at hp
      have HQ := Lib.hid hq
      have HP := Lib.hid hp
      clear hp
      clear hq HK
      cases q with
      | true =>
        have HT := Lib.hid (show (E kk).kd = k by simpa using HQ.out)
        clear HQ
        go_wp2_with (first | (refine wpList_load_mid rfl 36 _ rfl b (off + kk * 29) rfl (enc (E kk)) _ HR.out Try.underlying36 rfl size36 ?_) | (go_at_call 30; refine HP.out.mono ?_; rintro e w' ⟨rfl, hb'⟩))
        go_ret
        exact ⟨kk, rfl, .inl ⟨kk, hlt, HT.out, A.out, rfl⟩, BW.out.trans (hb'.mono BW.out.size)⟩
      | false =>
        have HT := Lib.hid (show (E kk).kd ≠ k by simpa using HQ.out)
        clear HQ
        go_wp2_with (first | (refine wpList_load_mid rfl 36 _ rfl b (off + kk * 29) rfl (enc (E kk)) _ HR.out Try.underlying36 rfl size36 ?_) | (go_at_call 30; refine HP.out.mono ?_; rintro e w' ⟨rfl, hb'⟩))
        go_roundg (n - (kk + 1))
        case measure => omega
        case rel =>
          refine ⟨kk + 1, by omega, by omega, by go_num, Lib.hid (BW.out.trans (hb'.mono BW.out.size)), Lib.hid (fun j hj => ?_)⟩
          by_cases e : j = kk
          · subst e; exact HT.out
          · exact A.out j (by omega)
    · have hltz : ¬ (kk : Int) < (n : Int) := by omega
      have : kk = n := by omega
      subst this
      go_wp2
      go_ret
      exact ⟨-1, rfl, .inr ⟨A.out, rfl⟩, BW.out⟩

set_option maxHeartbeats 1000000 in
theorem first_any (b off n c : Nat) (E : Nat → Ev) (k : Int) (w : World) (hE : Evs w b off n E) :
    Calls Try.prog 25 #[.slice (some ⟨b, off, none⟩) n c, .int .i64 k] w fun e w' => ∃ r, e = .returned (.int .i64 r) ∧ FirstPost E k n r ∧ Below w.heap.size w w' := by
  have HA := Lib.hid (Below.alloc (Below.refl w.heap.size w) (Nat.le_refl _) (.cells #[.int .i64 k] 31))
  have hcon := index_any b off n c E k w.heap.size (w.alloc (.cells #[.int .i64 k] 31)) (hE.below HA.out) (by simp) (by simp)
  clear hE
  go_enter Try.func25, Try.ntmps25
  go_wp2_with (go_at_call 29; refine hcon.mono ?_; rintro e w' ⟨r, rfl, hr, hb'⟩)
  go_ret
  exact ⟨r, rfl, hr, HA.out.trans (hb'.mono HA.out.size)⟩

end Go.Proofs.Ytmgjmcpkoaacjaa
