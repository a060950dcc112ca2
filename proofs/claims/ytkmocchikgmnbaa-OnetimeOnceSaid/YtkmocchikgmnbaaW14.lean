/- One-time keys: Same of the reference, at equal lists. Bound: at most 1000000 entries. -/
import Derived.Test.YtkmocchikgmnbaaW13
namespace Go.Proofs.Ytkmocchikgmnbaa
open Go.RowKit
set_option linter.unusedVariables false
set_option linter.unusedSimpArgs false

set_option maxRecDepth 100000 in
set_option maxHeartbeats 8000000 in
theorem same_yes (A1 A2 : Option Addr) (c1 c2 : Nat) (zs : List Rc) (w : World) (h1 : Rcs w A1 zs.length c1 zs) (h2 : Rcs w A2 zs.length c2 zs) (hn : zs.length ≤ 1000000) : Calls Try.prog 14 #[.slice A1 zs.length c1, .slice A2 zs.length c2] w fun e w' => e = .returned (.bool true) ∧ Below w.heap.size w w' := by
  have H1 := Lib.hid h1
  have H2 := Lib.hid h2
  obtain ⟨n, hnn⟩ : ∃ n, n = zs.length := ⟨_, rfl⟩
  rw [← hnn] at H1 H2 hn ⊢
  clear h1 h2 hnn
  go_enter Try.func14, Try.ntmps14
  go_wp2
  go_loopg [5] n (fun gg s5 wr => ∃ kk : Nat, kk ≤ n ∧ n - kk ≤ gg ∧ s5 = .int .i64 kk ∧ Hid (Below w.heap.size w wr))
  case atStart => exact ⟨0, Nat.zero_le _, by omega, rfl, Lib.hid (Below.refl _ _)⟩
  case round =>
    obtain ⟨kk, hkk, hg, rfl, BW⟩ := hrel
    by_cases hlt : kk < n
    · have hltz : (kk : Int) < (n : Int) := by omega
      obtain ⟨b, off, rfl, hbl, k0, k1, k2, k3, _⟩ := (H1.out.below BW.out).at_ hlt
      obtain ⟨b2, off2, rfl, hbl2, q0, q1, q2, q3, _⟩ := (H2.out.below BW.out).at_ hlt
      generalize zs.getD kk t0 = p at k0 k1 k2 k3 q0 q1 q2 q3
      go_wp2
      all_goals go_quiet (fail)
      all_goals go_wp2
      all_goals go_roundg (n - (kk + 1))
      all_goals first
        | omega
        | exact ⟨kk + 1, by omega, by omega, by go_num, Lib.hid (below_drewN BW.out _)⟩
    · have hltz : ¬ (kk : Int) < (n : Int) := by omega
      go_wp2
      go_ret
      exact ⟨rfl, BW.out⟩
end Go.Proofs.Ytkmocchikgmnbaa
