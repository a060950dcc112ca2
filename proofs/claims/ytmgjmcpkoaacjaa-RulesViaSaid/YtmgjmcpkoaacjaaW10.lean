/- Two lists of the same texts are the same (the reference's SameTexts). No condition. -/
import Derived.Test.YtmgjmcpkoaacjaaW9
namespace Go.Proofs.Ytmgjmcpkoaacjaa
open Go.RowKit
set_option linter.unusedVariables false

theorem Texts.str {w : World} {A : Option Addr} {l : Nat} {zs : List ByteArray} (h : Texts w A l zs) {k : Nat} (hk : k < l) :
    ∃ b off, A = some ⟨b, off, none⟩ ∧ w.cell? ⟨b, off + k, none⟩ = some (.string (zs.getD k ByteArray.empty)) := by
  rcases h.at_ with h0 | ⟨b, off, e, _, hc⟩
  · omega
  · exact ⟨b, off, e, hc k hk⟩

set_option maxHeartbeats 1000000 in
theorem same_yes (A1 A2 : Option Addr) (n c1 c2 : Nat) (zs : List ByteArray) (w : World) (h1 : Texts w A1 n zs) (h2 : Texts w A2 n zs) :
    Calls Try.prog 11 #[.slice A1 n c1, .slice A2 n c2] w fun e w' => e = .returned (.bool true) ∧ Below w.heap.size w w' := by
  have H1 := Lib.hid h1
  have H2 := Lib.hid h2
  have hle := h1.le
  have hbig : n ≤ 9223372036854775807 := by omega
  clear h1 h2 hle
  go_enter Try.func11, Try.ntmps11
  go_wp2
  go_loopg [5] n (fun gg s5 wr => ∃ kk : Nat, kk ≤ n ∧ n - kk ≤ gg ∧ s5 = .int .i64 kk ∧ Hid (Below w.heap.size w wr))
  case atStart => exact ⟨0, Nat.zero_le _, by omega, rfl, Lib.hid (Below.refl _ w)⟩
  case round =>
    obtain ⟨kk, hkk, hg, rfl, BW⟩ := hrel
    by_cases hlt : kk < n
    · have hltz : (kk : Int) < (n : Int) := by omega
      obtain ⟨b1, o1, rfl, d1⟩ := (H1.out.below BW.out).str hlt
      obtain ⟨b2, o2, rfl, d2⟩ := (H2.out.below BW.out).str hlt
      generalize zs.getD kk ByteArray.empty = t at d1 d2
      have q : (t.toList == t.toList) = true := beq_self_eq_true _
      go_wp2
      go_quiet (fail)
      go_wp2
      go_roundg (n - (kk + 1))
      case measure => omega
      case rel => exact ⟨kk + 1, by omega, by omega, by go_num, Lib.hid (below_drewN BW.out _)⟩
    · have hltz : ¬ (kk : Int) < (n : Int) := by omega
      have : kk = n := by omega
      subst this
      go_wp2
      go_ret
      exact ⟨rfl, BW.out⟩

end Go.Proofs.Ytmgjmcpkoaacjaa
