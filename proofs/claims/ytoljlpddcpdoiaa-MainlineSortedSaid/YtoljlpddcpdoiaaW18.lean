/- The mainline: few. Bound: none beyond a slice's. -/
import Derived.Test.YtoljlpddcpdoiaaW17
namespace Go.Proofs.Ytoljlpddcpdoiaa
open Go Go.RowKit
set_option linter.unusedVariables false
set_option linter.unusedSimpArgs false

/-- What few says no to is small. -/
def Few (n : Nat) (E : Nat → Me) : Prop := n ≤ 14 ∧ ∀ j, j < n → (E j).nA ≤ 20
def FewP (n : Nat) (E : Nat → Me) (e : Ending) : Prop := ∃ r, e = .returned (.bool r) ∧ (r = true → Few n E)
set_option maxRecDepth 100000 in
set_option maxHeartbeats 4000000 in
theorem few8 (A : Option Addr) (n c : Nat) (E : Nat → Me) (w : World) (h : Evm w A n E) : Calls Try.prog 8 #[.slice A n c] w fun e w' => FewP n E e ∧ Below w.heap.size w w' := by
  by_cases hn : (14 : Int) < (n : Int)
  · clear h
    go_enter Try.func8, Try.ntmps8
    go_wp2
    go_ret
    exact ⟨⟨false, rfl, fun e => by cases e⟩, Below.refl _ _⟩
  · have H := Lib.hid h
    have HN := Lib.hid (show n ≤ 14 by omega)
    clear h
    go_enter Try.func8, Try.ntmps8
    go_wp2
    go_loopg [3] n (fun gg s2 wr => ∃ kk : Nat, kk ≤ n ∧ n - kk ≤ gg ∧ s2 = .int .i64 kk ∧ Hid (∀ j, j < kk → (E j).nA ≤ 20) ∧ wr = w)
    case atStart => exact ⟨0, Nat.zero_le _, by omega, rfl, Lib.hid (fun j hj => absurd hj (Nat.not_lt_zero _)), rfl⟩
    case round =>
      obtain ⟨kk, hkk, hg, rfl, HJ, rfl⟩ := hrel
      by_cases hlt : kk < n
      · have hltz : (kk : Int) < (n : Int) := by omega
        have hk0 : (0 : Int) ≤ (kk : Int) := by omega
        obtain ⟨b, off, rfl, hbl, _, _, _, k9⟩ := H.out.get hlt
        have HX : Hid ((E kk).nA ≤ 20 → ∀ j, j < kk + 1 → (E j).nA ≤ 20) := Lib.hid (fun h j hj => by
          by_cases e : j = kk
          · subst e; exact h
          · exact HJ.out j (by omega))
        generalize (E kk).nA = nA at k9 HX
        by_cases hb : (20 : Int) < (nA : Int)
        · clear HX
          go_wp2
          go_ret
          exact ⟨⟨false, rfl, fun e => by cases e⟩, Below.refl _ _⟩
        · have HX2 := Lib.hid (HX.out (by omega))
          clear HX
          go_wp2
          go_roundg (n - (kk + 1))
          case measure => omega
          case rel => exact ⟨kk + 1, by omega, by omega, by go_num, HX2, rfl⟩
      · have hltz : ¬ (kk : Int) < (n : Int) := by omega
        obtain rfl : kk = n := by omega
        go_wp2
        go_ret
        exact ⟨⟨true, rfl, fun _ => ⟨HN.out, HJ.out⟩⟩, Below.refl _ _⟩
end Go.Proofs.Ytoljlpddcpdoiaa
