/- The reference's Great. No condition. -/
import Derived.Test.YtokofmolbdpklaaS1
namespace Go.Proofs.Ytokofmolbdpklaa
open Go.RowKit
set_option linter.unusedVariables false

def GrP (nA nD : Nat) (sv : ByteArray) (e : Ending) : Prop := ∃ b, e = .returned (.bool b) ∧ (b = false → nA ≤ 20 ∧ nD ≤ 20 ∧ sv.size ≤ 80)
set_option maxHeartbeats 2000000 in
theorem great7 (C : Ct) (a : Ads) (sv : ByteArray) (hsv : sv.size ≤ 9223372036854775807) (w : World) (h : IsCt w C a) :
    Calls Try.prog 7 #[.agg (cells C a).toArray, .string sv] w fun e w' => GrP C.nA C.nD sv e ∧ Below w.heap.size w w' := by
  obtain ⟨tx, n, tg, th, via, nA, al, nD, dn, ⟨nU, U, nK, K, d, x3, x4, x5, x6, x7, x8⟩⟩ := C
  obtain ⟨aA, aC, dA, dC, uA, uC, kA, kC⟩ := a
  have H := Lib.hid h
  have bA : nA ≤ 9223372036854775807 := h.al.rws.big
  have bD : nD ≤ 9223372036854775807 := h.dn.rws.big
  clear h
  have B1 := Lib.hid ((Below.refl _ w).alloc (Nat.le_refl _) (.cells (ctc tx n tg th via aA nA aC dA nD dC uA nU uC kA nK kC d x3 x4 x5 x6 x7 x8).toArray 28))
  have X1 := Lib.hid (blk_new w (ctc tx n tg th via aA nA aC dA nD dC uA nU uC kA nK kC d x3 x4 x5 x6 x7 x8) 28)
  have HSz := Lib.hid B1.out.size
  show Calls Try.prog 7 #[.agg #[.string tx, .int .i64 n, .int .i64 tg, .bool th, .string via, .slice aA nA aC, .slice dA nD dC, .slice uA nU uC, .slice kA nK kC, .int .i64 d, .int .i64 x3, .int .i64 x4, .int .i64 x5, .int .i64 x6, .int .i64 x7, .int .i64 x8], .string sv] w fun e w' => GrP nA nD sv e ∧ Below w.heap.size w w'
  go_enter Try.func7, Try.ntmps7
  go_upto_region 1 with (fail)
  generalize hb0 : w.heap.size = b1 at X1 ⊢
  generalize hw2 : (w.alloc _) = w2 at X1 B1 HSz ⊢
  have HB0 := Lib.hid hb0
  clear hb0 hw2
  have i5 := X1.out.cell (i := 5) rfl
  have i6 := X1.out.cell (i := 6) rfl
  by_cases g1 : 20 < nA
  · have z1 : (20 : Int) < (nA : Int) := by omega
    go_wp2
    go_ret
    exact ⟨⟨true, rfl, fun e => (by cases e)⟩, B1.out⟩
  by_cases g2 : 20 < nD
  · have z1 : ¬ (20 : Int) < (nA : Int) := by omega
    have z2 : (20 : Int) < (nD : Int) := by omega
    go_wp2
    go_ret
    exact ⟨⟨true, rfl, fun e => (by cases e)⟩, B1.out⟩
  by_cases g3 : 80 < sv.size
  · have z1 : ¬ (20 : Int) < (nA : Int) := by omega
    have z2 : ¬ (20 : Int) < (nD : Int) := by omega
    have z3 : (80 : Int) < (sv.size : Int) := by omega
    go_wp2
    go_ret
    exact ⟨⟨true, rfl, fun e => (by cases e)⟩, B1.out⟩
  have HG := Lib.hid (show nA ≤ 20 ∧ nD ≤ 20 ∧ sv.size ≤ 80 from ⟨by omega, by omega, by omega⟩)
  have z1 : ¬ (20 : Int) < (nA : Int) := by omega
  have z2 : ¬ (20 : Int) < (nD : Int) := by omega
  have z3 : ¬ (80 : Int) < (sv.size : Int) := by omega
  go_wp2
  clear i5 i6 z1 z2 z3 g1 g2 g3
  go_loopg [5] nA (fun gg s5 wr => ∃ kk : Nat, kk ≤ nA ∧ nA - kk ≤ gg ∧ s5 = .int .i64 kk ∧ Hid (Below w2.heap.size w2 wr))
  case atStart => exact ⟨0, Nat.zero_le _, by omega, rfl, Lib.hid (Below.refl _ _)⟩
  case round =>
    obtain ⟨kk, hkk, hg, rfl, BW⟩ := hrel
    have i0 := (X1.out.below BW.out).cell (i := 5) rfl
    by_cases hlt : kk < nA
    · have hltz : (kk : Int) < (nA : Int) := by omega
      obtain ⟨b1', o1, rfl, t, _, ht, d1⟩ := (H.out.al.below (B1.out.trans (BW.out.mono HSz.out))).get hlt
      by_cases hz : 80 < t.size
      · have hzz : (80 : Int) < (t.size : Int) := by omega
        go_wp2
        go_ret
        exact ⟨⟨true, rfl, fun e => (by cases e)⟩, B1.out.trans (BW.out.mono HSz.out)⟩
      · have hzz : ¬ (80 : Int) < (t.size : Int) := by omega
        go_wp2
        go_roundg (nA - (kk + 1))
        case measure => omega
        case rel => exact ⟨kk + 1, by omega, by omega, by go_num, BW⟩
    · have hltz : ¬ (kk : Int) < (nA : Int) := by omega
      have BWs := BW
      clear hlt hg hkk
      go_wp2
      clear i0
      go_loopg [6] nD (fun gg s5 wr => ∃ kk : Nat, kk ≤ nD ∧ nD - kk ≤ gg ∧ s5 = .int .i64 kk ∧ Hid (Below w2.heap.size w2 wr))
      case atStart => exact ⟨0, Nat.zero_le _, by omega, rfl, BWs⟩
      case round =>
        clear BWs hltz BW
        obtain ⟨kk, hkk, hg, rfl, BW⟩ := hrel
        have i0 := (X1.out.below BW.out).cell (i := 6) rfl
        by_cases hlt : kk < nD
        · have hltz : (kk : Int) < (nD : Int) := by omega
          obtain ⟨b1', o1, rfl, t, _, ht, d1⟩ := (H.out.dn.below (B1.out.trans (BW.out.mono HSz.out))).get hlt
          by_cases hz : 80 < t.size
          · have hzz : (80 : Int) < (t.size : Int) := by omega
            go_wp2
            go_ret
            exact ⟨⟨true, rfl, fun e => (by cases e)⟩, B1.out.trans (BW.out.mono HSz.out)⟩
          · have hzz : ¬ (80 : Int) < (t.size : Int) := by omega
            go_wp2
            go_roundg (nD - (kk + 1))
            case measure => omega
            case rel => exact ⟨kk + 1, by omega, by omega, by go_num, BW⟩
        · have hltz : ¬ (kk : Int) < (nD : Int) := by omega
          go_wp2
          go_ret
          exact ⟨⟨false, rfl, fun _ => HG.out⟩, B1.out.trans (BW.out.mono HSz.out)⟩
end Go.Proofs.Ytokofmolbdpklaa
