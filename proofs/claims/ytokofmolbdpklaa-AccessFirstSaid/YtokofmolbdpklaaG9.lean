/- The reference's Great. No condition. -/
import Derived.Test.YtokofmolbdpklaaS1
namespace Go.Proofs.Ytokofmolbdpklaa
open Go.RowKit
set_option linter.unusedVariables false

def big (zs : List ByteArray) (n : Nat) : Bool := (List.range n).any (fun j => decide (80 < (zs.getD j ByteArray.empty).size))
theorem big_true {zs : List ByteArray} {n k : Nat} (hk : k < n) (h : 80 < (zs.getD k ByteArray.empty).size) : big zs n = true := by
  unfold big
  rw [List.any_eq_true]
  exact ⟨k, List.mem_range.2 hk, by simpa using h⟩
theorem big_false {zs : List ByteArray} {n : Nat} (h : ∀ j, j < n → ¬ 80 < (zs.getD j ByteArray.empty).size) : big zs n = false := by
  unfold big
  rw [List.any_eq_false]
  intro j hj
  simpa using h j (List.mem_range.1 hj)
def great (nA nD : Nat) (al dn : List ByteArray) (sv : ByteArray) : Bool := decide (20 < nA) || (decide (20 < nD) || (decide (80 < sv.size) || (big al nA || big dn nD)))
theorem great_bound {nA nD : Nat} {al dn : List ByteArray} {sv : ByteArray} (h : great nA nD al dn sv = false) : nA ≤ 20 ∧ nD ≤ 20 ∧ sv.size ≤ 80 := by
  unfold great at h
  simp only [Bool.or_eq_false_iff, decide_eq_false_iff_not] at h
  omega
set_option maxHeartbeats 2000000 in
theorem great7b (C : Ct) (a : Ads) (sv : ByteArray) (hsv : sv.size ≤ 9223372036854775807) (w : World) (h : IsCt w C a) :
    Calls Try.prog 7 #[.agg (cells C a).toArray, .string sv] w fun e w' => e = .returned (.bool (great C.nA C.nD C.al C.dn sv)) ∧ Below w.heap.size w w' := by
  obtain ⟨tx, n, tg, th, via, nA, al, nD, dn, ⟨nU, U, nK, K, d, x3, x4, x5, x6, x7, x8⟩⟩ := C
  obtain ⟨aA, aC, dA, dC, uA, uC, kA, kC⟩ := a
  have H := Lib.hid h
  have bA : nA ≤ 9223372036854775807 := h.al.rws.big
  have bD : nD ≤ 9223372036854775807 := h.dn.rws.big
  clear h
  have B1 := Lib.hid ((Below.refl _ w).alloc (Nat.le_refl _) (.cells (ctc tx n tg th via aA nA aC dA nD dC uA nU uC kA nK kC d x3 x4 x5 x6 x7 x8).toArray 28))
  have X1 := Lib.hid (blk_new w (ctc tx n tg th via aA nA aC dA nD dC uA nU uC kA nK kC d x3 x4 x5 x6 x7 x8) 28)
  have HSz := Lib.hid B1.out.size
  show Calls Try.prog 7 #[.agg #[.string tx, .int .i64 n, .int .i64 tg, .bool th, .string via, .slice aA nA aC, .slice dA nD dC, .slice uA nU uC, .slice kA nK kC, .int .i64 d, .int .i64 x3, .int .i64 x4, .int .i64 x5, .int .i64 x6, .int .i64 x7, .int .i64 x8], .string sv] w fun e w' => e = .returned (.bool (great nA nD al dn sv)) ∧ Below w.heap.size w w'
  obtain ⟨gb, hgb⟩ : ∃ gb, gb = great nA nD al dn sv := ⟨_, rfl⟩
  rw [← hgb]
  have HGB := Lib.hid hgb
  clear hgb
  go_enter Try.func7, Try.ntmps7
  go_upto_region 1 with (fail)
  generalize hb0 : w.heap.size = b1 at X1 ⊢
  generalize hw2 : (w.alloc _) = w2 at X1 B1 HSz ⊢
  have HB0 := Lib.hid hb0
  clear hb0 hw2
  have i5 := X1.out.cell (i := 5) rfl
  have i6 := X1.out.cell (i := 6) rfl
  by_cases g1 : 20 < nA
  · have z1 : (20 : Int) < (nA : Int) := by omega
    go_wp2
    go_ret
    exact ⟨by rw [HGB.out]; unfold great; simp [g1], B1.out⟩
  by_cases g2 : 20 < nD
  · have z1 : ¬ (20 : Int) < (nA : Int) := by omega
    have z2 : (20 : Int) < (nD : Int) := by omega
    go_wp2
    go_ret
    exact ⟨by rw [HGB.out]; unfold great; simp [g2], B1.out⟩
  by_cases g3 : 80 < sv.size
  · have z1 : ¬ (20 : Int) < (nA : Int) := by omega
    have z2 : ¬ (20 : Int) < (nD : Int) := by omega
    have z3 : (80 : Int) < (sv.size : Int) := by omega
    go_wp2
    go_ret
    exact ⟨by rw [HGB.out]; unfold great; simp [g3], B1.out⟩
  have HG := Lib.hid (show nA ≤ 20 ∧ nD ≤ 20 ∧ sv.size ≤ 80 from ⟨by omega, by omega, by omega⟩)
  have z1 : ¬ (20 : Int) < (nA : Int) := by omega
  have z2 : ¬ (20 : Int) < (nD : Int) := by omega
  have z3 : ¬ (80 : Int) < (sv.size : Int) := by omega
  go_wp2
  clear i5 i6 z1 z2 z3 g1 g2 g3
  go_loopg [5] nA (fun gg s5 wr => ∃ kk : Nat, kk ≤ nA ∧ nA - kk ≤ gg ∧ s5 = .int .i64 kk ∧ Hid (∀ j, j < kk → ¬ 80 < (al.getD j ByteArray.empty).size) ∧ Hid (Below w2.heap.size w2 wr))
  case atStart => exact ⟨0, Nat.zero_le _, by omega, rfl, Lib.hid (fun j hj => absurd hj (Nat.not_lt_zero _)), Lib.hid (Below.refl _ _)⟩
  case round =>
    obtain ⟨kk, hkk, hg, rfl, HO, BW⟩ := hrel
    have i0 := (X1.out.below BW.out).cell (i := 5) rfl
    by_cases hlt : kk < nA
    · have hltz : (kk : Int) < (nA : Int) := by omega
      obtain ⟨b1', o1, rfl, t, hzt, ht, d1⟩ := (H.out.al.below (B1.out.trans (BW.out.mono HSz.out))).get hlt
      by_cases hz : 80 < t.size
      · have hzz : (80 : Int) < (t.size : Int) := by omega
        have HB := Lib.hid (big_true (zs := al) hlt (by rw [hzt]; exact hz))
        clear hzt
        go_wp2
        go_ret
        exact ⟨by rw [HGB.out, show great nA nD al dn sv = true from by unfold great; simp [HB.out]]; rfl, B1.out.trans (BW.out.mono HSz.out)⟩
      · have hzz : ¬ (80 : Int) < (t.size : Int) := by omega
        have HN := Lib.hid (show ¬ 80 < (al.getD kk ByteArray.empty).size by rw [hzt]; exact hz)
        clear hzt
        go_wp2
        go_roundg (nA - (kk + 1))
        case measure => omega
        case rel =>
          refine ⟨kk + 1, by omega, by omega, by go_num, Lib.hid (fun j hj => ?_), BW⟩
          by_cases e : j = kk
          · subst e; exact HN.out
          · exact HO.out j (by omega)
    · have hltz : ¬ (kk : Int) < (nA : Int) := by omega
      have HB1 := Lib.hid (big_false (zs := al) (n := nA) (fun j hj => HO.out j (by omega)))
      have BWs := BW
      clear hlt hg hkk
      go_wp2
      clear i0
      go_loopg [6] nD (fun gg s5 wr => ∃ kk : Nat, kk ≤ nD ∧ nD - kk ≤ gg ∧ s5 = .int .i64 kk ∧ Hid (∀ j, j < kk → ¬ 80 < (dn.getD j ByteArray.empty).size) ∧ Hid (Below w2.heap.size w2 wr))
      case atStart => exact ⟨0, Nat.zero_le _, by omega, rfl, Lib.hid (fun j hj => absurd hj (Nat.not_lt_zero _)), BWs⟩
      case round =>
        clear BWs hltz BW
        obtain ⟨kk, hkk, hg, rfl, HO, BW⟩ := hrel
        have i0 := (X1.out.below BW.out).cell (i := 6) rfl
        by_cases hlt : kk < nD
        · have hltz : (kk : Int) < (nD : Int) := by omega
          obtain ⟨b1', o1, rfl, t, hzt, ht, d1⟩ := (H.out.dn.below (B1.out.trans (BW.out.mono HSz.out))).get hlt
          by_cases hz : 80 < t.size
          · have hzz : (80 : Int) < (t.size : Int) := by omega
            have HB := Lib.hid (big_true (zs := dn) hlt (by rw [hzt]; exact hz))
            clear hzt
            go_wp2
            go_ret
            exact ⟨by rw [HGB.out, show great nA nD al dn sv = true from by unfold great; simp [HB.out]]; rfl, B1.out.trans (BW.out.mono HSz.out)⟩
          · have hzz : ¬ (80 : Int) < (t.size : Int) := by omega
            have HN := Lib.hid (show ¬ 80 < (dn.getD kk ByteArray.empty).size by rw [hzt]; exact hz)
            clear hzt
            go_wp2
            go_roundg (nD - (kk + 1))
            case measure => omega
            case rel =>
              refine ⟨kk + 1, by omega, by omega, by go_num, Lib.hid (fun j hj => ?_), BW⟩
              by_cases e : j = kk
              · subst e; exact HN.out
              · exact HO.out j (by omega)
        · have hltz : ¬ (kk : Int) < (nD : Int) := by omega
          have HB2 := Lib.hid (big_false (zs := dn) (n := nD) (fun j hj => HO.out j (by omega)))
          go_wp2
          go_ret
          exact ⟨by rw [HGB.out, show great nA nD al dn sv = false from by obtain ⟨q1, q2, q3⟩ := HG.out; unfold great; simp [q1, q2, q3, HB1.out, HB2.out]]; rfl, B1.out.trans (BW.out.mono HSz.out)⟩
end Go.Proofs.Ytokofmolbdpklaa
