/- The walk of SameTexts. No condition. -/
import Derived.Test.YtgfodleoollmmaaW12
import Derived.Test.YtgfodleoollmmaaW14
namespace Go.Proofs.Ytgfodleoollmmaa
open Go.RowKit
set_option linter.unusedVariables false

theorem get_takeT {x : List ByteArray} {k : Nat} (hk : k < x.length) : x.take (k + 1) = x.take k ++ [x.getD k ⟨#[]⟩] := by
  rw [List.take_succ_eq_append_getElem hk, List.getD_eq_getElem?_getD, List.getElem?_eq_getElem hk]; rfl

theorem toList_inj {s t : ByteArray} (h : s.toList = t.toList) : s = t := by
  rw [ByteArray.toList_eq, ByteArray.toList_eq] at h
  cases s
  cases t
  congr 1
  exact Array.ext' h
set_option maxHeartbeats 800000 in
theorem sameTexts_any (a1 : Option Addr) (l1 c1 : Nat) (x : List ByteArray) (a2 : Option Addr) (l2 c2 : Nat) (y : List ByteArray) (hb : l1 ≤ 1000000) (w : World) (h1 : Ts w a1 l1 c1 x) (h2 : Ts w a2 l2 c2 y) :
    Calls Try.prog 33 #[.slice a1 l1 c1, .slice a2 l2 c2] w fun e w' => e = .returned (.bool (decide (x = y))) ∧ Below w.heap.size w w' := by
  have H1 := Lib.hid h1
  have H2 := Lib.hid h2
  have HX := Lib.hid h1.sz
  have HY := Lib.hid h2.sz
  clear h1 h2
  by_cases hl : l1 = l2
  · subst hl
    go_enter Try.func33, Try.ntmps33
    go_wp2
    go_loopw [5] (fun i wr => ∃ k : Nat, k ≤ l1 ∧ i = .int .i64 k ∧ Hid (x.take k = y.take k) ∧ Hid (Below w.heap.size w wr)) (fun i _ => l1 - (intOf i).toNat)
    case atStart => exact ⟨0, Nat.zero_le _, rfl, Lib.hid (by simp), Lib.hid (Below.refl _ _)⟩
    case round =>
      obtain ⟨k, hk, rfl, HE, HB⟩ := hrel
      by_cases hlt : k < l1
      · obtain ⟨b, o, rfl, z, hz, _, hbl, hc⟩ := H1.out.text hlt
        obtain ⟨b', o', rfl, z', hz', _, hbl', hc'⟩ := H2.out.text hlt
        have q1 := (HB.out.cell (p := ⟨b, o + k, none⟩) hbl).trans hc
        have q2 := (HB.out.cell (p := ⟨b', o' + k, none⟩) hbl').trans hc'
        have HZ := Lib.hid hz
        have HZ' := Lib.hid hz'
        clear hc hc' hz hz'
        by_cases hzz : z = z'
        · subst hzz
          have HT := Lib.hid (show x.take (k + 1) = y.take (k + 1) by rw [get_takeT (by rw [HX.out]; exact hlt), get_takeT (by rw [HY.out]; exact hlt), HE.out, HZ.out, HZ'.out])
          have e1 : (z.toList == z.toList) = true := beq_self_eq_true _
          have e2 : (z.toList != z.toList) = false := by simp
          go_wp2
          go_quiet (fail)
          go_wp2
          go_roundw
          case rel => exact ⟨k + 1, by omega, by go_num, HT, Lib.hid (below_dn HB.out _)⟩
          case measure => simp [intOf]; omega
        · have HN := Lib.hid (show decide (x = y) = false from decide_eq_false (by rintro rfl; exact hzz (HZ.out.symm.trans HZ'.out)))
          have e2 : (z.toList == z'.toList) = false := beq_eq_false_iff_ne.2 (fun h => hzz (toList_inj h))
          go_wp2
          go_quiet (fail)
          go_wp2
          go_ret
          exact ⟨ret_bool HN.out.symm, below_dn HB.out _⟩
      · obtain rfl : k = l1 := by omega
        have HT := Lib.hid (show decide (x = y) = true from decide_eq_true (take_all_eq HX.out HY.out HE.out))
        go_wp2
        go_ret
        exact ⟨ret_bool HT.out.symm, HB.out⟩
  · have HN := Lib.hid (show decide (x = y) = false from decide_eq_false (by rintro rfl; exact hl (HX.out.symm.trans HY.out)))
    have e2 : ((l1 : Int) != (l2 : Int)) = true := by simp; omega
    go_enter Try.func33, Try.ntmps33
    go_wp2
    go_ret
    exact ⟨ret_bool HN.out.symm, Below.refl _ _⟩
end Go.Proofs.Ytgfodleoollmmaa
