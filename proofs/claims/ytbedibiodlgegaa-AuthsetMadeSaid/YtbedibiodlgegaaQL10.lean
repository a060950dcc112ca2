/- The walks of num's lists: Sorted, Union, Minus of the reference; copies. Bounds: at most 1000 elements a list. -/
import Derived.Test.YtbedibiodlgegaaQL9
namespace Go.Proofs.Ytbedibiodlgegaa.Q
open Go.Proofs.Ytbedibiodlgegaa
open Go.RowKit Go.Sort
set_option linter.unusedVariables false

theorem take_snoc (zs : List Int) (k : Nat) (h : k < zs.length) : zs.take (k + 1) = zs.take k ++ [zs.getD k 0] := by
  rw [List.take_succ_eq_append_getElem h, List.getD_eq_getElem?_getD, List.getElem?_eq_getElem h]; rfl
theorem none_ints (w : World) (B : Nat) (hB : B ≤ w.heap.size) : Ints (w.alloc (.cells #[] 3)) (some ⟨w.heap.size, 0, none⟩) 0 0 [] :=
  own_ints (World.ownsRow_made (base := B) (e := 3) (size := 1) w #[] 0 hB (by decide) (by simp)) (by omega)
theorem intsP_mk {w w' : World} {A : Option Addr} {n c : Nat} {zs : List Int} (h : Ints w' A n c zs) (hb : Below w.heap.size w w') : IntsP w zs (.returned (.slice A n c)) w' := by
  have hl := h.len
  subst hl
  exact ⟨A, c, rfl, h, hb⟩
set_option maxHeartbeats 800000 in
theorem rsorted_any (A : Option Addr) (n c : Nat) (zs : List Int) (w : World) (h : Ints w A n c zs) (hn : n ≤ 1000) : Calls Try.prog 25 #[.slice A n c] w (IntsP w (M.st zs)) := by
  have H := Lib.hid h
  have HN := Lib.hid (none_ints w w.heap.size (Nat.le_refl _))
  have HBW := Lib.hid (Below.alloc (Below.refl w.heap.size w) (Nat.le_refl _) (.cells #[] 3))
  clear h
  go_enter Try.func25, Try.ntmps25
  go_wp2
  go_loopw [3, 4] (fun s3 i wr => ∃ (k m : Nat) (A1 : Option Addr) (c1 : Nat) (acc : List Int), k ≤ n ∧ m ≤ k ∧ i = .int .i64 k ∧ s3 = .slice A1 m c1 ∧ Hid (Ints wr A1 m c1 acc) ∧ Hid (acc = M.puts [] (zs.take k)) ∧ Hid (Below w.heap.size w wr)) (fun _ i _ => n - (intOf i).toNat)
  case atStart => exact ⟨0, 0, _, _, [], Nat.zero_le _, Nat.le_refl _, rfl, rfl, HN, Lib.hid rfl, HBW⟩
  case round =>
    obtain ⟨k, m, A1, c1, acc, hk, hm, rfl, rfl, HA, HX, HB⟩ := hrel
    by_cases hlt : k < n
    · have hltz : (k : Int) < (n : Int) := by omega
      obtain ⟨b, off, rfl, _, hc⟩ := (H.out.below HB.out).get hlt
      obtain ⟨z, hz⟩ : ∃ z, zs.getD k 0 = z := ⟨_, rfl⟩
      rw [hz] at hc
      have HZ := Lib.hid hz
      have HS := Lib.hid (take_snoc zs k (by rw [H.out.len]; exact hlt))
      have C := Lib.hid (put_any A1 m c1 acc z wr HA.out (by omega))
      have HLP := Lib.hid (M.len_put acc z)
      have HML := Lib.hid HA.out.len
      clear hz
      go_wp2_with (go_at_call 34; refine C.out.mono ?_; rintro e w1 ⟨A2, c2, rfl, hi, hb⟩; have HI2 := Lib.hid hi; have HB2 := Lib.hid (HB.out.trans (hb.mono HB.out.size)); clear hi hb)
      go_roundw
      case rel => exact ⟨k + 1, _, A2, c2, _, by omega, by have := HLP.out; have := HML.out; omega, by go_num, rfl, HI2, Lib.hid (by rw [HS.out, M.puts_snoc, HX.out, HZ.out]), HB2⟩
      case measure => simp [intOf]; omega
    · have hltz : ¬ (k : Int) < (n : Int) := by omega
      have HE := Lib.hid (show acc = M.st zs by rw [HX.out, List.take_of_length_le (by rw [H.out.len]; omega), M.puts_st])
      go_wp2
      go_ret
      rw [← HE.out]
      exact intsP_mk HA.out HB.out
end Go.Proofs.Ytbedibiodlgegaa.Q
