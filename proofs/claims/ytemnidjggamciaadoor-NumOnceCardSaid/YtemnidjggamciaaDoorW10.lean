/- The walks of num's lists: Sorted, Union, Minus of the reference; copies. Bounds: at most 1000 elements a list. -/
import Derived.Test.YtemnidjggamciaaDoorW9
namespace Go.Proofs.YtemnidjggamciaaDoor
open Go.RowKit Go.Sort
set_option linter.unusedVariables false

theorem take_snoc (zs : List Int) (k : Nat) (h : k < zs.length) : zs.take (k + 1) = zs.take k ++ [zs.getD k 0] := by
  rw [List.take_succ_eq_append_getElem h, List.getD_eq_getElem?_getD, List.getElem?_eq_getElem h]; rfl
theorem none_ints (w : World) (B : Nat) (hB : B ≤ w.heap.size) : Ints (w.alloc (.cells #[] 3)) (some ⟨w.heap.size, 0, none⟩) 0 0 [] :=
  own_ints (World.ownsRow_made (base := B) (e := 3) (size := 1) w #[] 0 hB (by decide) (by simp)) (by omega)
theorem intsP_mk {w w' : World} {A : Option Addr} {n c : Nat} {zs : List Int} (h : Ints w' A n c zs) (hb : Below w.heap.size w w') : IntsP w zs (.returned (.slice A n c)) w' := by
  have hl := h.len
  subst hl
  exact ⟨A, c, rfl, h, hb⟩
set_option maxHeartbeats 800000 in
theorem rsorted_any (A : Option Addr) (n c : Nat) (zs : List Int) (w : World) (h : Ints w A n c zs) (hn : n ≤ 1000) : Calls Tryd.prog 25 #[.slice A n c] w (IntsP w (M.st zs)) := by
  have H := Lib.hid h
  have HN := Lib.hid (none_ints w w.heap.size (Nat.le_refl _))
  have HBW := Lib.hid (Below.alloc (Below.refl w.heap.size w) (Nat.le_refl _) (.cells #[] 3))
  clear h
  go_enter Tryd.func25, Tryd.ntmps25
  go_wp2
  go_loopw [3, 4] (fun s3 i wr => ∃ (k m : Nat) (A1 : Option Addr) (c1 : Nat) (acc : List Int), k ≤ n ∧ m ≤ k ∧ i = .int .i64 k ∧ s3 = .slice A1 m c1 ∧ Hid (Ints wr A1 m c1 acc) ∧ Hid (acc = M.puts [] (zs.take k)) ∧ Hid (Below w.heap.size w wr)) (fun _ i _ => n - (intOf i).toNat)
  case atStart => exact ⟨0, 0, _, _, [], Nat.zero_le _, Nat.le_refl _, rfl, rfl, HN, Lib.hid rfl, HBW⟩
  case round =>
    obtain ⟨k, m, A1, c1, acc, hk, hm, rfl, rfl, HA, HX, HB⟩ := hrel
    by_cases hlt : k < n
    · have hltz : (k : Int) < (n : Int) := by omega
      obtain ⟨b, off, rfl, _, hc⟩ := (H.out.below HB.out).get hlt
      obtain ⟨z, hz⟩ : ∃ z, zs.getD k 0 = z := ⟨_, rfl⟩
      rw [hz] at hc
      have HZ := Lib.hid hz
      have HS := Lib.hid (take_snoc zs k (by rw [H.out.len]; exact hlt))
      have C := Lib.hid (put_any A1 m c1 acc z wr HA.out (by omega))
      have HLP := Lib.hid (M.len_put acc z)
      have HML := Lib.hid HA.out.len
      clear hz
      go_wp2_with (go_at_call 40; refine C.out.mono ?_; rintro e w1 ⟨A2, c2, rfl, hi, hb⟩; have HI2 := Lib.hid hi; have HB2 := Lib.hid (HB.out.trans (hb.mono HB.out.size)); clear hi hb)
      go_roundw
      case rel => exact ⟨k + 1, _, A2, c2, _, by omega, by have := HLP.out; have := HML.out; omega, by go_num, rfl, HI2, Lib.hid (by rw [HS.out, M.puts_snoc, HX.out, HZ.out]), HB2⟩
      case measure => simp [intOf]; omega
    · have hltz : ¬ (k : Int) < (n : Int) := by omega
      have HE := Lib.hid (show acc = M.st zs by rw [HX.out, List.take_of_length_le (by rw [H.out.len]; omega), M.puts_st])
      go_wp2
      go_ret
      rw [← HE.out]
      exact intsP_mk HA.out HB.out
set_option maxHeartbeats 800000 in
theorem runion_any (A : Option Addr) (n c : Nat) (zs : List Int) (A' : Option Addr) (n' c' : Nat) (ys : List Int) (w : World) (h : Ints w A n c zs) (h' : Ints w A' n' c' ys) (hn : n ≤ 1000) (hn' : n' ≤ 1000) :
    Calls Tryd.prog 29 #[.slice A n c, .slice A' n' c'] w (IntsP w (M.st (zs ++ ys))) := by
  have H := Lib.hid h'
  have HL := Lib.hid h.len
  have C1 := Lib.hid (rsorted_any A n c zs w h hn)
  have HLS := Lib.hid (M.len_st zs)
  clear h h'
  go_enter Tryd.func29, Tryd.ntmps29
  go_wp2_with (go_at_call 25; refine C1.out.mono ?_; rintro e w1 ⟨A2, c2, rfl, hi, hb⟩; have HI2 := Lib.hid hi; have HB2 := Lib.hid hb; clear hi hb)
  go_loopw [5, 6] (fun s3 i wr => ∃ (k m : Nat) (A1 : Option Addr) (c1 : Nat) (acc : List Int), k ≤ n' ∧ m ≤ 1000 + k ∧ i = .int .i64 k ∧ s3 = .slice A1 m c1 ∧ Hid (Ints wr A1 m c1 acc) ∧ Hid (acc = M.puts (M.st zs) (ys.take k)) ∧ Hid (Below w.heap.size w wr)) (fun _ i _ => n' - (intOf i).toNat)
  case atStart => exact ⟨0, _, _, _, _, Nat.zero_le _, by have := HLS.out; have := HL.out; omega, rfl, rfl, HI2, Lib.hid rfl, HB2⟩
  case round =>
    obtain ⟨k, m, A1, c1, acc, hk, hm, rfl, rfl, HA, HX, HB⟩ := hrel
    by_cases hlt : k < n'
    · have hltz : (k : Int) < (n' : Int) := by omega
      obtain ⟨b, off, rfl, _, hc⟩ := (H.out.below HB.out).get hlt
      obtain ⟨z, hz⟩ : ∃ z, ys.getD k 0 = z := ⟨_, rfl⟩
      rw [hz] at hc
      have HZ := Lib.hid hz
      have HS := Lib.hid (take_snoc ys k (by rw [H.out.len]; exact hlt))
      have C := Lib.hid (put_any A1 m c1 acc z wr HA.out (by omega))
      have HLP := Lib.hid (M.len_put acc z)
      have HML := Lib.hid HA.out.len
      clear hz
      go_wp2_with (go_at_call 40; refine C.out.mono ?_; rintro e w3 ⟨A3, c3, rfl, hi, hb⟩; have HI3 := Lib.hid hi; have HB3 := Lib.hid (HB.out.trans (hb.mono HB.out.size)); clear hi hb)
      go_roundw
      case rel => exact ⟨k + 1, _, A3, c3, _, by omega, by have := HLP.out; have := HML.out; omega, by go_num, rfl, HI3, Lib.hid (by rw [HS.out, M.puts_snoc, HX.out, HZ.out]), HB3⟩
      case measure => simp [intOf]; omega
    · have hltz : ¬ (k : Int) < (n' : Int) := by omega
      have HE := Lib.hid (show acc = M.st (zs ++ ys) by rw [HX.out, List.take_of_length_le (by rw [H.out.len]; omega), M.puts_union])
      go_wp2
      go_ret
      rw [← HE.out]
      exact intsP_mk HA.out HB.out
/-- Of an increasing list, what another one lacks, up to a place. -/
def flt (ss ys : List Int) : List Int := ss.filter fun x => !(hsB ys x)
theorem flt_yes (ss ys : List Int) (k : Nat) (h : k < ss.length) (hx : hsB ys (ss.getD k 0) = true) : flt (ss.take (k + 1)) ys = flt (ss.take k) ys := by
  unfold flt; rw [M.mns_snoc _ _ _ h, hx]; simp
theorem flt_no (ss ys : List Int) (k : Nat) (h : k < ss.length) (hx : hsB ys (ss.getD k 0) = false) : flt (ss.take (k + 1)) ys = flt (ss.take k) ys ++ [ss.getD k 0] := by
  unfold flt; rw [M.mns_snoc _ _ _ h, hx]; simp
theorem flt_mns (zs ys : List Int) : flt (M.st zs) ys = M.mns zs ys := rfl
theorem own_app {w w' : World} {B : Nat} {v v' : Value} {n : Nat} {acc : List Int} {x : Int} (h : Grew w w' B 3 1 v v' (n + 1) (acc.map (Value.int .i64) ++ [Value.int .i64 x])) : w'.ownsRow B 3 1 v' (n + 1) ((acc ++ [x]).map (Value.int .i64)) := by
  have := h.own; simpa using this
set_option maxHeartbeats 1600000 in
theorem rminus_any (A : Option Addr) (n c : Nat) (zs : List Int) (A' : Option Addr) (n' c' : Nat) (ys : List Int) (w : World) (h : Ints w A n c zs) (h' : Ints w A' n' c' ys) (hn : n ≤ 1000) (hn' : n' ≤ 1000) :
    Calls Tryd.prog 31 #[.slice A n c, .slice A' n' c'] w (IntsP w (M.mns zs ys)) := by
  have H := Lib.hid h'
  have HL := Lib.hid h.len
  have C1 := Lib.hid (rsorted_any A n c zs w h hn)
  have HLS := Lib.hid (M.len_st zs)
  clear h h'
  obtain ⟨i0, hi, hz0, hz1, hz2⟩ := info_parts info3
  have HI := Lib.hid (And.intro hi (And.intro hz0 (And.intro hz1 hz2)))
  clear hi hz0 hz1 hz2
  go_enter Tryd.func31, Tryd.ntmps31
  go_wp2_with (go_at_call 25; refine C1.out.mono ?_; rintro e w1 ⟨A2, c2, rfl, hi, hb⟩; have HI2 := Lib.hid hi; have HB2 := Lib.hid hb; clear hi hb)
  have HM := Lib.hid (show (M.st zs).length ≤ 1000 by have := HLS.out; have := HL.out; omega)
  generalize hss : M.st zs = ss at *
  have HSS := Lib.hid hss
  clear hss
  obtain ⟨n2, hn2⟩ : ∃ n2, ss.length = n2 := ⟨_, rfl⟩
  rw [hn2] at HI2 HM ⊢
  have HN2 := Lib.hid hn2
  have hm2 := HM.out
  clear hn2
  have HO0 := Lib.hid (World.ownsRow_made (base := w1.heap.size) (e := 3) (size := 1) w1 #[] 0 (Nat.le_refl _) (by decide) (by simp))
  have HBW := Lib.hid (Below.alloc (Below.refl w1.heap.size w1) (Nat.le_refl _) (.cells #[] 3))
  go_loopw [6, 7] (fun s3 i wr => ∃ (k m : Nat) (v : Value) (acc : List Int), k ≤ n2 ∧ m ≤ k ∧ i = .int .i64 k ∧ s3 = v ∧ Hid (wr.ownsRow w1.heap.size 3 1 v m (acc.map (Value.int .i64))) ∧ Hid (acc = flt (ss.take k) ys) ∧ Hid (Below w1.heap.size w1 wr)) (fun _ i _ => n2 - (intOf i).toNat)
  case atStart => exact ⟨0, 0, _, [], Nat.zero_le _, Nat.le_refl _, rfl, rfl, HO0, Lib.hid rfl, HBW⟩
  case round =>
    obtain ⟨k, m, v, acc, hk, hm, rfl, rfl, HA, HX, HB⟩ := hrel
    by_cases hlt : k < n2
    · have hltz : (k : Int) < (n2 : Int) := by omega
      obtain ⟨b, off, rfl, hbl, hc⟩ := (HI2.out.below HB.out).get hlt
      obtain ⟨z, hz⟩ : ∃ z, ss.getD k 0 = z := ⟨_, rfl⟩
      rw [hz] at hc
      have HZ := Lib.hid hz
      have C := Lib.hid (rhas_any A' n' c' ys z wr ((H.out.below HB2.out).below HB.out))
      have HML := Lib.hid HA.out.1
      clear hz
      cases hq : hsB ys z with
      | true =>
        have HS := Lib.hid (flt_yes ss ys k (by rw [HN2.out]; exact hlt) (by rw [HZ.out]; exact hq))
        rw [hq] at C
        clear hq
        go_wp2_with (go_at_call 27; refine C.out.mono ?_; rintro e w' ⟨rfl, rfl⟩)
        go_roundw
        case rel => exact ⟨k + 1, m, _, acc, by omega, by omega, by go_num, rfl, HA, Lib.hid (by rw [HS.out, HX.out]), HB⟩
        case measure => simp [intOf]; omega
      | false =>
        have HS := Lib.hid (flt_no ss ys k (by rw [HN2.out]; exact hlt) (by rw [HZ.out]; exact hq))
        rw [hq] at C
        clear hq
        have HX1 := Lib.hid (src_one wr z)
        have HBX := Lib.hid (Below.alloc (Below.refl wr.heap.size wr) (Nat.le_refl _) (.cells #[.int .i64 z] 3))
        have HBX2 := Lib.hid (HB.out.trans (HBX.out.mono HB.out.size))
        have HO3 := Lib.hid (own_below HA.out HBX.out)
        go_wp2_with (first | (go_at_call 27; refine C.out.mono ?_; rintro e w' ⟨rfl, rfl⟩) | (at_builtin; refine wpList_append_any _ rfl _ _ 31 rfl w1.heap.size 3 i0 _ 1 8 Tryd.underlying31 HI.out.1 HI.out.2.1 HI.out.2.2.1 HI.out.2.2.2 rfl (by decide) _ (m) (acc.map (Value.int .i64)) rfl HO3.out _ (1) (1) ([Value.int .i64 z]) rfl HX1.out (by unfold maxLen; omega) (by omega) HBX2.out.size ?_; intro v3 w3 hg; have HG3 := Lib.hid hg; clear hg; have HB3 := Lib.hid (HG3.out.below HBX2.out HO3.out); have HO4 := Lib.hid (own_app HG3.out); clear HG3))
        go_roundw
        case rel => exact ⟨k + 1, m + 1, _, _, by omega, by omega, by go_num, rfl, HO4, Lib.hid (by rw [HS.out, HX.out, HZ.out]), HB3⟩
        case measure => simp [intOf]; omega
    · have hltz : ¬ (k : Int) < (n2 : Int) := by omega
      have HE := Lib.hid (show acc = M.mns zs ys by rw [HX.out, List.take_of_length_le (by rw [HN2.out]; omega), ← HSS.out, flt_mns])
      obtain ⟨A4, c4, e4, _, _⟩ := own_slice HA.out
      subst e4
      go_wp2
      go_ret
      rw [← HE.out]
      exact intsP_mk (own_ints HA.out (by omega)) (HB2.out.trans (HB.out.mono HB2.out.size))
end Go.Proofs.YtemnidjggamciaaDoor
