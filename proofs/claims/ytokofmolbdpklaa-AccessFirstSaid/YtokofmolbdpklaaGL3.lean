/- The walks of begins and find. The slices are read as lists of bytes. -/
import Derived.Test.YtokofmolbdpklaaGL2
import Derived.Outline
namespace Go.Proofs.Ytokofmolbdpklaa.GL
open Go.RowKit
set_option linter.unusedVariables false

/-- The slice of bytes at `a` has `len` elements, which are `zs`. -/
def Byt (w : World) (a : Option Addr) (len : Nat) (zs : List Int) : Prop :=
  zs.length = len ∧ (∀ z ∈ zs, 0 ≤ z ∧ z ≤ 255) ∧ len ≤ 9223372036854775807 ∧
    (0 < len → ∃ b off, a = some ⟨b, off, none⟩ ∧ b < w.heap.size ∧ ∀ i, i < len → w.cell? ⟨b, off + i, none⟩ = some (.int .u8 (zs.getD i 0)))
theorem Byt.byte {w : World} {a : Option Addr} {len : Nat} {zs : List Int} (h : Byt w a len zs) {k : Nat} (hk : k < len) :
    ∃ b off, a = some ⟨b, off, none⟩ ∧ ∃ z : Nat, z ≤ 255 ∧ zs.getD k 0 = (z : Int) ∧ w.cell? ⟨b, off + k, none⟩ = some (.int .u8 (z : Int)) := by
  obtain ⟨hl, hb, _, hc⟩ := h
  obtain ⟨b, off, ha, _, hc⟩ := hc (by omega)
  have hm : zs.getD k 0 ∈ zs := by
    rw [List.getD_eq_getElem?_getD, List.getElem?_eq_getElem (by omega)]; simp
  have hz := hb _ hm
  refine ⟨b, off, ha, (zs.getD k 0).toNat, by omega, by omega, ?_⟩
  rw [hc k hk]
  congr 2
  omega
theorem Byt.below {w w' : World} {a : Option Addr} {len : Nat} {zs : List Int} (h : Byt w a len zs) (hb : Below w.heap.size w w') : Byt w' a len zs := by
  obtain ⟨h1, h2, h3, h4⟩ := h
  refine ⟨h1, h2, h3, fun h0 => ?_⟩
  obtain ⟨b, off, e, hl, hc⟩ := h4 h0
  exact ⟨b, off, e, Nat.lt_of_lt_of_le hl hb.size, fun i hi => (hb.cell (p := ⟨b, off + i, none⟩) hl).trans (hc i hi)⟩

set_option maxHeartbeats 400000 in
theorem begins_any (a1 a2 : Option Addr) (len1 cap1 len2 cap2 : Nat) (t x : List Int) (w : World) (h1 : Byt w a1 len1 t) (h2 : Byt w a2 len2 x) :
    Calls Try.prog 37 #[.slice a1 len1 cap1, .slice a2 len2 cap2] w fun e w' => e = .returned (.bool (G.beg x t)) ∧ w = w' := by
  have l1 := h1.2.2.1
  have l2 := h2.2.2.1
  have HL1 := Lib.hid h1.1
  have HL2 := Lib.hid h2.1
  by_cases hlt : len1 < len2
  · have HF := Lib.hid (G.beg_short x t (by rw [h1.1, h2.1]; exact hlt))
    go_enter Try.func37, Try.ntmps37
    go_wp2
    go_ret
    exact ⟨ret_bool HF.out.symm, rfl⟩
  · have hle : len2 ≤ len1 := by omega
    go_enter Try.func37, Try.ntmps37
    go_wp2
    go_loop [5, 6, 14] (fun _ _ i => ∃ k : Nat, k ≤ len2 ∧ i = .int .i64 k ∧ Hid (G.beg (x.take k) t = true)) (fun _ _ i => len2 - (intOf i).toNat)
    case atStart => exact ⟨0, Nat.zero_le _, rfl, Lib.hid (by rw [List.take_zero]; rfl)⟩
    case round =>
      obtain ⟨k, hk, rfl, HO⟩ := hrel
      by_cases hlt : k < len2
      · obtain ⟨b2, o2, rfl, z2, hz2, hk2, hc2⟩ := h2.byte hlt
        obtain ⟨b1, o1, rfl, z1, hz1, hk1, hc1⟩ := h1.byte (show k < len1 by omega)
        have HS := Lib.hid (G.beg_snoc x t k (by rw [HL2.out]; exact hlt) (by rw [HL1.out]; omega))
        have HB := Lib.hid (G.beg_bad x t k (by rw [HL2.out]; exact hlt) (by rw [HL1.out]; omega))
        have HK1 := Lib.hid hk1
        have HK2 := Lib.hid hk2
        clear hk1 hk2 h1 h2
        by_cases hq : z2 = 63
        · have e1 : ((z2 : Int) != 63) = false := by rw [bne_eq_false_iff_eq]; omega
          have HQ := Lib.hid hq
          clear hq
          go_wp2
          go_round
          case rel => exact ⟨k + 1, by omega, by go_num, Lib.hid (by rw [HS.out, HO.out, HK2.out, HQ.out]; rfl)⟩
          case measure => simp [intOf]; omega
        · have e1 : ((z2 : Int) != 63) = true := by rw [bne_iff_ne]; omega
          have HQ := Lib.hid hq
          clear hq
          by_cases hd : z2 = z1
          · have e2 : ((z2 : Int) != (z1 : Int)) = false := by rw [bne_eq_false_iff_eq]; omega
            have HD := Lib.hid hd
            clear hd
            go_wp2
            go_round
            case rel => exact ⟨k + 1, by omega, by go_num, Lib.hid (by rw [HS.out, HO.out, HK2.out, HK1.out, HD.out]; simp)⟩
            case measure => simp [intOf]; omega
          · have e2 : ((z2 : Int) != (z1 : Int)) = true := by rw [bne_iff_ne]; omega
            have HD := Lib.hid hd
            clear hd
            go_wp2
            go_ret
            exact ⟨ret_bool (HB.out ⟨by rw [HK2.out]; have := HQ.out; omega, by rw [HK2.out, HK1.out]; have := HD.out; omega⟩).symm, rfl⟩
      · have HF2 := Lib.hid (show G.beg x t = true by rw [← HO.out, List.take_of_length_le (by rw [HL2.out]; omega)])
        clear h1 h2
        go_wp2
        go_ret
        exact ⟨ret_bool HF2.out.symm, rfl⟩

theorem Byt.drop {w : World} {a : Option Addr} {len : Nat} {zs : List Int} (h : Byt w a len zs) (k : Nat) (hk : k ≤ len) :
    Byt w (Option.map (fun x => x.add k) a) (len - k) (zs.drop k) := by
  obtain ⟨h1, h2, h3, h4⟩ := h
  refine ⟨by rw [List.length_drop, h1], fun z hz => h2 z (List.mem_of_mem_drop hz), by omega, fun h0 => ?_⟩
  obtain ⟨b, off, rfl, hl, hc⟩ := h4 (by omega)
  refine ⟨b, off + k, by simp [Addr.add], hl, fun i hi => ?_⟩
  rw [show off + k + i = off + (k + i) by omega, hc (k + i) (by omega), List.getD_eq_getElem?_getD, List.getD_eq_getElem?_getD, List.getElem?_drop]
theorem Byt.nothing {w : World} {a : Option Addr} {len k : Nat} {zs : List Int} (h : Byt w a len zs) (a' : Option Addr) (hk : len ≤ k) : Byt w a' (len - k) (zs.drop k) := by
  rw [List.drop_of_length_le (by rw [h.1]; exact hk), Nat.sub_eq_zero_of_le hk]
  exact ⟨rfl, by simp, by omega, by omega⟩
/-- What find returns. -/
def fi (x t : List Int) : Int := match G.find x t with | .none => -1 | some k => (k : Int)
theorem fi_none {x t : List Int} (h : ∀ i, i + x.length ≤ t.length → G.beg x (t.drop i) = false) : fi x t = -1 := by
  unfold fi
  cases hf : G.find x t with
  | none => rfl
  | some k =>
    obtain ⟨_, h2, h3, _⟩ := G.fnd_some x t _ 0 k hf
    rw [h k (by omega)] at h3; cases h3
theorem fi_some {x t : List Int} {k : Nat} (h : ∀ i, i < k → G.beg x (t.drop i) = false) (hb : G.beg x (t.drop k) = true) (hk : k + x.length ≤ t.length) : fi x t = k := by
  unfold fi
  cases hf : G.find x t with
  | none =>
    have := G.fnd_none x t _ 0 hf k (Nat.zero_le _) (by omega)
    rw [this] at hb; cases hb
  | some m =>
    obtain ⟨_, h2, h3, h4⟩ := G.fnd_some x t _ 0 m hf
    have : m = k := by
      rcases Nat.lt_trichotomy m k with h5 | h5 | h5
      · rw [h m h5] at h3; cases h3
      · exact h5
      · rw [h4 k (Nat.zero_le _) h5] at hb; cases hb
    rw [this]

set_option maxHeartbeats 400000 in
theorem find_zero (a1 a2 : Option Addr) (len2 cap2 : Nat) (x : List Int) (w : World) (h2 : Byt w a2 len2 x) :
    Calls Try.prog 38 #[.slice a1 0 0, .slice a2 len2 cap2] w fun e w' => e = .returned (.int .i64 (fi x [])) ∧ w = w' := by
  have l2 := h2.2.2.1
  have HL2 := Lib.hid h2.1
  by_cases h0 : len2 = 0
  · subst h0
    have hx : x = [] := List.eq_nil_of_length_eq_zero HL2.out
    subst hx
    have C := Lib.hid (begins_any a1 a2 0 0 0 cap2 [] [] w ⟨rfl, by simp, by omega, by omega⟩ h2)
    clear h2
    go_enter Try.func38, Try.ntmps38
    go_wp2
    refine wp_loop_rounds 1 ?_; rw [rounds_succ]
    go_wp2_with (go_at_call 37; refine C.out.mono ?_; rintro e w' ⟨rfl, rfl⟩)
    go_ret
    exact ⟨rfl, rfl⟩
  · have HF := Lib.hid (fi_none (x := x) (t := []) (fun i hi => by have := HL2.out; rw [List.length_nil] at hi; omega))
    have hp : 1 ≤ len2 := by omega
    clear h2 h0
    go_enter Try.func38, Try.ntmps38
    go_wp2
    refine wp_loop_rounds 1 ?_; rw [rounds_succ]
    go_wp2
    go_ret
    exact ⟨ret_i64 HF.out.symm, rfl⟩

set_option maxHeartbeats 800000 in
theorem find_any (a1 a2 : Option Addr) (len1 cap1 len2 cap2 : Nat) (t x : List Int) (w : World) (h1 : Byt w a1 len1 t) (h2 : Byt w a2 len2 x) (hc : len1 ≤ cap1) (hm : len1 ≤ 4611686018427387903) :
    Calls Try.prog 38 #[.slice a1 len1 cap1, .slice a2 len2 cap2] w fun e w' => e = .returned (.int .i64 (fi x t)) ∧ w = w' := by
  have l2 := h2.2.2.1
  have HL1 := Lib.hid h1.1
  have HL2 := Lib.hid h2.1
  have H1 := Lib.hid h1
  have H2 := Lib.hid h2
  rcases Nat.eq_zero_or_pos cap1 with h0 | hpos
  · subst h0
    obtain rfl : len1 = 0 := by omega
    obtain rfl : t = [] := List.eq_nil_of_length_eq_zero HL1.out
    exact find_zero a1 a2 len2 cap2 x w h2
  clear h1 h2
  go_enter Try.func38, Try.ntmps38
  go_wp2
  go_loop [5, 12] (fun _ i => ∃ k : Nat, k ≤ len1 + 1 ∧ i = .int .i64 k ∧ Hid (∀ i, i < k → G.beg x (t.drop i) = false)) (fun _ i => len1 + 1 - (intOf i).toNat)
  case atStart => exact ⟨0, by omega, rfl, Lib.hid (fun i hi => by omega)⟩
  case round =>
    obtain ⟨k, hk, rfl, HO⟩ := hrel
    by_cases hlt : k + len2 < len1 + 1
    · have C0 : ∀ a', Byt w a' (len1 - k) (t.drop k) → Calls Try.prog 37 #[.slice a' (len1 - k) (cap1 - k), .slice a2 len2 cap2] w fun e w' => e = .returned (.bool (G.beg x (t.drop k))) ∧ w = w' := fun a' h => begins_any a' a2 _ _ _ _ _ x w h H2.out
      have hkl : k ≤ len1 := by omega
      have hck : ¬ cap1 = k := by
        intro e
        have hx : x = [] := List.eq_nil_of_length_eq_zero (by rw [HL2.out]; omega)
        have := HO.out 0 (by omega)
        rw [hx] at this
        simp [G.beg] at this
      cases hb : G.beg x (t.drop k)
      · rw [hb] at C0
        have HB := Lib.hid hb
        have C := Lib.hid C0
        clear C0 hb
        go_wp2_with (go_at_call 37; refine (C.out _ (H1.out.drop k hkl)).mono ?_; rintro e w' ⟨rfl, rfl⟩)
        all_goals
          go_round
          case rel => exact ⟨k + 1, by omega, by go_num, Lib.hid (fun i hi => by
            rcases Nat.lt_or_ge i k with h | h
            · exact HO.out i h
            · rw [show i = k by omega]; exact HB.out)⟩
          case measure => simp [intOf]; omega
      · rw [hb] at C0
        have HF := Lib.hid (fi_some HO.out hb (by rw [HL1.out, HL2.out]; omega))
        have C := Lib.hid C0
        clear C0 hb
        go_wp2_with (go_at_call 37; refine (C.out _ (H1.out.drop k hkl)).mono ?_; rintro e w' ⟨rfl, rfl⟩)
        all_goals
          go_ret
          exact ⟨ret_i64 HF.out.symm, rfl⟩
    · have HF := Lib.hid (fi_none (x := x) (t := t) (fun i hi => HO.out i (by have := HL1.out; have := HL2.out; omega)))
      go_wp2
      go_ret
      exact ⟨ret_i64 HF.out.symm, rfl⟩
end Go.Proofs.Ytokofmolbdpklaa.GL
