/- The walks of First and Any, of the program and of the reference. Condition: no text has more than 2 to the 62nd bytes. -/
import Derived.Test.YtokofmolbdpklaaGL7
namespace Go.Proofs.Ytokofmolbdpklaa.GL
open Go.RowKit
set_option linter.unusedVariables false

/-- The slice of texts at `a` has `len` elements, which are `ls`. -/
def Strs (w : World) (a : Option Addr) (len : Nat) (ls : List ByteArray) : Prop :=
  ls.length = len ∧ len ≤ 9223372036854775807 ∧ (∀ x ∈ ls, x.size ≤ 9223372036854775807) ∧
    (0 < len → ∃ b off, a = some ⟨b, off, none⟩ ∧ b < w.heap.size ∧ ∀ i, i < len → w.cell? ⟨b, off + i, none⟩ = some (.string (ls.getD i ByteArray.empty)))
theorem Strs.below {w w' : World} {a : Option Addr} {len : Nat} {ls : List ByteArray} (h : Strs w a len ls) (hb : Below w.heap.size w w') : Strs w' a len ls := by
  obtain ⟨h1, h2, h3, h4⟩ := h
  refine ⟨h1, h2, h3, fun h0 => ?_⟩
  obtain ⟨b, off, e, hl, hc⟩ := h4 h0
  exact ⟨b, off, e, Nat.lt_of_lt_of_le hl hb.size, fun i hi => (hb.cell (p := ⟨b, off + i, none⟩) hl).trans (hc i hi)⟩
theorem Strs.str {w : World} {a : Option Addr} {len : Nat} {ls : List ByteArray} (h : Strs w a len ls) {k : Nat} (hk : k < len) :
    ∃ b off, a = some ⟨b, off, none⟩ ∧ ∃ t : ByteArray, t = ls.getD k ByteArray.empty ∧ t.size ≤ 9223372036854775807 ∧ b < w.heap.size ∧ w.cell? ⟨b, off + k, none⟩ = some (.string t) := by
  obtain ⟨hl, _, hb, hc⟩ := h
  obtain ⟨b, off, ha, hlt, hc⟩ := hc (by omega)
  have hm : ls.getD k ByteArray.empty ∈ ls := by
    rw [List.getD_eq_getElem?_getD, List.getElem?_eq_getElem (by omega)]; simp
  exact ⟨b, off, ha, _, rfl, hb _ hm, hlt, hc k hk⟩
/-- What First returns. -/
def fst (l : List ByteArray) (s : List Int) : Int := match l.findIdx? (fun p => gm (bys p) s) with | none => -1 | some i => (i : Int)
theorem fst_none {l : List ByteArray} {s : List Int} (h : ∀ i, i < l.length → gm (bys (l.getD i ByteArray.empty)) s = false) : fst l s = -1 := by
  unfold fst
  have : l.findIdx? (fun p => gm (bys p) s) = none := by
    rw [List.findIdx?_eq_none_iff]
    intro x hx
    obtain ⟨i, hi, rfl⟩ := List.getElem_of_mem hx
    have := h i hi
    rw [List.getD_eq_getElem?_getD, List.getElem?_eq_getElem hi] at this
    exact this
  rw [this]
theorem fst_some {l : List ByteArray} {s : List Int} {k : Nat} (hk : k < l.length) (h : ∀ i, i < k → gm (bys (l.getD i ByteArray.empty)) s = false) (hb : gm (bys (l.getD k ByteArray.empty)) s = true) : fst l s = k := by
  unfold fst
  have : l.findIdx? (fun p => gm (bys p) s) = some k := by
    rw [List.findIdx?_eq_some_iff_getElem]
    refine ⟨hk, ?_, fun j hj => ?_⟩
    · rw [List.getD_eq_getElem?_getD, List.getElem?_eq_getElem hk] at hb; exact hb
    · have := h j hj
      rw [List.getD_eq_getElem?_getD, List.getElem?_eq_getElem (by omega)] at this
      simpa using this
  rw [this]
theorem fst_bd (l : List ByteArray) (s : List Int) : -1 ≤ fst l s ∧ fst l s < l.length ∨ fst l s = -1 := by
  unfold fst
  cases hf : l.findIdx? (fun p => gm (bys p) s) with
  | none => exact .inr rfl
  | some i =>
    obtain ⟨h1, _⟩ := List.findIdx?_eq_some_iff_getElem.1 hf
    exact .inl ⟨by show (-1 : Int) ≤ (i : Int); omega, by show (i : Int) < _; omega⟩

set_option maxHeartbeats 800000 in
theorem first_any (a : Option Addr) (len cap : Nat) (ls : List ByteArray) (s : ByteArray) (hs : s.size ≤ 4611686018427387903) (w : World) (h : Strs w a len ls) :
    Calls Try.prog 29 #[.slice a len cap, .string s] w fun e w' => e = .returned (.int .i64 (fst ls (bys s))) ∧ Below w.heap.size w w' := by
  have HL := Lib.hid h.1
  have hl := h.2.1
  have H := Lib.hid h
  clear h
  go_enter Try.func29, Try.ntmps29
  go_wp2
  go_loopw [5, 6, 9] (fun _ _ i wr => ∃ k : Nat, k ≤ len ∧ i = .int .i64 k ∧ Hid (∀ i, i < k → gm (bys (ls.getD i ByteArray.empty)) (bys s) = false) ∧ Hid (Below w.heap.size w wr)) (fun _ _ i _ => len - (intOf i).toNat)
  case atStart => exact ⟨0, Nat.zero_le _, rfl, Lib.hid (fun i hi => by omega), Lib.hid (Below.refl _ _)⟩
  case round =>
    obtain ⟨k, hk, rfl, HO, HB⟩ := hrel
    by_cases hlt : k < len
    · obtain ⟨b, off, rfl, t, ht, hts, hbl, hcell⟩ := (H.out.below HB.out).str hlt
      have c := match_any t s hts hs
      have HT := Lib.hid ht
      cases hg : gm (bys t) (bys s)
      · rw [hg] at c
        have C := Lib.hid c
        have HG := Lib.hid hg
        clear c hg ht
        go_wp2_with (go_at_call 33; refine (C.out _).mono ?_; rintro e w1 ⟨rfl, hb1⟩)
        go_roundw
        case rel => exact ⟨k + 1, by omega, by go_num, Lib.hid (fun i hi => by
            rcases Nat.lt_or_ge i k with h | h
            · exact HO.out i h
            · rw [show i = k by omega, ← HT.out]; exact HG.out), Lib.hid (HB.out.trans (hb1.mono HB.out.size))⟩
        case measure => simp [intOf]; omega
      · rw [hg] at c
        have HF := Lib.hid (fst_some (by rw [HL.out]; exact hlt) HO.out (by rw [← ht]; exact hg))
        have C := Lib.hid c
        clear c hg ht
        go_wp2_with (go_at_call 33; refine (C.out _).mono ?_; rintro e w1 ⟨rfl, hb1⟩)
        go_ret
        exact ⟨ret_i64 HF.out.symm, HB.out.trans (hb1.mono HB.out.size)⟩
    · have HF := Lib.hid (fst_none (l := ls) (s := bys s) (fun i hi => HO.out i (by have := HL.out; omega)))
      go_wp2
      go_ret
      exact ⟨ret_i64 HF.out.symm, HB.out⟩

set_option maxHeartbeats 800000 in
theorem rfirst_any (a : Option Addr) (len cap : Nat) (ls : List ByteArray) (s : ByteArray) (hs : s.size ≤ 4611686018427387903) (w : World) (h : Strs w a len ls) :
    Calls Try.prog 26 #[.slice a len cap, .string s] w fun e w' => e = .returned (.int .i64 (fst ls (bys s))) ∧ Below w.heap.size w w' := by
  have HL := Lib.hid h.1
  have hl := h.2.1
  have H := Lib.hid h
  clear h
  go_enter Try.func26, Try.ntmps26
  go_wp2
  go_loopw [5] (fun i wr => ∃ k : Nat, k ≤ len ∧ i = .int .i64 k ∧ Hid (∀ i, i < k → gm (bys (ls.getD i ByteArray.empty)) (bys s) = false) ∧ Hid (Below w.heap.size w wr)) (fun i _ => len - (intOf i).toNat)
  case atStart => exact ⟨0, Nat.zero_le _, rfl, Lib.hid (fun i hi => by omega), Lib.hid (Below.refl _ _)⟩
  case round =>
    obtain ⟨k, hk, rfl, HO, HB⟩ := hrel
    by_cases hlt : k < len
    · obtain ⟨b, off, rfl, t, ht, hts, hbl, hcell⟩ := (H.out.below HB.out).str hlt
      have c := rmatch_any t s hts hs
      have HT := Lib.hid ht
      cases hg : gm (bys t) (bys s)
      · rw [hg] at c
        have C := Lib.hid c
        have HG := Lib.hid hg
        clear c hg ht
        go_wp2_with (go_at_call 30; refine (C.out _).mono ?_; rintro e w1 ⟨rfl, hb1⟩)
        go_roundw
        case rel => exact ⟨k + 1, by omega, by go_num, Lib.hid (fun i hi => by
            rcases Nat.lt_or_ge i k with h | h
            · exact HO.out i h
            · rw [show i = k by omega, ← HT.out]; exact HG.out), Lib.hid (HB.out.trans (hb1.mono HB.out.size))⟩
        case measure => simp [intOf]; omega
      · rw [hg] at c
        have HF := Lib.hid (fst_some (by rw [HL.out]; exact hlt) HO.out (by rw [← ht]; exact hg))
        have C := Lib.hid c
        clear c hg ht
        go_wp2_with (go_at_call 30; refine (C.out _).mono ?_; rintro e w1 ⟨rfl, hb1⟩)
        go_ret
        exact ⟨ret_i64 HF.out.symm, HB.out.trans (hb1.mono HB.out.size)⟩
    · have HF := Lib.hid (fst_none (l := ls) (s := bys s) (fun i hi => HO.out i (by have := HL.out; omega)))
      go_wp2
      go_ret
      exact ⟨ret_i64 HF.out.symm, HB.out⟩

theorem any_any (a : Option Addr) (len cap : Nat) (ls : List ByteArray) (s : ByteArray) (hs : s.size ≤ 4611686018427387903) (w : World) (h : Strs w a len ls) :
    Calls Try.prog 25 #[.slice a len cap, .string s] w fun e w' => e = .returned (.bool (decide (0 ≤ fst ls (bys s)))) ∧ Below w.heap.size w w' := by
  have C := Lib.hid (first_any a len cap ls s hs w h)
  clear h
  generalize fst ls (bys s) = f at *
  go_enter Try.func25, Try.ntmps25
  go_wp2_with (go_at_call 29; refine C.out.mono ?_; rintro e w1 ⟨rfl, hb1⟩)
  go_ret
  exact ⟨rfl, hb1⟩
theorem rany_any (a : Option Addr) (len cap : Nat) (ls : List ByteArray) (s : ByteArray) (hs : s.size ≤ 4611686018427387903) (w : World) (h : Strs w a len ls) :
    Calls Try.prog 21 #[.slice a len cap, .string s] w fun e w' => e = .returned (.bool (decide (0 ≤ fst ls (bys s)))) ∧ Below w.heap.size w w' := by
  have C := Lib.hid (rfirst_any a len cap ls s hs w h)
  clear h
  generalize fst ls (bys s) = f at *
  go_enter Try.func21, Try.ntmps21
  go_wp2_with (go_at_call 26; refine C.out.mono ?_; rintro e w1 ⟨rfl, hb1⟩)
  go_ret
  exact ⟨rfl, hb1⟩
end Go.Proofs.Ytokofmolbdpklaa.GL
