/- The fields that a kind uses (reference), tables of bits, and the reference's checks of a number and of a target. No condition. -/
import Derived.Test.YtablocpcgknmaaaGreatDoorQPh
import Derived.Test.YtablocpcgknmaaaGreatDoorQPm
namespace Go.Proofs.YtablocpcgknmaaaGreatDoor
open Go.Lib (hid)
open Go Go.RowKit
set_option linter.unusedVariables false
set_option linter.unusedSimpArgs false
set_option maxRecDepth 100000

abbrev nText : ByteArray := ⟨#[84, 101, 120, 116]⟩
abbrev nN : ByteArray := ⟨#[78]⟩
abbrev nTarget : ByteArray := ⟨#[84, 97, 114, 103, 101, 116]⟩
abbrev nThread : ByteArray := ⟨#[84, 104, 114, 101, 97, 100]⟩
abbrev nVia : ByteArray := ⟨#[86, 105, 97]⟩
abbrev nAllow : ByteArray := ⟨#[65, 108, 108, 111, 119]⟩
abbrev nDeny : ByteArray := ⟨#[68, 101, 110, 121]⟩
abbrev nLevels : ByteArray := ⟨#[76, 101, 118, 101, 108, 115]⟩
def unL (k : Int) : List ByteArray := if k = 2 then [nText, nN, nVia] else if k = 3 then [nLevels] else if k = 4 then [nN, nAllow] else if k = 5 then [nN] else if k = 8 then [nN] else if k = 10 then [nN] else if k = 6 then [nAllow, nDeny] else if k = 7 then [nText] else if k = 9 then [nText, nN] else if k = 11 then [nText, nTarget, nThread] else if k = 12 then [nText, nTarget] else if k = 13 then [nText, nTarget] else if k = 14 then [nText, nTarget] else []
theorem unL_2 : unL 2 = [nText, nN, nVia] := by unfold unL; rw [if_pos rfl]
theorem unL_3 : unL 3 = [nLevels] := by unfold unL; rw [if_neg (by decide)]; rw [if_pos rfl]
theorem unL_4 : unL 4 = [nN, nAllow] := by unfold unL; rw [if_neg (by decide)]; rw [if_neg (by decide)]; rw [if_pos rfl]
theorem unL_5 : unL 5 = [nN] := by unfold unL; rw [if_neg (by decide)]; rw [if_neg (by decide)]; rw [if_neg (by decide)]; rw [if_pos rfl]
theorem unL_8 : unL 8 = [nN] := by unfold unL; rw [if_neg (by decide)]; rw [if_neg (by decide)]; rw [if_neg (by decide)]; rw [if_neg (by decide)]; rw [if_pos rfl]
theorem unL_10 : unL 10 = [nN] := by unfold unL; rw [if_neg (by decide)]; rw [if_neg (by decide)]; rw [if_neg (by decide)]; rw [if_neg (by decide)]; rw [if_neg (by decide)]; rw [if_pos rfl]
theorem unL_6 : unL 6 = [nAllow, nDeny] := by unfold unL; rw [if_neg (by decide)]; rw [if_neg (by decide)]; rw [if_neg (by decide)]; rw [if_neg (by decide)]; rw [if_neg (by decide)]; rw [if_neg (by decide)]; rw [if_pos rfl]
theorem unL_7 : unL 7 = [nText] := by unfold unL; rw [if_neg (by decide)]; rw [if_neg (by decide)]; rw [if_neg (by decide)]; rw [if_neg (by decide)]; rw [if_neg (by decide)]; rw [if_neg (by decide)]; rw [if_neg (by decide)]; rw [if_pos rfl]
theorem unL_9 : unL 9 = [nText, nN] := by unfold unL; rw [if_neg (by decide)]; rw [if_neg (by decide)]; rw [if_neg (by decide)]; rw [if_neg (by decide)]; rw [if_neg (by decide)]; rw [if_neg (by decide)]; rw [if_neg (by decide)]; rw [if_neg (by decide)]; rw [if_pos rfl]
theorem unL_11 : unL 11 = [nText, nTarget, nThread] := by unfold unL; rw [if_neg (by decide)]; rw [if_neg (by decide)]; rw [if_neg (by decide)]; rw [if_neg (by decide)]; rw [if_neg (by decide)]; rw [if_neg (by decide)]; rw [if_neg (by decide)]; rw [if_neg (by decide)]; rw [if_neg (by decide)]; rw [if_pos rfl]
theorem unL_12 : unL 12 = [nText, nTarget] := by unfold unL; rw [if_neg (by decide)]; rw [if_neg (by decide)]; rw [if_neg (by decide)]; rw [if_neg (by decide)]; rw [if_neg (by decide)]; rw [if_neg (by decide)]; rw [if_neg (by decide)]; rw [if_neg (by decide)]; rw [if_neg (by decide)]; rw [if_neg (by decide)]; rw [if_pos rfl]
theorem unL_13 : unL 13 = [nText, nTarget] := by unfold unL; rw [if_neg (by decide)]; rw [if_neg (by decide)]; rw [if_neg (by decide)]; rw [if_neg (by decide)]; rw [if_neg (by decide)]; rw [if_neg (by decide)]; rw [if_neg (by decide)]; rw [if_neg (by decide)]; rw [if_neg (by decide)]; rw [if_neg (by decide)]; rw [if_neg (by decide)]; rw [if_pos rfl]
theorem unL_14 : unL 14 = [nText, nTarget] := by unfold unL; rw [if_neg (by decide)]; rw [if_neg (by decide)]; rw [if_neg (by decide)]; rw [if_neg (by decide)]; rw [if_neg (by decide)]; rw [if_neg (by decide)]; rw [if_neg (by decide)]; rw [if_neg (by decide)]; rw [if_neg (by decide)]; rw [if_neg (by decide)]; rw [if_neg (by decide)]; rw [if_neg (by decide)]; rw [if_pos rfl]
theorem unL_1 : unL 1 = [] := by unfold unL; rw [if_neg (by decide)]; rw [if_neg (by decide)]; rw [if_neg (by decide)]; rw [if_neg (by decide)]; rw [if_neg (by decide)]; rw [if_neg (by decide)]; rw [if_neg (by decide)]; rw [if_neg (by decide)]; rw [if_neg (by decide)]; rw [if_neg (by decide)]; rw [if_neg (by decide)]; rw [if_neg (by decide)]; rw [if_neg (by decide)]

theorem txs_blk {w : World} {g : Nat} {ls : List ByteArray} (h : Blk w g (ls.map .string) 9) (hl : ls.length ≤ 1000) (hf : ∀ s ∈ ls, s.size ≤ 9223372036854775807) : Txs w (some ⟨g, 0, none⟩) ls.length ls.length ls := by
 refine ⟨⟨fun j hj => rfl, fun j hj u hu => ?_, by unfold maxLen; omega, (fun e => by cases e), .inr ⟨g, 0, rfl, h.lt, fun j hj i v hv => ?_⟩⟩, rfl, Nat.le_refl _, hf⟩
 ·unfold rowS at hu
  rw [List.mem_singleton] at hu
  rw [hu]
  rfl
 ·rcases i with _ | i
  ·refine h.cell ?_
   unfold rowS at hv
   rw [Nat.zero_add, Nat.mul_one, Nat.add_zero, List.getElem?_map, List.getElem?_eq_getElem hj]
   rw [← hv, List.getD_eq_getElem?_getD, List.getElem?_eq_getElem hj]
   rfl
  ·unfold rowS at hv
   simp at hv
def UsP (w : World) (l : List ByteArray) (e : Ending) (w' : World) : Prop := ∃ A c, e = .returned (.slice A l.length c) ∧ Txs w' A l.length c l ∧ Below w.heap.size w w'
set_option maxHeartbeats 4000000 in
theorem ruses26 (k : Int) (w : World) : Calls Tryz.prog 205 #[.int .i64 k] w (UsP w (unL k)) := by
 unfold UsP
 by_cases h2 : k = 2
 ·subst h2
  rw [unL_2]
  have XB := hid (blk_new w [.string ⟨#[84, 101, 120, 116]⟩, .string ⟨#[78]⟩, .string ⟨#[86, 105, 97]⟩] 9)
  have BA := hid ((Below.refl w.heap.size w).alloc (Nat.le_refl _) (.cells ([.string ⟨#[84, 101, 120, 116]⟩, .string ⟨#[78]⟩, .string ⟨#[86, 105, 97]⟩] : List Value).toArray 9))
  have HT := hid (txs_blk (ls := [nText, nN, nVia]) XB.out (by decide) (by decide))
  clear XB
  go_enter Tryz.func205, Tryz.ntmps205
  go_wp2
  go_ret
  exact ⟨_, _, rfl, HT.out, BA.out⟩
 have e2 : (k == 2) = false := by simpa using h2
 by_cases h3 : k = 3
 ·subst h3
  rw [unL_3]
  have XB := hid (blk_new w [.string ⟨#[76, 101, 118, 101, 108, 115]⟩] 9)
  have BA := hid ((Below.refl w.heap.size w).alloc (Nat.le_refl _) (.cells ([.string ⟨#[76, 101, 118, 101, 108, 115]⟩] : List Value).toArray 9))
  have HT := hid (txs_blk (ls := [nLevels]) XB.out (by decide) (by decide))
  clear XB
  go_enter Tryz.func205, Tryz.ntmps205
  go_wp2
  go_ret
  exact ⟨_, _, rfl, HT.out, BA.out⟩
 have e3 : (k == 3) = false := by simpa using h3
 by_cases h4 : k = 4
 ·subst h4
  rw [unL_4]
  have XB := hid (blk_new w [.string ⟨#[78]⟩, .string ⟨#[65, 108, 108, 111, 119]⟩] 9)
  have BA := hid ((Below.refl w.heap.size w).alloc (Nat.le_refl _) (.cells ([.string ⟨#[78]⟩, .string ⟨#[65, 108, 108, 111, 119]⟩] : List Value).toArray 9))
  have HT := hid (txs_blk (ls := [nN, nAllow]) XB.out (by decide) (by decide))
  clear XB
  go_enter Tryz.func205, Tryz.ntmps205
  go_wp2
  go_ret
  exact ⟨_, _, rfl, HT.out, BA.out⟩
 have e4 : (k == 4) = false := by simpa using h4
 by_cases h5 : k = 5
 ·subst h5
  rw [unL_5]
  have XB := hid (blk_new w [.string ⟨#[78]⟩] 9)
  have BA := hid ((Below.refl w.heap.size w).alloc (Nat.le_refl _) (.cells ([.string ⟨#[78]⟩] : List Value).toArray 9))
  have HT := hid (txs_blk (ls := [nN]) XB.out (by decide) (by decide))
  clear XB
  go_enter Tryz.func205, Tryz.ntmps205
  go_wp2
  go_ret
  exact ⟨_, _, rfl, HT.out, BA.out⟩
 have e5 : (k == 5) = false := by simpa using h5
 by_cases h8 : k = 8
 ·subst h8
  rw [unL_8]
  have XB := hid (blk_new w [.string ⟨#[78]⟩] 9)
  have BA := hid ((Below.refl w.heap.size w).alloc (Nat.le_refl _) (.cells ([.string ⟨#[78]⟩] : List Value).toArray 9))
  have HT := hid (txs_blk (ls := [nN]) XB.out (by decide) (by decide))
  clear XB
  go_enter Tryz.func205, Tryz.ntmps205
  go_wp2
  go_ret
  exact ⟨_, _, rfl, HT.out, BA.out⟩
 have e8 : (k == 8) = false := by simpa using h8
 by_cases h10 : k = 10
 ·subst h10
  rw [unL_10]
  have XB := hid (blk_new w [.string ⟨#[78]⟩] 9)
  have BA := hid ((Below.refl w.heap.size w).alloc (Nat.le_refl _) (.cells ([.string ⟨#[78]⟩] : List Value).toArray 9))
  have HT := hid (txs_blk (ls := [nN]) XB.out (by decide) (by decide))
  clear XB
  go_enter Tryz.func205, Tryz.ntmps205
  go_wp2
  go_ret
  exact ⟨_, _, rfl, HT.out, BA.out⟩
 have e10 : (k == 10) = false := by simpa using h10
 by_cases h6 : k = 6
 ·subst h6
  rw [unL_6]
  have XB := hid (blk_new w [.string ⟨#[65, 108, 108, 111, 119]⟩, .string ⟨#[68, 101, 110, 121]⟩] 9)
  have BA := hid ((Below.refl w.heap.size w).alloc (Nat.le_refl _) (.cells ([.string ⟨#[65, 108, 108, 111, 119]⟩, .string ⟨#[68, 101, 110, 121]⟩] : List Value).toArray 9))
  have HT := hid (txs_blk (ls := [nAllow, nDeny]) XB.out (by decide) (by decide))
  clear XB
  go_enter Tryz.func205, Tryz.ntmps205
  go_wp2
  go_ret
  exact ⟨_, _, rfl, HT.out, BA.out⟩
 have e6 : (k == 6) = false := by simpa using h6
 by_cases h7 : k = 7
 ·subst h7
  rw [unL_7]
  have XB := hid (blk_new w [.string ⟨#[84, 101, 120, 116]⟩] 9)
  have BA := hid ((Below.refl w.heap.size w).alloc (Nat.le_refl _) (.cells ([.string ⟨#[84, 101, 120, 116]⟩] : List Value).toArray 9))
  have HT := hid (txs_blk (ls := [nText]) XB.out (by decide) (by decide))
  clear XB
  go_enter Tryz.func205, Tryz.ntmps205
  go_wp2
  go_ret
  exact ⟨_, _, rfl, HT.out, BA.out⟩
 have e7 : (k == 7) = false := by simpa using h7
 by_cases h9 : k = 9
 ·subst h9
  rw [unL_9]
  have XB := hid (blk_new w [.string ⟨#[84, 101, 120, 116]⟩, .string ⟨#[78]⟩] 9)
  have BA := hid ((Below.refl w.heap.size w).alloc (Nat.le_refl _) (.cells ([.string ⟨#[84, 101, 120, 116]⟩, .string ⟨#[78]⟩] : List Value).toArray 9))
  have HT := hid (txs_blk (ls := [nText, nN]) XB.out (by decide) (by decide))
  clear XB
  go_enter Tryz.func205, Tryz.ntmps205
  go_wp2
  go_ret
  exact ⟨_, _, rfl, HT.out, BA.out⟩
 have e9 : (k == 9) = false := by simpa using h9
 by_cases h11 : k = 11
 ·subst h11
  rw [unL_11]
  have XB := hid (blk_new w [.string ⟨#[84, 101, 120, 116]⟩, .string ⟨#[84, 97, 114, 103, 101, 116]⟩, .string ⟨#[84, 104, 114, 101, 97, 100]⟩] 9)
  have BA := hid ((Below.refl w.heap.size w).alloc (Nat.le_refl _) (.cells ([.string ⟨#[84, 101, 120, 116]⟩, .string ⟨#[84, 97, 114, 103, 101, 116]⟩, .string ⟨#[84, 104, 114, 101, 97, 100]⟩] : List Value).toArray 9))
  have HT := hid (txs_blk (ls := [nText, nTarget, nThread]) XB.out (by decide) (by decide))
  clear XB
  go_enter Tryz.func205, Tryz.ntmps205
  go_wp2
  go_ret
  exact ⟨_, _, rfl, HT.out, BA.out⟩
 have e11 : (k == 11) = false := by simpa using h11
 by_cases h12 : k = 12
 ·subst h12
  rw [unL_12]
  have XB := hid (blk_new w [.string ⟨#[84, 101, 120, 116]⟩, .string ⟨#[84, 97, 114, 103, 101, 116]⟩] 9)
  have BA := hid ((Below.refl w.heap.size w).alloc (Nat.le_refl _) (.cells ([.string ⟨#[84, 101, 120, 116]⟩, .string ⟨#[84, 97, 114, 103, 101, 116]⟩] : List Value).toArray 9))
  have HT := hid (txs_blk (ls := [nText, nTarget]) XB.out (by decide) (by decide))
  clear XB
  go_enter Tryz.func205, Tryz.ntmps205
  go_wp2
  go_ret
  exact ⟨_, _, rfl, HT.out, BA.out⟩
 have e12 : (k == 12) = false := by simpa using h12
 by_cases h13 : k = 13
 ·subst h13
  rw [unL_13]
  have XB := hid (blk_new w [.string ⟨#[84, 101, 120, 116]⟩, .string ⟨#[84, 97, 114, 103, 101, 116]⟩] 9)
  have BA := hid ((Below.refl w.heap.size w).alloc (Nat.le_refl _) (.cells ([.string ⟨#[84, 101, 120, 116]⟩, .string ⟨#[84, 97, 114, 103, 101, 116]⟩] : List Value).toArray 9))
  have HT := hid (txs_blk (ls := [nText, nTarget]) XB.out (by decide) (by decide))
  clear XB
  go_enter Tryz.func205, Tryz.ntmps205
  go_wp2
  go_ret
  exact ⟨_, _, rfl, HT.out, BA.out⟩
 have e13 : (k == 13) = false := by simpa using h13
 by_cases h14 : k = 14
 ·subst h14
  rw [unL_14]
  have XB := hid (blk_new w [.string ⟨#[84, 101, 120, 116]⟩, .string ⟨#[84, 97, 114, 103, 101, 116]⟩] 9)
  have BA := hid ((Below.refl w.heap.size w).alloc (Nat.le_refl _) (.cells ([.string ⟨#[84, 101, 120, 116]⟩, .string ⟨#[84, 97, 114, 103, 101, 116]⟩] : List Value).toArray 9))
  have HT := hid (txs_blk (ls := [nText, nTarget]) XB.out (by decide) (by decide))
  clear XB
  go_enter Tryz.func205, Tryz.ntmps205
  go_wp2
  go_ret
  exact ⟨_, _, rfl, HT.out, BA.out⟩
 have e14 : (k == 14) = false := by simpa using h14
 have HU := hid (show unL k = [] by unfold unL; rw [if_neg h2]; rw [if_neg h3]; rw [if_neg h4]; rw [if_neg h5]; rw [if_neg h8]; rw [if_neg h10]; rw [if_neg h6]; rw [if_neg h7]; rw [if_neg h9]; rw [if_neg h11]; rw [if_neg h12]; rw [if_neg h13]; rw [if_neg h14])
 have HT := hid (Txs.nil w)
 clear h2 h3 h4 h5 h8 h10 h6 h7 h9 h11 h12 h13 h14
 go_enter Tryz.func205, Tryz.ntmps205
 go_wp2
 go_ret
 rw [HU.out]
 exact ⟨_, _, rfl, HT.out, Below.refl _ _⟩
def hasF (l : List ByteArray) (f : ByteArray) : Bool := l.any fun s => decide (s = f)
theorem eq_of_toList {s t : ByteArray} (h : s.toList = t.toList) : s = t := by
 rw [Lib.toList_data, Lib.toList_data] at h
 cases s; cases t
 congr 1
 exact Array.ext' h
theorem hasF_yes {l : List ByteArray} {f : ByteArray} {k : Nat} (hk : k < l.length) (h : l.getD k ByteArray.empty = f) : hasF l f = true := by
 unfold hasF
 exact List.any_eq_true.2 ⟨_, List.getElem_mem hk, by rw [getE hk]; exact decide_eq_true h⟩
theorem hasF_no {l : List ByteArray} {f : ByteArray} (h : ∀ k, k < l.length → ¬ l.getD k ByteArray.empty = f) : hasF l f = false := by
 unfold hasF
 refine List.any_eq_false.2 (fun x hx => ?_)
 obtain ⟨j, hj, rfl⟩ := List.getElem_of_mem hx
 have := h j hj
 rw [← getE hj] at this
 simpa using this
def inE (l : List ByteArray) (f : ByteArray) (F : Nat) (w : World) : Prop := True
/-- A loop that looks for a text in a list of its own. -/
theorem unL_len (k : Int) : (unL k).length ≤ 3 := by
 by_cases h2 : k = 2
 ·subst h2; rw [unL_2]; decide
 by_cases h3 : k = 3
 ·subst h3; rw [unL_3]; decide
 by_cases h4 : k = 4
 ·subst h4; rw [unL_4]; decide
 by_cases h5 : k = 5
 ·subst h5; rw [unL_5]; decide
 by_cases h8 : k = 8
 ·subst h8; rw [unL_8]; decide
 by_cases h10 : k = 10
 ·subst h10; rw [unL_10]; decide
 by_cases h6 : k = 6
 ·subst h6; rw [unL_6]; decide
 by_cases h7 : k = 7
 ·subst h7; rw [unL_7]; decide
 by_cases h9 : k = 9
 ·subst h9; rw [unL_9]; decide
 by_cases h11 : k = 11
 ·subst h11; rw [unL_11]; decide
 by_cases h12 : k = 12
 ·subst h12; rw [unL_12]; decide
 by_cases h13 : k = 13
 ·subst h13; rw [unL_13]; decide
 by_cases h14 : k = 14
 ·subst h14; rw [unL_14]; decide
 rw [show unL k = [] by unfold unL; rw [if_neg h2]; rw [if_neg h3]; rw [if_neg h4]; rw [if_neg h5]; rw [if_neg h8]; rw [if_neg h10]; rw [if_neg h6]; rw [if_neg h7]; rw [if_neg h9]; rw [if_neg h11]; rw [if_neg h12]; rw [if_neg h13]; rw [if_neg h14]]
 decide
set_option maxHeartbeats 4000000 in
theorem ruses109 (k : Int) (f : ByteArray) (w : World) : Calls Tryz.prog 174 #[.int .i64 k, .string f] w fun e w' => e = .returned (.bool (hasF (unL k) f)) ∧ Below w.heap.size w w' := by
 have HU := hid (ruses26 k w)
 have hl := unL_len k
 generalize unL k = l at HU hl ⊢
 have HY := hid (fun j => hasF_yes (l := l) (f := f) (k := j))
 have HN := hid (hasF_no (l := l) (f := f))
 generalize hasF l f = q at HY HN ⊢
 unfold UsP at HU
 go_enter Tryz.func174, Tryz.ntmps174
 go_wp2_with (first | (go_at_call 205; (with_reducible refine HU.out.mono ?_); rintro e w1 ⟨A, c, rfl, ht, hb⟩; have HT := hid ht; have HB := hid hb; clear ht hb) | fail)
 go_loop [6] (fun s => ∃ (j : Nat), j ≤ l.length ∧ s = .int .i64 (j : Int) ∧ Hid (∀ i, i < j → ¬ l.getD i ByteArray.empty = f)) (fun s => l.length - (intOf s).toNat)
 case atStart => exact ⟨0, Nat.zero_le _, by go_num, hid (fun i hi => absurd hi (Nat.not_lt_zero _))⟩
 case round =>
  obtain ⟨j, hj, rfl, HJ⟩ := hrel
  by_cases hlt : j < l.length
  ·have hltz : (j : Int) < (l.length : Int) := by omega
   have hk0 : (0 : Int) ≤ (j : Int) := by omega
   obtain ⟨b, off, rfl, t, ht, hts, q0⟩ := HT.out.get hlt
   have HR := hid ht
   clear ht hts
   by_cases e1 : t = f
   ·have z1 : (t.toList == f.toList) = true := by rw [e1]; exact beq_self_eq_true _
    have HE := hid (HY.out j hlt (HR.out.trans e1))
    clear e1
    go_wp2
    go_ret
    rw [HE.out]
    exact ⟨rfl, HB.out⟩
   ·have z1 : (t.toList == f.toList) = false := beq_eq_false_iff_ne.2 (fun e => e1 (eq_of_toList e))
    have HJ2 := hid (show ∀ i, i < j + 1 → ¬ l.getD i ByteArray.empty = f from fun i hi => by
     by_cases e : i = j
     ·subst e; rw [HR.out]; exact e1
     ·exact HJ.out i (by omega))
    clear e1
    go_wp2
    go_round
    case rel => exact ⟨j + 1, by omega, by go_num, HJ2⟩
    case measure => simp [intOf]; omega
  ·have hltz : ¬ (j : Int) < (l.length : Int) := by omega
   have HE := hid (HN.out (fun i hi => HJ.out i (by omega)))
   go_wp2
   go_ret
   rw [HE.out]
   exact ⟨rfl, HB.out⟩
def hasB (s i : Int) : Bool := bits BinOp.and IntKind.i64 s (wrap64 (2 ^ i.toNat)) != 0
theorem has37 (s i : Int) (hi : 0 ≤ i) (hi2 : i < 8) (q : Bool) (hq : hasB s i = q) (w : World) : Calls Tryz.prog 96 #[.int .i64 s, .int .i64 i] w fun e w' => e = .returned (.bool q) ∧ w = w' := by
 have HQ := hid hq
 clear hq
 go_enter Tryz.func96, Tryz.ntmps96
 go_wp2
 go_ret
 rw [← HQ.out]
 exact ⟨rfl, rfl⟩
def baB (k : Int) : Bool := decide (7 ≤ k ∧ k ≤ 13)
set_option maxHeartbeats 4000000 in
theorem bare41 (k : Int) (q : Bool) (hq : baB k = q) (w : World) : Calls Tryz.prog 105 #[.int .i64 k] w fun e w' => e = .returned (.bool q) ∧ w = w' := by
 have HQ := hid hq
 clear hq
 by_cases h7 : k = 7
 ·subst h7
  obtain rfl : q = true := HQ.out.symm.trans (by decide)
  go_enter Tryz.func105, Tryz.ntmps105
  go_wp2
  go_ret
  exact ⟨rfl, rfl⟩
 have e7 : (k == 7) = false := by simpa using h7
 by_cases h8 : k = 8
 ·subst h8
  obtain rfl : q = true := HQ.out.symm.trans (by decide)
  go_enter Tryz.func105, Tryz.ntmps105
  go_wp2
  go_ret
  exact ⟨rfl, rfl⟩
 have e8 : (k == 8) = false := by simpa using h8
 by_cases h9 : k = 9
 ·subst h9
  obtain rfl : q = true := HQ.out.symm.trans (by decide)
  go_enter Tryz.func105, Tryz.ntmps105
  go_wp2
  go_ret
  exact ⟨rfl, rfl⟩
 have e9 : (k == 9) = false := by simpa using h9
 by_cases h10 : k = 10
 ·subst h10
  obtain rfl : q = true := HQ.out.symm.trans (by decide)
  go_enter Tryz.func105, Tryz.ntmps105
  go_wp2
  go_ret
  exact ⟨rfl, rfl⟩
 have e10 : (k == 10) = false := by simpa using h10
 by_cases h11 : k = 11
 ·subst h11
  obtain rfl : q = true := HQ.out.symm.trans (by decide)
  go_enter Tryz.func105, Tryz.ntmps105
  go_wp2
  go_ret
  exact ⟨rfl, rfl⟩
 have e11 : (k == 11) = false := by simpa using h11
 by_cases h12 : k = 12
 ·subst h12
  obtain rfl : q = true := HQ.out.symm.trans (by decide)
  go_enter Tryz.func105, Tryz.ntmps105
  go_wp2
  go_ret
  exact ⟨rfl, rfl⟩
 have e12 : (k == 12) = false := by simpa using h12
 by_cases h13 : k = 13
 ·subst h13
  obtain rfl : q = true := HQ.out.symm.trans (by decide)
  go_enter Tryz.func105, Tryz.ntmps105
  go_wp2
  go_ret
  exact ⟨rfl, rfl⟩
 have e13 : (k == 13) = false := by simpa using h13
 obtain rfl : q = false := HQ.out.symm.trans (decide_eq_false (by omega))
 clear h7 h8 h9 h10 h11 h12 h13
 go_enter Tryz.func105, Tryz.ntmps105
 go_wp2
 go_ret
 exact ⟨rfl, rfl⟩
def nmR (k n : Int) : Int := if k = 2 then wiE n 0 4 else if k = 4 ∨ k = 5 then wiE n 0 3 else if k = 8 then wiE n 0 1000000000 else if k = 10 then wiE n 1 10000 else if k = 9 then (if n = 1 ∨ n = 2 ∨ n = 6 then 0 else 2) else 0
set_option maxHeartbeats 8000000 in
theorem rnumber43 (k n : Int) (w : World) : Calls Tryz.prog 107 #[.int .i64 k, .int .i64 n] w fun e w' => e = .returned (.int .i64 (nmR k n)) ∧ w = w' := by
 have HC := hid (show nmR k n = if k = 2 then wiE n 0 4 else if k = 4 ∨ k = 5 then wiE n 0 3 else if k = 8 then wiE n 0 1000000000 else if k = 10 then wiE n 1 10000 else if k = 9 then (if n = 1 ∨ n = 2 ∨ n = 6 then 0 else 2) else 0 from rfl)
 generalize nmR k n = r at HC ⊢
 by_cases h2 : k = 2
 ·have HC2 := hid (HC.out.trans (if_pos h2))
  subst h2
  by_cases a1 : 0 ≤ n
  ·by_cases a2 : n ≤ 4
   ·have HE := hid (HC2.out.trans (show wiE n 0 4 = 0 from if_neg (by omega)))
    have d1 : decide (n ≤ 4) = true := decide_eq_true a2
    clear HC HC2
    go_enter Tryz.func107, Tryz.ntmps107
    go_wp2
    go_ret
    exact ⟨ret_i HE.out, rfl⟩
   ·have HE := hid (HC2.out.trans (show wiE n 0 4 = 2 from if_pos (by omega)))
    have d1 : decide (n ≤ 4) = false := decide_eq_false a2
    clear HC HC2
    go_enter Tryz.func107, Tryz.ntmps107
    go_wp2
    go_ret
    exact ⟨ret_i HE.out, rfl⟩
  ·have HE := hid (HC2.out.trans (show wiE n 0 4 = 2 from if_pos (by omega)))
   have d1 : decide (0 ≤ n) = false := decide_eq_false a1
   clear HC HC2
   go_enter Tryz.func107, Tryz.ntmps107
   go_wp2
   go_ret
   exact ⟨ret_i HE.out, rfl⟩
 have e2 : (k == 2) = false := by simpa using h2
 by_cases h4 : k = 4
 ·have HC2 := hid (HC.out.trans ((if_neg h2).trans (if_pos (.inl h4))))
  subst h4
  by_cases a1 : 0 ≤ n
  ·by_cases a2 : n ≤ 3
   ·have HE := hid (HC2.out.trans (show wiE n 0 3 = 0 from if_neg (by omega)))
    have d1 : decide (n ≤ 3) = true := decide_eq_true a2
    clear HC HC2
    go_enter Tryz.func107, Tryz.ntmps107
    go_wp2
    go_ret
    exact ⟨ret_i HE.out, rfl⟩
   ·have HE := hid (HC2.out.trans (show wiE n 0 3 = 2 from if_pos (by omega)))
    have d1 : decide (n ≤ 3) = false := decide_eq_false a2
    clear HC HC2
    go_enter Tryz.func107, Tryz.ntmps107
    go_wp2
    go_ret
    exact ⟨ret_i HE.out, rfl⟩
  ·have HE := hid (HC2.out.trans (show wiE n 0 3 = 2 from if_pos (by omega)))
   have d1 : decide (0 ≤ n) = false := decide_eq_false a1
   clear HC HC2
   go_enter Tryz.func107, Tryz.ntmps107
   go_wp2
   go_ret
   exact ⟨ret_i HE.out, rfl⟩
 have e4 : (k == 4) = false := by simpa using h4
 by_cases h5 : k = 5
 ·have HC2 := hid (HC.out.trans ((if_neg h2).trans (if_pos (.inr h5))))
  subst h5
  by_cases a1 : 0 ≤ n
  ·by_cases a2 : n ≤ 3
   ·have HE := hid (HC2.out.trans (show wiE n 0 3 = 0 from if_neg (by omega)))
    have d1 : decide (n ≤ 3) = true := decide_eq_true a2
    clear HC HC2
    go_enter Tryz.func107, Tryz.ntmps107
    go_wp2
    go_ret
    exact ⟨ret_i HE.out, rfl⟩
   ·have HE := hid (HC2.out.trans (show wiE n 0 3 = 2 from if_pos (by omega)))
    have d1 : decide (n ≤ 3) = false := decide_eq_false a2
    clear HC HC2
    go_enter Tryz.func107, Tryz.ntmps107
    go_wp2
    go_ret
    exact ⟨ret_i HE.out, rfl⟩
  ·have HE := hid (HC2.out.trans (show wiE n 0 3 = 2 from if_pos (by omega)))
   have d1 : decide (0 ≤ n) = false := decide_eq_false a1
   clear HC HC2
   go_enter Tryz.func107, Tryz.ntmps107
   go_wp2
   go_ret
   exact ⟨ret_i HE.out, rfl⟩
 have e5 : (k == 5) = false := by simpa using h5
 by_cases h8 : k = 8
 ·have HC2 := hid (HC.out.trans ((if_neg h2).trans ((if_neg (fun q => q.elim h4 h5)).trans (if_pos h8))))
  subst h8
  by_cases a1 : 0 ≤ n
  ·by_cases a2 : n ≤ 1000000000
   ·have HE := hid (HC2.out.trans (show wiE n 0 1000000000 = 0 from if_neg (by omega)))
    have d1 : decide (n ≤ 1000000000) = true := decide_eq_true a2
    clear HC HC2
    go_enter Tryz.func107, Tryz.ntmps107
    go_wp2
    go_ret
    exact ⟨ret_i HE.out, rfl⟩
   ·have HE := hid (HC2.out.trans (show wiE n 0 1000000000 = 2 from if_pos (by omega)))
    have d1 : decide (n ≤ 1000000000) = false := decide_eq_false a2
    clear HC HC2
    go_enter Tryz.func107, Tryz.ntmps107
    go_wp2
    go_ret
    exact ⟨ret_i HE.out, rfl⟩
  ·have HE := hid (HC2.out.trans (show wiE n 0 1000000000 = 2 from if_pos (by omega)))
   have d1 : decide (0 ≤ n) = false := decide_eq_false a1
   clear HC HC2
   go_enter Tryz.func107, Tryz.ntmps107
   go_wp2
   go_ret
   exact ⟨ret_i HE.out, rfl⟩
 have e8 : (k == 8) = false := by simpa using h8
 by_cases h10 : k = 10
 ·have HC2 := hid (HC.out.trans ((if_neg h2).trans ((if_neg (fun q => q.elim h4 h5)).trans ((if_neg h8).trans (if_pos h10)))))
  subst h10
  by_cases a1 : 1 ≤ n
  ·by_cases a2 : n ≤ 10000
   ·have HE := hid (HC2.out.trans (show wiE n 1 10000 = 0 from if_neg (by omega)))
    have d1 : decide (n ≤ 10000) = true := decide_eq_true a2
    clear HC HC2
    go_enter Tryz.func107, Tryz.ntmps107
    go_wp2
    go_ret
    exact ⟨ret_i HE.out, rfl⟩
   ·have HE := hid (HC2.out.trans (show wiE n 1 10000 = 2 from if_pos (by omega)))
    have d1 : decide (n ≤ 10000) = false := decide_eq_false a2
    clear HC HC2
    go_enter Tryz.func107, Tryz.ntmps107
    go_wp2
    go_ret
    exact ⟨ret_i HE.out, rfl⟩
  ·have HE := hid (HC2.out.trans (show wiE n 1 10000 = 2 from if_pos (by omega)))
   have d1 : decide (1 ≤ n) = false := decide_eq_false a1
   clear HC HC2
   go_enter Tryz.func107, Tryz.ntmps107
   go_wp2
   go_ret
   exact ⟨ret_i HE.out, rfl⟩
 have e10 : (k == 10) = false := by simpa using h10
 by_cases h9 : k = 9
 ·by_cases m1 : n = 1
  ·have p1 : (n == 1) = true := by simpa using m1
   have HE := hid (HC.out.trans ((if_neg h2).trans ((if_neg (fun q => q.elim h4 h5)).trans ((if_neg h8).trans ((if_neg h10).trans ((if_pos h9).trans (if_pos (.inl m1))))))))
   subst h9
   clear HC
   (try clear m1); (try clear m2); (try clear m6)
   go_enter Tryz.func107, Tryz.ntmps107
   go_wp2
   go_ret
   exact ⟨ret_i HE.out, rfl⟩
  ·have p1 : (n == 1) = false := by simpa using m1
   by_cases m2 : n = 2
   ·have p2 : (n == 2) = true := by simpa using m2
    have HE := hid (HC.out.trans ((if_neg h2).trans ((if_neg (fun q => q.elim h4 h5)).trans ((if_neg h8).trans ((if_neg h10).trans ((if_pos h9).trans (if_pos (.inr (.inl m2)))))))))
    subst h9
    clear HC
    (try clear m1); (try clear m2); (try clear m6)
    go_enter Tryz.func107, Tryz.ntmps107
    go_wp2
    go_ret
    exact ⟨ret_i HE.out, rfl⟩
   ·have p2 : (n == 2) = false := by simpa using m2
    by_cases m6 : n = 6
    ·have p6 : (n == 6) = true := by simpa using m6
     have HE := hid (HC.out.trans ((if_neg h2).trans ((if_neg (fun q => q.elim h4 h5)).trans ((if_neg h8).trans ((if_neg h10).trans ((if_pos h9).trans (if_pos (.inr (.inr m6)))))))))
     subst h9
     clear HC
     (try clear m1); (try clear m2); (try clear m6)
     go_enter Tryz.func107, Tryz.ntmps107
     go_wp2
     go_ret
     exact ⟨ret_i HE.out, rfl⟩
    ·have p6 : (n == 6) = false := by simpa using m6
     have HE := hid (HC.out.trans ((if_neg h2).trans ((if_neg (fun q => q.elim h4 h5)).trans ((if_neg h8).trans ((if_neg h10).trans ((if_pos h9).trans (if_neg (fun q => q.elim m1 (fun q => q.elim m2 m6)))))))))
     subst h9
     clear HC
     (try clear m1); (try clear m2); (try clear m6)
     go_enter Tryz.func107, Tryz.ntmps107
     go_wp2
     go_ret
     exact ⟨ret_i HE.out, rfl⟩
 have e9 : (k == 9) = false := by simpa using h9
 have HE := hid (HC.out.trans ((if_neg h2).trans ((if_neg (fun q => q.elim h4 h5)).trans ((if_neg h8).trans ((if_neg h10).trans (if_neg h9))))))
 clear HC h2 h4 h5 h8 h10 h9
 go_enter Tryz.func107, Tryz.ntmps107
 go_wp2
 go_ret
 exact ⟨ret_i HE.out, rfl⟩
end Go.Proofs.YtablocpcgknmaaaGreatDoor
