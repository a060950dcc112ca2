/- The fields that a kind uses (reference), tables of bits, and the reference's checks of a number and of a target. No condition. -/
import Derived.Test.YtablocpcgknmaaaGreatDoorRPh
import Derived.Test.YtablocpcgknmaaaGreatDoorRPm
namespace Go.Proofs.YtablocpcgknmaaaGreatDoor
open Go.Lib (hid)
open Go Go.RowKit
set_option linter.unusedVariables false
set_option linter.unusedSimpArgs false
set_option maxRecDepth 100000

abbrev nText : ByteArray := ⟨#[84, 101, 120, 116]⟩
abbrev nN : ByteArray := ⟨#[78]⟩
abbrev nTarget : ByteArray := ⟨#[84, 97, 114, 103, 101, 116]⟩
abbrev nThread : ByteArray := ⟨#[84, 104, 114, 101, 97, 100]⟩
abbrev nVia : ByteArray := ⟨#[86, 105, 97]⟩
abbrev nAllow : ByteArray := ⟨#[65, 108, 108, 111, 119]⟩
abbrev nDeny : ByteArray := ⟨#[68, 101, 110, 121]⟩
abbrev nLevels : ByteArray := ⟨#[76, 101, 118, 101, 108, 115]⟩
def unL (k : Int) : List ByteArray := if k = 2 then [nText, nN, nVia] else if k = 3 then [nLevels] else if k = 4 then [nN, nAllow] else if k = 5 then [nN] else if k = 8 then [nN] else if k = 10 then [nN] else if k = 6 then [nAllow, nDeny] else if k = 7 then [nText] else if k = 9 then [nText, nN] else if k = 11 then [nText, nTarget, nThread] else if k = 12 then [nText, nTarget] else if k = 13 then [nText, nTarget] else if k = 14 then [nText, nTarget] else []
theorem unL_2 : unL 2 = [nText, nN, nVia] := by unfold unL; rw [if_pos rfl]
theorem unL_3 : unL 3 = [nLevels] := by unfold unL; rw [if_neg (by decide)]; rw [if_pos rfl]
theorem unL_4 : unL 4 = [nN, nAllow] := by unfold unL; rw [if_neg (by decide)]; rw [if_neg (by decide)]; rw [if_pos rfl]
theorem unL_5 : unL 5 = [nN] := by unfold unL; rw [if_neg (by decide)]; rw [if_neg (by decide)]; rw [if_neg (by decide)]; rw [if_pos rfl]
theorem unL_8 : unL 8 = [nN] := by unfold unL; rw [if_neg (by decide)]; rw [if_neg (by decide)]; rw [if_neg (by decide)]; rw [if_neg (by decide)]; rw [if_pos rfl]
theorem unL_10 : unL 10 = [nN] := by unfold unL; rw [if_neg (by decide)]; rw [if_neg (by decide)]; rw [if_neg (by decide)]; rw [if_neg (by decide)]; rw [if_neg (by decide)]; rw [if_pos rfl]
theorem unL_6 : unL 6 = [nAllow, nDeny] := by unfold unL; rw [if_neg (by decide)]; rw [if_neg (by decide)]; rw [if_neg (by decide)]; rw [if_neg (by decide)]; rw [if_neg (by decide)]; rw [if_neg (by decide)]; rw [if_pos rfl]
theorem unL_7 : unL 7 = [nText] := by unfold unL; rw [if_neg (by decide)]; rw [if_neg (by decide)]; rw [if_neg (by decide)]; rw [if_neg (by decide)]; rw [if_neg (by decide)]; rw [if_neg (by decide)]; rw [if_neg (by decide)]; rw [if_pos rfl]
theorem unL_9 : unL 9 = [nText, nN] := by unfold unL; rw [if_neg (by decide)]; rw [if_neg (by decide)]; rw [if_neg (by decide)]; rw [if_neg (by decide)]; rw [if_neg (by decide)]; rw [if_neg (by decide)]; rw [if_neg (by decide)]; rw [if_neg (by decide)]; rw [if_pos rfl]
theorem unL_11 : unL 11 = [nText, nTarget, nThread] := by unfold unL; rw [if_neg (by decide)]; rw [if_neg (by decide)]; rw [if_neg (by decide)]; rw [if_neg (by decide)]; rw [if_neg (by decide)]; rw [if_neg (by decide)]; rw [if_neg (by decide)]; rw [if_neg (by decide)]; rw [if_neg (by decide)]; rw [if_pos rfl]
theorem unL_12 : unL 12 = [nText, nTarget] := by unfold unL; rw [if_neg (by decide)]; rw [if_neg (by decide)]; rw [if_neg (by decide)]; rw [if_neg (by decide)]; rw [if_neg (by decide)]; rw [if_neg (by decide)]; rw [if_neg (by decide)]; rw [if_neg (by decide)]; rw [if_neg (by decide)]; rw [if_neg (by decide)]; rw [if_pos rfl]
theorem unL_13 : unL 13 = [nText, nTarget] := by unfold unL; rw [if_neg (by decide)]; rw [if_neg (by decide)]; rw [if_neg (by decide)]; rw [if_neg (by decide)]; rw [if_neg (by decide)]; rw [if_neg (by decide)]; rw [if_neg (by decide)]; rw [if_neg (by decide)]; rw [if_neg (by decide)]; rw [if_neg (by decide)]; rw [if_neg (by decide)]; rw [if_pos rfl]
theorem unL_14 : unL 14 = [nText, nTarget] := by unfold unL; rw [if_neg (by decide)]; rw [if_neg (by decide)]; rw [if_neg (by decide)]; rw [if_neg (by decide)]; rw [if_neg (by decide)]; rw [if_neg (by decide)]; rw [if_neg (by decide)]; rw [if_neg (by decide)]; rw [if_neg (by decide)]; rw [if_neg (by decide)]; rw [if_neg (by decide)]; rw [if_neg (by decide)]; rw [if_pos rfl]
theorem unL_1 : unL 1 = [] := by unfold unL; rw [if_neg (by decide)]; rw [if_neg (by decide)]; rw [if_neg (by decide)]; rw [if_neg (by decide)]; rw [if_neg (by decide)]; rw [if_neg (by decide)]; rw [if_neg (by decide)]; rw [if_neg (by decide)]; rw [if_neg (by decide)]; rw [if_neg (by decide)]; rw [if_neg (by decide)]; rw [if_neg (by decide)]; rw [if_neg (by decide)]

def UsP (w : World) (l : List ByteArray) (e : Ending) (w' : World) : Prop := ∃ A c, e = .returned (.slice A l.length c) ∧ Txs w' A l.length c l ∧ Below w.heap.size w w'
def hasF (l : List ByteArray) (f : ByteArray) : Bool := l.any fun s => decide (s = f)
theorem eq_of_toList {s t : ByteArray} (h : s.toList = t.toList) : s = t := by
 rw [Lib.toList_data, Lib.toList_data] at h
 cases s; cases t
 congr 1
 exact Array.ext' h
def inE (l : List ByteArray) (f : ByteArray) (F : Nat) (w : World) : Prop := True
def hasB (s i : Int) : Bool := bits BinOp.and IntKind.i64 s (wrap64 (2 ^ i.toNat)) != 0
theorem has37 (s i : Int) (hi : 0 ≤ i) (hi2 : i < 8) (q : Bool) (hq : hasB s i = q) (w : World) : Calls Tryz.prog 96 #[.int .i64 s, .int .i64 i] w fun e w' => e = .returned (.bool q) ∧ w = w' := by
 have HQ := hid hq
 clear hq
 go_enter Tryz.func96, Tryz.ntmps96
 go_wp2
 go_ret
 rw [← HQ.out]
 exact ⟨rfl, rfl⟩
def baB (k : Int) : Bool := decide (7 ≤ k ∧ k ≤ 13)
def nmR (k n : Int) : Int := if k = 2 then wiE n 0 4 else if k = 4 ∨ k = 5 then wiE n 0 3 else if k = 8 then wiE n 0 1000000000 else if k = 10 then wiE n 1 10000 else if k = 9 then (if n = 1 ∨ n = 2 ∨ n = 6 then 0 else 2) else 0
end Go.Proofs.YtablocpcgknmaaaGreatDoor
