/- The walks of the patterns' small functions: Check, Plain and Least of the program and of the reference, for every text. -/
import Derived.Test.YtablocpcgknmaaaGreatDoorRTg
import Derived.Test.YtablocpcgknmaaaGreatDoorRows
import Derived.WalkKit
import Derived.WalkSpells
import Derived.WalkLawsBesides
import Derived.Lib.Hide
namespace Go.Proofs.YtablocpcgknmaaaGreatDoor.Gl
open Go.Lib (hid)
open Go.RowKit
set_option linter.unusedVariables false

theorem ret_i64 {a b : Int} (h : a = b) : Ending.returned (.int .i64 a) = .returned (.int .i64 b) := by rw [h]
theorem ret_bool {a b : Bool} (h : a = b) : Ending.returned (.bool a) = .returned (.bool b) := by rw [h]
/-- The bytes of a text, as numbers. -/
def bys (s : ByteArray) : List Int := s.data.toList.map fun c => (c.toNat : Int)
theorem bys_len (s : ByteArray) : (bys s).length = s.size := by unfold bys; rw [List.length_map, Array.length_toList]; rfl
theorem bys_getE (s : ByteArray) (k : Nat) (h : k < s.size) : (bys s)[k]'(by rw [bys_len]; exact h) = (s[k].toNat : Int) := by
 unfold bys
 rw [List.getElem_map]
 rfl
theorem bys_snoc (s : ByteArray) (k : Nat) (h : k < s.size) : (bys s).take (k + 1) = (bys s).take k ++ [(s[k].toNat : Int)] := by
 rw [List.take_succ_eq_append_getElem (by rw [bys_len]; exact h), bys_getE s k h]
theorem bys_all (s : ByteArray) : (bys s).take s.size = bys s := List.take_of_length_le (by rw [bys_len]; exact Nat.le_refl _)

/-- All bytes lie from 33 to 126. -/
def okb (p : List Int) : Bool := p.all fun c => decide (33 ≤ c ∧ c ≤ 126)
/-- What Check returns. -/
def chk (p : List Int) : Int := if p.length = 0 then 9 else if 64 < p.length then 7 else if okb p then 0 else 3
theorem okb_snoc (p : List Int) (c : Int) : okb (p ++ [c]) = (okb p && decide (33 ≤ c ∧ c ≤ 126)) := by simp [okb]
theorem okb_bad (s : ByteArray) (k : Nat) (h : k < s.size) (hc : ¬ (33 ≤ (s[k].toNat : Int) ∧ (s[k].toNat : Int) ≤ 126)) : okb (bys s) = false := by
 have hm : (s[k].toNat : Int) ∈ bys s := by rw [← bys_getE s k h]; exact List.getElem_mem _
 unfold okb
 rw [List.all_eq_false]
 exact ⟨_, hm, by simpa using hc⟩
set_option maxHeartbeats 400000 in
theorem check_any (s : ByteArray) (hs : s.size ≤ 9223372036854775807) (w : World) :
  Calls Tryz.prog 197 #[.string s] w fun e w' => e = .returned (.int .i64 (chk (bys s))) ∧ w = w' := by
 by_cases h0 : s.size = 0
 ·have e0 : ((s.size : Int) == 0) = true := beq_iff_eq.2 (by omega)
  have HF : Hid (chk (bys s) = 9) := hid (by unfold chk; rw [if_pos (by rw [bys_len]; exact h0)])
  clear h0
  go_enter Tryz.func197, Tryz.ntmps197
  go_wp2
  go_ret
  exact ⟨ret_i64 HF.out.symm, rfl⟩
 ·have e0 : ((s.size : Int) == 0) = false := beq_eq_false_iff_ne.2 (by omega)
  by_cases h1 : 64 < s.size
  ·have HF : Hid (chk (bys s) = 7) := hid (by unfold chk; rw [if_neg (by rw [bys_len]; exact h0), if_pos (by rw [bys_len]; exact h1)])
   clear h0
   go_enter Tryz.func197, Tryz.ntmps197
   go_wp2
   go_ret
   exact ⟨ret_i64 HF.out.symm, rfl⟩
  ·have HF : Hid (chk (bys s) = if okb (bys s) then 0 else 3) := hid (by unfold chk; rw [if_neg (by rw [bys_len]; exact h0), if_neg (by rw [bys_len]; exact h1)])
   have h1 : s.size ≤ 64 := by omega
   clear h0
   go_enter Tryz.func197, Tryz.ntmps197
   go_wp2
   go_loop [3, 12] (fun _ i => ∃ k : Nat, k ≤ s.size ∧ i = .int .i64 k ∧ Hid (okb ((bys s).take k) = true)) (fun _ i => s.size - (intOf i).toNat)
   case atStart => exact ⟨0, Nat.zero_le _, rfl, hid (by rw [List.take_zero]; rfl)⟩
   case round =>
    obtain ⟨k, hk, rfl, HO⟩ := hrel
    by_cases hlt : k < s.size
    ·have hsn := hid (bys_snoc s k hlt)
     have HB := hid (okb_bad s k hlt)
     by_cases hc : 33 ≤ (s[k].toNat : Int) ∧ (s[k].toNat : Int) ≤ 126
     ·obtain ⟨hc1, hc2⟩ := hc
      go_wp2
      go_round
      case rel => exact ⟨k + 1, by omega, by go_num, hid (by rw [hsn.out, okb_snoc, HO.out]; simp; omega)⟩
      case measure => simp [intOf]; omega
     ·have HC := hid hc
      rcases (show (s[k].toNat : Int) < 33 ∨ (33 ≤ (s[k].toNat : Int) ∧ 126 < (s[k].toNat : Int)) by omega) with hd | ⟨hd, hd2⟩
      all_goals
       clear hc
       go_wp2
       go_ret
       exact ⟨ret_i64 (by rw [HF.out, HB.out HC.out]; rfl), rfl⟩
    ·have HF2 := hid (show okb (bys s) = true by rw [← bys_all, ← HO.out]; congr 2; omega)
     go_wp2
     go_ret
     exact ⟨ret_i64 (by rw [HF.out, HF2.out]; rfl), rfl⟩
end Go.Proofs.YtablocpcgknmaaaGreatDoor.Gl

namespace Go.Proofs.YtablocpcgknmaaaGreatDoor.Gl
open Go.Lib (hid)
open Go.RowKit
set_option linter.unusedVariables false

end Go.Proofs.YtablocpcgknmaaaGreatDoor.Gl
