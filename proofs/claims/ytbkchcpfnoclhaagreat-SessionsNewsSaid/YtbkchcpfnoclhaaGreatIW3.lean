/- The walks of strings.Cut at a colon, for every text. -/
import Derived.Test.YtbkchcpfnoclhaaGreatIW2
import Derived.Lib.Bytealg
import Derived.Lib.Strings
import Derived.BigGuard
import Derived.RegionTactic
import Derived.BigRegion
import Derived.Below
namespace Go.Proofs.YtbkchcpfnoclhaaGreat
open Go.RowKit
set_option linter.unusedVariables false
set_option maxRecDepth 100000

theorem indexByte_col (l : List UInt8) : Lib.indexByte l 58 = if I.col (l.map fun c => (c.toNat : Int)) < l.length then (I.col (l.map fun c => (c.toNat : Int)) : Int) else -1 := by
  induction l with
  | nil => rfl
  | cons b l ih =>
    rw [List.map_cons, Lib.indexByte]
    by_cases hb : b = 58
    · subst hb
      rw [if_pos (by rfl), I.col, List.findIdx_cons]
      rfl
    · have hb' : (b == 58) = false := by simpa using hb
      have hc : (b.toNat : Int) ≠ 58 := by
        intro h
        apply hb
        apply UInt8.toNat_inj.1
        have : b.toNat = 58 := by omega
        rw [this]; rfl
      rw [hb', if_neg (by simp), I.col_cons _ hc, ih, List.length_cons]
      by_cases hl : I.col (l.map fun c => (c.toNat : Int)) < l.length
      · have e : ((I.col (l.map fun c => (c.toNat : Int)) : Int) == -1) = false := beq_eq_false_iff_ne.2 (by omega)
        rw [if_pos hl, e, if_neg (by decide : ¬ (false = true)), if_pos (by omega)]
        omega
      · rw [if_neg hl, show ((-1 : Int) == -1) = true from rfl, if_pos rfl, if_neg (by omega)]
theorem len_data (s : ByteArray) : s.data.toList.length = s.size := by rw [Array.length_toList]; rfl
theorem indexByte_bys (s : ByteArray) : Lib.indexByte s.data.toList 58 = if I.col (bys s) < s.size then (I.col (bys s) : Int) else -1 := by
  rw [indexByte_col, len_data]; rfl

theorem indexByte_any (s : ByteArray) (c : Int) (hc : c = 58) (w : World) : Calls Tryz.prog 81 #[.string s, .int .u8 c] w fun e w' => e = .returned (.int .i64 (Lib.indexByte s.data.toList 58)) ∧ w = w' := by
  subst hc
  go_enter Tryz.func81, Tryz.ntmps81
  go_wp2
  rw [run_callFunc_extern Tryz.func99 (by kernel_rfl) (by kernel_rfl) (by kernel_rfl) (e := Extern.BytealgIndexByte.indexByte) (by kernel_rfl), Lib.run_indexByteString]
  simp only [Result.andThen]
  rw [Oper.upon_value]
  go_wp2
  go_ret
  exact ⟨rfl, rfl⟩
theorem sindex_any (s : ByteArray) (w : World) : Calls Tryz.prog 65 #[.string s, .string ⟨#[58]⟩] w fun e w' => e = .returned (.int .i64 (Lib.indexByte s.data.toList 58)) ∧ w = w' := by
  cases he : ([58] : List UInt8) == s.toList
  · go_enter Tryz.func65, Tryz.ntmps65
    go_wp2_with (go_at_call 81; refine (indexByte_any _ _ rfl _).mono ?_; rintro e w' ⟨rfl, rfl⟩)
    go_ret
    exact ⟨rfl, rfl⟩
  · have HF := Lib.hid (show Lib.indexByte s.data.toList 58 = 0 by
      have := eq_of_beq he
      rw [Lib.toList_data] at this
      rw [← this]; rfl)
    go_enter Tryz.func65, Tryz.ntmps65
    go_wp2
    go_ret
    exact ⟨ret_i64 HF.out.symm, rfl⟩
theorem cut_hit (s : ByteArray) (w : World) (h : I.col (bys s) < s.size) (hs : s.size ≤ 9223372036854775807) :
    Calls Tryz.prog 52 #[.string s, .string ⟨#[58]⟩] w fun e w' => e = .returned (.tuple #[.string (s.extract 0 (I.col (bys s))), .string (s.extract (I.col (bys s) + 1) s.size), .bool true]) ∧ Below w.heap.size w w' := by
  have HF := Lib.hid (show Lib.indexByte s.data.toList 58 = (I.col (bys s) : Int) by
    rw [indexByte_bys, if_pos h])
  generalize I.col (bys s) = k at *
  have c1 : (0 : Int) ≤ ↑k := by omega
  have c2 : (↑k : Int) ≤ ↑s.size := by omega
  have c3 : (0 : Int) ≤ ↑k + 1 := by omega
  have c4 : (↑k + 1 : Int) ≤ ↑s.size := by omega
  go_enter Tryz.func52, Tryz.ntmps52
  go_wp2_with (go_at_call 65; refine (sindex_any _ _).mono ?_; rintro e w' ⟨rfl, rfl⟩; rw [HF.out])
  go_region
  go_wp2
  go_ret3
  exact ⟨rfl, (Below.refl _ _).drew⟩
theorem cut_miss (s : ByteArray) (w : World) (h : ¬ I.col (bys s) < s.size) :
    Calls Tryz.prog 52 #[.string s, .string ⟨#[58]⟩] w fun e w' => e = .returned (.tuple #[.string s, .string ⟨#[]⟩, .bool false]) ∧ Below w.heap.size w w' := by
  have HF := Lib.hid (show Lib.indexByte s.data.toList 58 = -1 by
    rw [indexByte_bys, if_neg h])
  clear h
  go_enter Tryz.func52, Tryz.ntmps52
  go_wp2_with (go_at_call 65; refine (sindex_any _ _).mono ?_; rintro e w' ⟨rfl, rfl⟩; rw [HF.out])
  go_ret3
  exact ⟨rfl, Below.refl _ _⟩
theorem scut_hit (s : ByteArray) (w : World) (h : I.col (bys s) < s.size) (hs : s.size ≤ 9223372036854775807) :
    Calls Tryz.prog 39 #[.string s, .string ⟨#[58]⟩] w fun e w' => e = .returned (.tuple #[.string (s.extract 0 (I.col (bys s))), .string (s.extract (I.col (bys s) + 1) s.size), .bool true]) ∧ Below w.heap.size w w' := by
  have C := Lib.hid (cut_hit s w h hs)
  clear h
  generalize s.extract 0 (I.col (bys s)) = x at *
  generalize s.extract (I.col (bys s) + 1) s.size = y at *
  go_enter Tryz.func39, Tryz.ntmps39
  go_wp2_with (go_at_call 52; refine C.out.mono ?_; rintro e w1 ⟨rfl, hb1⟩)
  go_ret3
  exact ⟨rfl, hb1⟩
theorem scut_miss (s : ByteArray) (w : World) (h : ¬ I.col (bys s) < s.size) :
    Calls Tryz.prog 39 #[.string s, .string ⟨#[58]⟩] w fun e w' => e = .returned (.tuple #[.string s, .string ⟨#[]⟩, .bool false]) ∧ Below w.heap.size w w' := by
  have C := Lib.hid (cut_miss s w h)
  clear h
  go_enter Tryz.func39, Tryz.ntmps39
  go_wp2_with (go_at_call 52; refine C.out.mono ?_; rintro e w1 ⟨rfl, hb1⟩)
  go_ret3
  exact ⟨rfl, hb1⟩
end Go.Proofs.YtbkchcpfnoclhaaGreat
