/- The law's awakening. No condition. -/
import Derived.Test.YtdacjnlfjaegiaaGreatDoorK33
namespace Go.Proofs.YtdacjnlfjaegiaaGreatDoor
open Go Go.RowKit
set_option linter.unusedVariables false
set_option linter.unusedSimpArgs false
set_option maxRecDepth 100000

/-- A content without lists. -/
def cnl (t : ByteArray) (n tg : Int) : Cn := ⟨t, n, tg, false, ⟨#[]⟩, [], [], [], [], 0, 0, 0, 0, 0, 0, 0⟩
theorem cnl_is (t : ByteArray) (n tg : Int) (ht : t.size ≤ 9223372036854775807) (hn : i64B n) (hg : i64B tg) (w : World) : IsC w (cnl t n tg) ad0 := ⟨Txs.nil w, Txs.nil w, zero_isL w, ht, sz0, hn, hg⟩
theorem cnl_sm (t : ByteArray) (n tg : Int) : SmC (cnl t n tg) := ⟨Nat.zero_le _, Nat.zero_le _, Nat.zero_le _, Nat.zero_le _⟩
theorem c0_sm : SmE c0 := ⟨by decide, by decide, by decide, by simp [c0], by decide, by simp [c0], ⟨by decide, by decide, by simp [c0]⟩⟩
theorem txs_zero {w : World} {A : Option Addr} {c : Nat} (h : A = none → c = 0) : Txs w A 0 c [] := ⟨Rws.zero _ _ _ _ _ h, rfl, Nat.zero_le _, by simp⟩
theorem check_at (k : Int) (t : ByteArray) (n tg : Int) (ht : t.size ≤ 9223372036854775807) (hn : i64B n) (hg : i64B tg) (r : Int) (hr : pchk k (cnl t n tg) = r) (w : World) (hl : Lt w) : Calls Tryz.prog 14 #[.int .i64 k, .agg #[.string t, .int .i64 n, .int .i64 tg, .bool false, .string ⟨#[]⟩, .slice none 0 0, .slice none 0 0, .slice none 0 0, .slice none 0 0, .int .i64 0, .int .i64 0, .int .i64 0, .int .i64 0, .int .i64 0, .int .i64 0, .int .i64 0]] w fun e w' => e = .returned (.int .i64 r) ∧ Below w.heap.size w w' := by
  have := check14 k (cnl t n tg) ad0 w (cnl_is t n tg ht hn hg w) hl
  rw [hr] at this
  exact this
theorem pc1 : pchk 2 (cnl ⟨#[]⟩ 3 0) = 0 := by kernel_rfl
theorem pc2 : pchk 2 (cnl ⟨#[]⟩ 5 0) = 2 := by kernel_rfl
theorem pc3 : pchk 12 (cnl ⟨#[]⟩ 0 1) = 9 := by kernel_rfl
theorem st1 : strip 2 (cnl ⟨#[115, 112, 97, 109]⟩ 4 0) = cnl ⟨#[]⟩ 4 0 := by kernel_rfl
theorem sm1 : sameC (cnl ⟨#[]⟩ 4 0) (cnl ⟨#[]⟩ 4 0) = true := by decide
theorem sm2 : sameC (cnl ⟨#[115, 112, 97, 109]⟩ 4 0) (cnl ⟨#[]⟩ 3 0) = false := by decide
theorem sm3 : sameC c0 c0 = true := by decide
theorem lvl1 : chkL [] [] (nmL 0 0 0 0 1001 0 0) = 2 := by kernel_rfl
theorem enc0 (w : World) : Calls Tryz.prog 29 #[.agg #[.string ⟨#[]⟩, .int .i64 0, .int .i64 0, .bool false, .string ⟨#[]⟩, .slice none 0 0, .slice none 0 0, .slice none 0 0, .slice none 0 0, .int .i64 0, .int .i64 0, .int .i64 0, .int .i64 0, .int .i64 0, .int .i64 0, .int .i64 0]] w fun e w' => ∃ A c, e = .returned (.slice A 16 c) ∧ Cd.Sl w' A 16 c [0, 0, 0, 0, 0, 0, 0, 0, 0, 0, 0, 0, 0, 0, 0, 0] ∧ Below w.heap.size w w' := by
  have := encode29 c0 ad0 w (c0_is w) c0_sm
  rw [enc_zero] at this
  refine this.mono ?_
  rintro e w' ⟨A, c, rfl, hs, _, hb⟩
  exact ⟨A, c, rfl, hs, hb⟩
theorem dec0 (A : Option Addr) (c : Nat) (w : World) (h : Cd.Sl w A 16 c [0, 0, 0, 0, 0, 0, 0, 0, 0, 0, 0, 0, 0, 0, 0, 0]) : Calls Tryz.prog 30 #[.slice A 16 c] w fun e w' => ∃ pA pC pD pE, e = .returned (.tuple #[.agg #[.string ⟨#[]⟩, .int .i64 0, .int .i64 0, .bool false, .string ⟨#[]⟩, .slice pA 0 pC, .slice pD 0 pE, .slice none 0 0, .slice none 0 0, .int .i64 0, .int .i64 0, .int .i64 0, .int .i64 0, .int .i64 0, .int .i64 0, .int .i64 0], .bool true]) ∧ (pA = none → pC = 0) ∧ (pD = none → pE = 0) ∧ Below w.heap.size w w' := by
  refine (decode_zero A c w h).mono ?_
  rintro e w' ⟨⟨aA, aC, dA, dC, uA, uC, kA, kC⟩, rfl, h1, h2, ⟨h3, h4, h5, h6⟩, hb⟩
  dsimp only at h1 h2 h3 h4 h5 h6
  subst h3 h4 h5 h6
  exact ⟨aA, aC, dA, dC, rfl, h1, h2, hb⟩
theorem decn (w : World) : Calls Tryz.prog 30 #[.slice none 0 0] w fun e w' => ∃ qA qC qD qE, e = .returned (.tuple #[.agg #[.string ⟨#[]⟩, .int .i64 0, .int .i64 0, .bool false, .string ⟨#[]⟩, .slice qA 0 qC, .slice qD 0 qE, .slice none 0 0, .slice none 0 0, .int .i64 0, .int .i64 0, .int .i64 0, .int .i64 0, .int .i64 0, .int .i64 0, .int .i64 0], .bool false]) ∧ Below w.heap.size w w' := by
  refine (decode_nil w).mono ?_
  rintro e w' ⟨⟨aA, aC, dA, dC, uA, uC, kA, kC⟩, rfl, h1, h2, ⟨h3, h4, h5, h6⟩, hb⟩
  dsimp only at h1 h2 h3 h4 h5 h6
  subst h3 h4 h5 h6
  exact ⟨aA, aC, dA, dC, rfl, hb⟩
end Go.Proofs.YtdacjnlfjaegiaaGreatDoor
