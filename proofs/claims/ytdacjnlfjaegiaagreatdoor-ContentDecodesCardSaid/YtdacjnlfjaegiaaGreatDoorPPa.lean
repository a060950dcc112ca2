/- Decoding of no bytes and of the bytes of nothing. No condition. -/
import Derived.Test.YtdacjnlfjaegiaaGreatDoorPK32
namespace Go.Proofs.YtdacjnlfjaegiaaGreatDoor
open Go Go.RowKit
set_option linter.unusedVariables false
set_option linter.unusedSimpArgs false
set_option maxRecDepth 100000

theorem enc_zero : encC c0 = [0, 0, 0, 0, 0, 0, 0, 0, 0, 0, 0, 0, 0, 0, 0, 0] := by kernel_rfl
theorem dn_e0 : gtk Cd.gt (.string ⟨#[]⟩)  ([] : List Int) false = (.string ⟨#[]⟩, ([] : List Int), true) := by kernel_rfl
theorem dn_e1 : gtkI ([] : List Int) true = (0, ([] : List Int), true) := by kernel_rfl
theorem dn_e2 : gtkI ([] : List Int) true = (0, ([] : List Int), true) := by kernel_rfl
theorem dn_e3 : gtk Cd.gb (.bool false) ([] : List Int) true = (.bool false, ([] : List Int), true) := by kernel_rfl
theorem dn_e4 : gtk Cd.gt (.string ⟨#[]⟩) ([] : List Int) true = (.string ⟨#[]⟩, ([] : List Int), true) := by kernel_rfl
theorem dn_e5 : gtkL ([] : List Int) true = ([], ([] : List Int), true) := by kernel_rfl
theorem dn_e6 : gtkL ([] : List Int) true = ([], ([] : List Int), true) := by kernel_rfl
theorem dn_k1 : (cntk ([] : List Int) true).1 = 0 := by kernel_rfl
theorem dn_k2 : (cntk (cntk ([] : List Int) true).2.1 (cntk ([] : List Int) true).2.2).1 = 0 := by kernel_rfl
theorem dn_e8 : takes (cntk (cntk ([] : List Int) true).2.1 (cntk ([] : List Int) true).2.2).2.1 (cntk (cntk ([] : List Int) true).2.1 (cntk ([] : List Int) true).2.2).2.2 7 = ([0, 0, 0, 0, 0, 0, 0], ([] : List Int), true) := by kernel_rfl
theorem dz_e0 : gtk Cd.gt (.string ⟨#[]⟩) [0, 0, 0, 0, 0, 0, 0, 0, 0, 0, 0, 0, 0, 0, 0, 0] false = (.string ⟨#[]⟩, [0, 0, 0, 0, 0, 0, 0, 0, 0, 0, 0, 0, 0, 0, 0], false) := by kernel_rfl
theorem dz_e1 : gtkI [0, 0, 0, 0, 0, 0, 0, 0, 0, 0, 0, 0, 0, 0, 0] false = (0, [0, 0, 0, 0, 0, 0, 0, 0, 0, 0, 0, 0, 0, 0], false) := by kernel_rfl
theorem dz_e2 : gtkI [0, 0, 0, 0, 0, 0, 0, 0, 0, 0, 0, 0, 0, 0] false = (0, [0, 0, 0, 0, 0, 0, 0, 0, 0, 0, 0, 0, 0], false) := by kernel_rfl
theorem dz_e3 : gtk Cd.gb (.bool false) [0, 0, 0, 0, 0, 0, 0, 0, 0, 0, 0, 0, 0] false = (.bool false, [0, 0, 0, 0, 0, 0, 0, 0, 0, 0, 0, 0], false) := by kernel_rfl
theorem dz_e4 : gtk Cd.gt (.string ⟨#[]⟩) [0, 0, 0, 0, 0, 0, 0, 0, 0, 0, 0, 0] false = (.string ⟨#[]⟩, [0, 0, 0, 0, 0, 0, 0, 0, 0, 0, 0], false) := by kernel_rfl
theorem dz_e5 : gtkL [0, 0, 0, 0, 0, 0, 0, 0, 0, 0, 0] false = ([], [0, 0, 0, 0, 0, 0, 0, 0, 0, 0], false) := by kernel_rfl
theorem dz_e6 : gtkL [0, 0, 0, 0, 0, 0, 0, 0, 0, 0] false = ([], [0, 0, 0, 0, 0, 0, 0, 0, 0], false) := by kernel_rfl
theorem dz_k1 : (cntk [0, 0, 0, 0, 0, 0, 0, 0, 0] false).1 = 0 := by kernel_rfl
theorem dz_k2 : (cntk (cntk [0, 0, 0, 0, 0, 0, 0, 0, 0] false).2.1 (cntk [0, 0, 0, 0, 0, 0, 0, 0, 0] false).2.2).1 = 0 := by kernel_rfl
theorem dz_e8 : takes (cntk (cntk [0, 0, 0, 0, 0, 0, 0, 0, 0] false).2.1 (cntk [0, 0, 0, 0, 0, 0, 0, 0, 0] false).2.2).2.1 (cntk (cntk [0, 0, 0, 0, 0, 0, 0, 0, 0] false).2.1 (cntk [0, 0, 0, 0, 0, 0, 0, 0, 0] false).2.2).2.2 7 = ([0, 0, 0, 0, 0, 0, 0], ([] : List Int), false) := by kernel_rfl
theorem decode_nil (w : World) : Calls Tryz.prog 30 #[.slice none 0 0] w (DcP false c0 w) :=
  decode30z ([]) ([]) ([]) ([]) ([]) ([]) ([]) ([]) ([]) true true true true true true true true ⟨#[]⟩ ⟨#[]⟩ 0 0 0 0 0 0 0 0 0 false dn_e0 dn_e1 dn_e2 dn_e3 dn_e4 dn_e5 dn_e6 dn_k1 dn_k2 dn_e8 (by decide) (by decide) (by decide) (by decide) (by decide) (by decide) (by decide) (by decide) false rfl none 0 w (Cd.Sl.empty w none 0 (fun _ => rfl))
theorem decode_zero (A : Option Addr) (c : Nat) (w : World) (h : Cd.Sl w A 16 c [0, 0, 0, 0, 0, 0, 0, 0, 0, 0, 0, 0, 0, 0, 0, 0]) : Calls Tryz.prog 30 #[.slice A 16 c] w (DcP true c0 w) :=
  decode30z ([0, 0, 0, 0, 0, 0, 0, 0, 0, 0, 0, 0, 0, 0, 0, 0]) ([0, 0, 0, 0, 0, 0, 0, 0, 0, 0, 0, 0, 0, 0, 0]) ([0, 0, 0, 0, 0, 0, 0, 0, 0, 0, 0, 0, 0, 0]) ([0, 0, 0, 0, 0, 0, 0, 0, 0, 0, 0, 0, 0]) ([0, 0, 0, 0, 0, 0, 0, 0, 0, 0, 0, 0]) ([0, 0, 0, 0, 0, 0, 0, 0, 0, 0, 0]) ([0, 0, 0, 0, 0, 0, 0, 0, 0, 0]) ([0, 0, 0, 0, 0, 0, 0, 0, 0]) ([]) false false false false false false false false ⟨#[]⟩ ⟨#[]⟩ 0 0 0 0 0 0 0 0 0 false dz_e0 dz_e1 dz_e2 dz_e3 dz_e4 dz_e5 dz_e6 dz_k1 dz_k2 dz_e8 (by decide) (by decide) (by decide) (by decide) (by decide) (by decide) (by decide) (by decide) true rfl A c w h
end Go.Proofs.YtdacjnlfjaegiaaGreatDoor
namespace Go.Proofs.YtdacjnlfjaegiaaGreatDoor
open Go Go.RowKit
set_option linter.unusedVariables false
set_option linter.unusedSimpArgs false
set_option maxRecDepth 100000

/-- A content without lists. -/
def cnl (t : ByteArray) (n tg : Int) : Cn := ⟨t, n, tg, false, ⟨#[]⟩, [], [], [], [], 0, 0, 0, 0, 0, 0, 0⟩
theorem cnl_is (t : ByteArray) (n tg : Int) (ht : t.size ≤ 9223372036854775807) (hn : i64B n) (hg : i64B tg) (w : World) : IsC w (cnl t n tg) ad0 := ⟨Txs.nil w, Txs.nil w, zero_isL w, ht, sz0, hn, hg⟩
theorem cnl_sm (t : ByteArray) (n tg : Int) : SmC (cnl t n tg) := ⟨Nat.zero_le _, Nat.zero_le _, Nat.zero_le _, Nat.zero_le _⟩
theorem c0_sm : SmE c0 := ⟨by decide, by decide, by decide, by simp [c0], by decide, by simp [c0], ⟨by decide, by decide, by simp [c0]⟩⟩
theorem txs_zero {w : World} {A : Option Addr} {c : Nat} (h : A = none → c = 0) : Txs w A 0 c [] := ⟨Rws.zero _ _ _ _ _ h, rfl, Nat.zero_le _, by simp⟩
theorem check_at (k : Int) (t : ByteArray) (n tg : Int) (ht : t.size ≤ 9223372036854775807) (hn : i64B n) (hg : i64B tg) (r : Int) (hr : pchk k (cnl t n tg) = r) (w : World) (hl : Lt w) : Calls Tryz.prog 14 #[.int .i64 k, .agg #[.string t, .int .i64 n, .int .i64 tg, .bool false, .string ⟨#[]⟩, .slice none 0 0, .slice none 0 0, .slice none 0 0, .slice none 0 0, .int .i64 0, .int .i64 0, .int .i64 0, .int .i64 0, .int .i64 0, .int .i64 0, .int .i64 0]] w fun e w' => e = .returned (.int .i64 r) ∧ Below w.heap.size w w' := by
  have := check14 k (cnl t n tg) ad0 w (cnl_is t n tg ht hn hg w) hl
  rw [hr] at this
  exact this
theorem pc1 : pchk 2 (cnl ⟨#[]⟩ 3 0) = 0 := by kernel_rfl
theorem pc2 : pchk 2 (cnl ⟨#[]⟩ 5 0) = 2 := by kernel_rfl
theorem pc3 : pchk 12 (cnl ⟨#[]⟩ 0 1) = 9 := by kernel_rfl
theorem st1 : strip 2 (cnl ⟨#[115, 112, 97, 109]⟩ 4 0) = cnl ⟨#[]⟩ 4 0 := by kernel_rfl
theorem sm1 : sameC (cnl ⟨#[]⟩ 4 0) (cnl ⟨#[]⟩ 4 0) = true := by decide
theorem sm2 : sameC (cnl ⟨#[115, 112, 97, 109]⟩ 4 0) (cnl ⟨#[]⟩ 3 0) = false := by decide
theorem sm3 : sameC c0 c0 = true := by decide
theorem lvl1 : chkL [] [] (nmL 0 0 0 0 1001 0 0) = 2 := by kernel_rfl
theorem enc0 (w : World) : Calls Tryz.prog 29 #[.agg #[.string ⟨#[]⟩, .int .i64 0, .int .i64 0, .bool false, .string ⟨#[]⟩, .slice none 0 0, .slice none 0 0, .slice none 0 0, .slice none 0 0, .int .i64 0, .int .i64 0, .int .i64 0, .int .i64 0, .int .i64 0, .int .i64 0, .int .i64 0]] w fun e w' => ∃ A c, e = .returned (.slice A 16 c) ∧ Cd.Sl w' A 16 c [0, 0, 0, 0, 0, 0, 0, 0, 0, 0, 0, 0, 0, 0, 0, 0] ∧ Below w.heap.size w w' := by
  have := encode29 c0 ad0 w (c0_is w) c0_sm
  rw [enc_zero] at this
  refine this.mono ?_
  rintro e w' ⟨A, c, rfl, hs, _, hb⟩
  exact ⟨A, c, rfl, hs, hb⟩
theorem dec0 (A : Option Addr) (c : Nat) (w : World) (h : Cd.Sl w A 16 c [0, 0, 0, 0, 0, 0, 0, 0, 0, 0, 0, 0, 0, 0, 0, 0]) : Calls Tryz.prog 30 #[.slice A 16 c] w fun e w' => ∃ pA pC pD pE, e = .returned (.tuple #[.agg #[.string ⟨#[]⟩, .int .i64 0, .int .i64 0, .bool false, .string ⟨#[]⟩, .slice pA 0 pC, .slice pD 0 pE, .slice none 0 0, .slice none 0 0, .int .i64 0, .int .i64 0, .int .i64 0, .int .i64 0, .int .i64 0, .int .i64 0, .int .i64 0], .bool true]) ∧ (pA = none → pC = 0) ∧ (pD = none → pE = 0) ∧ Below w.heap.size w w' := by
  refine (decode_zero A c w h).mono ?_
  rintro e w' ⟨⟨aA, aC, dA, dC, uA, uC, kA, kC⟩, rfl, h1, h2, ⟨h3, h4, h5, h6⟩, hb⟩
  dsimp only at h1 h2 h3 h4 h5 h6
  subst h3 h4 h5 h6
  exact ⟨aA, aC, dA, dC, rfl, h1, h2, hb⟩
theorem decn (w : World) : Calls Tryz.prog 30 #[.slice none 0 0] w fun e w' => ∃ qA qC qD qE, e = .returned (.tuple #[.agg #[.string ⟨#[]⟩, .int .i64 0, .int .i64 0, .bool false, .string ⟨#[]⟩, .slice qA 0 qC, .slice qD 0 qE, .slice none 0 0, .slice none 0 0, .int .i64 0, .int .i64 0, .int .i64 0, .int .i64 0, .int .i64 0, .int .i64 0, .int .i64 0], .bool false]) ∧ Below w.heap.size w w' := by
  refine (decode_nil w).mono ?_
  rintro e w' ⟨⟨aA, aC, dA, dC, uA, uC, kA, kC⟩, rfl, h1, h2, ⟨h3, h4, h5, h6⟩, hb⟩
  dsimp only at h1 h2 h3 h4 h5 h6
  subst h3 h4 h5 h6
  exact ⟨aA, aC, dA, dC, rfl, hb⟩
end Go.Proofs.YtdacjnlfjaegiaaGreatDoor
namespace Go.Proofs.YtdacjnlfjaegiaaGreatDoor
open Go Go.RowKit
set_option linter.unusedVariables false
set_option linter.unusedSimpArgs false
set_option maxRecDepth 100000

theorem txs3 {w : World} {b off c : Nat} {s0 s1 s2 : ByteArray} (h : Txs w (some ⟨b, off, none⟩) 3 c [s0, s1, s2]) : w.cell? ⟨b, off, none⟩ = some (.string s0) ∧ w.cell? ⟨b, off + 1, none⟩ = some (.string s1) ∧ w.cell? ⟨b, off + 2, none⟩ = some (.string s2) := by
  rcases h.rws.at_ with h1 | ⟨b', off', e, _, hc⟩
  · cases h1
  · simp only [Option.some.injEq, Addr.mk.injEq, and_true] at e
    obtain ⟨rfl, rfl⟩ := e
    exact ⟨hc 0 (by decide) 0 _ rfl, hc 1 (by decide) 0 _ rfl, hc 2 (by decide) 0 _ rfl⟩
theorem strip_at (w : World) (hl : Lt w) : Calls Tryz.prog 21 #[.int .i64 2, .agg #[.string ⟨#[115, 112, 97, 109]⟩, .int .i64 4, .int .i64 0, .bool false, .string ⟨#[]⟩, .slice none 0 0, .slice none 0 0, .slice none 0 0, .slice none 0 0, .int .i64 0, .int .i64 0, .int .i64 0, .int .i64 0, .int .i64 0, .int .i64 0, .int .i64 0]] w fun e w' => ∃ aL, e = .returned (.agg (ccs (cnl ⟨#[]⟩ 4 0) aL).toArray) ∧ IsC w' (cnl ⟨#[]⟩ 4 0) aL ∧ Below w.heap.size w w' := by
  have := strip21 2 (cnl ⟨#[115, 112, 97, 109]⟩ 4 0) ad0 w (cnl_is _ 4 0 (by decide) (by unfold i64B; decide) in0 w) (cnl_sm _ 4 0) hl
  rw [st1] at this
  exact this
theorem same_a (aL : Ads) (w : World) (h : IsC w (cnl ⟨#[]⟩ 4 0) aL) : Calls Tryz.prog 20 #[.agg (ccs (cnl ⟨#[]⟩ 4 0) aL).toArray, .agg #[.string ⟨#[]⟩, .int .i64 4, .int .i64 0, .bool false, .string ⟨#[]⟩, .slice none 0 0, .slice none 0 0, .slice none 0 0, .slice none 0 0, .int .i64 0, .int .i64 0, .int .i64 0, .int .i64 0, .int .i64 0, .int .i64 0, .int .i64 0]] w fun e w' => e = .returned (.bool true) ∧ Below w.heap.size w w' := by
  have := same20 _ (cnl ⟨#[]⟩ 4 0) aL ad0 w h (cnl_is _ 4 0 sz0 (by unfold i64B; decide) in0 w)
  rw [sm1] at this
  exact this
theorem same_b (w : World) : Calls Tryz.prog 20 #[.agg #[.string ⟨#[115, 112, 97, 109]⟩, .int .i64 4, .int .i64 0, .bool false, .string ⟨#[]⟩, .slice none 0 0, .slice none 0 0, .slice none 0 0, .slice none 0 0, .int .i64 0, .int .i64 0, .int .i64 0, .int .i64 0, .int .i64 0, .int .i64 0, .int .i64 0], .agg #[.string ⟨#[]⟩, .int .i64 3, .int .i64 0, .bool false, .string ⟨#[]⟩, .slice none 0 0, .slice none 0 0, .slice none 0 0, .slice none 0 0, .int .i64 0, .int .i64 0, .int .i64 0, .int .i64 0, .int .i64 0, .int .i64 0, .int .i64 0]] w fun e w' => e = .returned (.bool false) ∧ Below w.heap.size w w' := by
  have := same20 (cnl ⟨#[115, 112, 97, 109]⟩ 4 0) (cnl ⟨#[]⟩ 3 0) ad0 ad0 w (cnl_is _ 4 0 (by decide) (by unfold i64B; decide) in0 w) (cnl_is _ 3 0 sz0 (by unfold i64B; decide) in0 w)
  rw [sm2] at this
  exact this
theorem same_c (pA : Option Addr) (pC : Nat) (pD : Option Addr) (pE : Nat) (h1 : pA = none → pC = 0) (h2 : pD = none → pE = 0) (w : World) : Calls Tryz.prog 20 #[.agg #[.string ⟨#[]⟩, .int .i64 0, .int .i64 0, .bool false, .string ⟨#[]⟩, .slice pA 0 pC, .slice pD 0 pE, .slice none 0 0, .slice none 0 0, .int .i64 0, .int .i64 0, .int .i64 0, .int .i64 0, .int .i64 0, .int .i64 0, .int .i64 0], .agg #[.string ⟨#[]⟩, .int .i64 0, .int .i64 0, .bool false, .string ⟨#[]⟩, .slice none 0 0, .slice none 0 0, .slice none 0 0, .slice none 0 0, .int .i64 0, .int .i64 0, .int .i64 0, .int .i64 0, .int .i64 0, .int .i64 0, .int .i64 0]] w fun e w' => e = .returned (.bool true) ∧ Below w.heap.size w w' := by
  have := same20 c0 c0 ⟨pA, pC, pD, pE, none, 0, none, 0⟩ ad0 w ⟨txs_zero h1, txs_zero h2, zero_isL w, sz0, sz0, in0, in0⟩ (c0_is w)
  rw [sm3] at this
  exact this
theorem levels_at (w : World) : Calls Tryz.prog 18 #[.agg #[.slice none 0 0, .slice none 0 0, .int .i64 0, .int .i64 0, .int .i64 0, .int .i64 0, .int .i64 1001, .int .i64 0, .int .i64 0]] w fun e w' => e = .returned (.int .i64 2) ∧ Below w.heap.size w w' := by
  have := levels18 [] [] 0 0 0 0 1001 0 0 none 0 none 0 w ⟨Rws.zero _ _ _ _ _ (fun _ => rfl), Rws.zero _ _ _ _ _ (fun _ => rfl), by simp, by simp, by unfold i64B; decide⟩
  rw [lvl1] at this
  exact this
end Go.Proofs.YtdacjnlfjaegiaaGreatDoor
