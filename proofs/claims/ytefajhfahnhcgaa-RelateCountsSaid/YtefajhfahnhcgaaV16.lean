/- Relations: maps of pairs of texts, of texts. No condition beyond texts' lengths. -/
import Derived.Test.YtefajhfahnhcgaaMK
import Derived.Test.YtefajhfahnhcgaaV15
namespace Go.Proofs.Ytefajhfahnhcgaa
open Go Go.RowKit
open Go.Maps (Keyed)
set_option linter.unusedVariables false
set_option linter.unusedSimpArgs false
set_option maxRecDepth 100000

theorem laidOut81 : laidOutB Try.prog = true := by kernel_rfl
theorem row81 : (81 : TypeId) < Try.prog.types.size := of_decide_eq_true (by kernel_rfl)
theorem wide81 : (match Try.prog.underlying 81 with | some (.array _ _) | some (.struct _) => true | _ => false) = true := by rw [Try.underlying81]
theorem law81 : Keyed Try.prog 81 := Keyed.of_law (deep_law_laid laidOut81 (m := 2) (by omega) row81 (by kernel_rfl) wide81)
theorem keyT81 : Try.prog.keyType 81 = true := by kernel_rfl
theorem cells81 : Try.prog.cellsOf 81 = 2 := by kernel_rfl
theorem cells9 : Try.prog.cellsOf 9 = 1 := by kernel_rfl
theorem lits81 (m : Nat) (u d : ByteArray) (hu : u.size ≤ maxLen) (hd : d.size ≤ maxLen) : Try.prog.keyLits (m + 2) 81 [.string u, .string d] = some [.string u.data.toList, .string d.data.toList] := by
  simp [Program.keyLits, Try.underlying81, Try.underlying9, cells81, cells9, hu, hd]
theorem types81 : ∃ m, Try.prog.types.size + 1 = m + 2 := by
  have h : 0 < Try.prog.types.size := Nat.lt_of_le_of_lt (Nat.zero_le 81) row81
  exact ⟨Try.prog.types.size - 1, by rw [show Try.prog.types.size - 1 + 2 = (Try.prog.types.size - 1 + 1) + 1 from rfl, Nat.sub_add_cancel h]⟩
/-- A device as a key. -/
def mkK (x : ByteArray × ByteArray) : Value := .agg #[.string x.1, .string x.2]
def kL (u d : ByteArray) : Lit := .string (keyBytes [.string u.data.toList, .string d.data.toList])
theorem key81 {u d : ByteArray} (hu : u.size ≤ maxLen) (hd : d.size ≤ maxLen) : keyOf Try.prog 81 (.agg #[.string u, .string d]) = some (kL u d) := by
  obtain ⟨m, hm⟩ := types81
  unfold keyOf
  rw [Try.underlying81]
  simp only [keyT81, hm]
  have hf : Value.formed Try.prog 81 (.agg #[.string u, .string d]) = true := by simp [Value.formed, Try.underlying81, cells81]
  rw [hf]
  have hc : (Value.agg #[.string u, .string d]).cells.toList = [.string u, .string d] := rfl
  rw [hc, lits81 m u d hu hd]
  rfl
theorem kL_inj {u d u' d' : ByteArray} (hu : u.size ≤ maxLen) (hd : d.size ≤ maxLen) (hu' : u'.size ≤ maxLen) (hd' : d'.size ≤ maxLen) (h : kL u d = kL u' d') : u = u' ∧ d = d' := by
  have := law81.inj (key81 hu hd) (h ▸ key81 hu' hd')
  simpa using this

theorem invK {key : Value} {kl : Lit} (h : keyOf Try.prog 81 key = some kl) : ∃ x : ByteArray × ByteArray, key = mkK x := by
  obtain ⟨m, hm⟩ := types81
  unfold keyOf at h
  rw [Try.underlying81] at h
  simp only [keyT81, hm, Bool.true_and] at h
  split at h
  · rename_i hf
    cases key <;> simp [Value.formed, Try.underlying81, cells81] at hf
    rename_i xs
    obtain ⟨l⟩ := xs
    match l, hf with
    | [a, b], _ =>
      simp only [Value.cells] at h
      have hl : ∃ ls, Try.prog.keyLits (m + 2) 81 [a, b] = some ls := by
        cases hk : Try.prog.keyLits (m + 2) 81 [a, b] with
        | none => simp [hk] at h
        | some ls => exact ⟨ls, rfl⟩
      obtain ⟨ls, hl⟩ := hl
      cases a <;> cases b <;> simp [Program.keyLits, Try.underlying81, Try.underlying9, cells81, cells9] at hl
      exact ⟨(_, _), rfl⟩
  · cases h
/-- Keys that are pairs of texts. -/
noncomputable def kPair : MK.KK Try.prog 81 (ByteArray × ByteArray) where
  val := mkK
  lit x := kL x.1 x.2
  ok x := x.1.size ≤ maxLen ∧ x.2.size ≤ maxLen
  law := law81
  key a ha := key81 ha.1 ha.2
  inj a b ha hb h := by
    obtain ⟨h1, h2⟩ := kL_inj ha.1 ha.2 hb.1 hb.2 h
    exact Prod.ext h1 h2
  isk _ := trivial
  mkinj a b h := by
    unfold mkK at h
    simp only [Value.agg.injEq, Array.mk.injEq, List.cons.injEq, Value.string.injEq, and_true] at h
    exact Prod.ext h.1 h.2
  inv v kl h1 := invK h1
theorem zero4 (w : World) : (zeroValue 4).run Try.prog w = .ok (.bool false) w := by kernel_rfl
theorem zero3 (w : World) : (zeroValue 3).run Try.prog w = .ok (.int .i64 0) w := by kernel_rfl
noncomputable abbrev eB : MK.EK Try.prog 4 Bool := MK.eBool zero4
noncomputable abbrev eI : MK.EK Try.prog 3 Int := MK.eInt zero3
noncomputable abbrev kT : MK.KK Try.prog 9 ByteArray := MK.kStr Try.underlying9
theorem under78 : Try.prog.underlying 78 = some (.map 81 4) := by kernel_rfl
theorem under79 : Try.prog.underlying 79 = some (.map 9 3) := by kernel_rfl
/-- The pairs that have been seen. -/
def seenP (ds : List (ByteArray × ByteArray)) : List ((ByteArray × ByteArray) × Bool) := ds.map (fun p => (p, true))
end Go.Proofs.Ytefajhfahnhcgaa
