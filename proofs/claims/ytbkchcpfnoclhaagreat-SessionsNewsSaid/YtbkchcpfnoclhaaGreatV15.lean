/- Sessions: the example's facts. No program. -/
import Derived.Test.YtbkchcpfnoclhaaGreatV14
import Derived.Test.YtbkchcpfnoclhaaGreatV16
import Derived.Great.BuildSlice
namespace Go.Proofs.YtbkchcpfnoclhaaGreat
set_option maxRecDepth 100000
open Go Go.RowKit
set_option linter.unusedVariables false
set_option linter.unusedSimpArgs false
set_option maxRecDepth 100000

abbrev xR : ByteArray := ⟨#[33, 114, 58, 97]⟩
abbrev xA : ByteArray := ⟨#[64, 97, 58, 120]⟩
abbrev xB : ByteArray := ⟨#[64, 98, 58, 121]⟩
abbrev xD : ByteArray := ⟨#[68]⟩
abbrev xE : ByteArray := ⟨#[69]⟩
theorem x_new : newS 5 xR = (⟨5, xR, 0, []⟩, 0) := by kernel_rfl
theorem x_use1 : useS ⟨5, xR, 0, []⟩ 100 = (⟨5, xR, 1, []⟩, 0, 0) := by kernel_rfl
theorem x_give1 : giveS ⟨5, xR, 1, []⟩ xA xD = (⟨5, xR, 1, [⟨xA, xD, 1⟩]⟩, 0) := by kernel_rfl
theorem x_give2 : giveS ⟨5, xR, 1, [⟨xA, xD, 1⟩]⟩ xA xD = (s0, 4) := by kernel_rfl
theorem x_use2 : useS ⟨5, xR, 1, [⟨xA, xD, 1⟩]⟩ 100 = (⟨5, xR, 2, [⟨xA, xD, 1⟩]⟩, 1, 0) := by kernel_rfl
theorem x_use3 : useS ⟨5, xR, 2, [⟨xA, xD, 1⟩]⟩ 2 = (s0, 0, 26) := by kernel_rfl
theorem x_rd1 : rdB [⟨xA, xD, 1⟩] 2 xA xD 1 = true := by kernel_rfl
theorem x_rd0 : rdB [⟨xA, xD, 1⟩] 2 xA xD 0 = false := by kernel_rfl
theorem x_rd2 : rdB [⟨xA, xD, 1⟩] 2 xA xD 2 = false := by kernel_rfl
/-- The example's keys. -/
def xK (b1 b2 : Nat) (j : Nat) : Kd := if j = 0 then ⟨xB, 0, 0, some ⟨b1, 0, none⟩, 1, 1, [⟨xE, 0, false⟩]⟩ else ⟨xA, 0, 0, some ⟨b2, 0, none⟩, 1, 1, [⟨xD, 0, false⟩]⟩
theorem x_hold1 (b1 b2 : Nat) : holdL [xB] (dvI (xK b1 b2) 2) = [⟨xB, xE⟩] := by kernel_rfl
theorem x_nm2 : nmB [xB, xA] = [xA, xB] := by
  have h : ([[64, 97, 58, 120], [64, 98, 58, 121]] : List I.Txt) = I.nm (tx [xB, xA]) := I.nm_eq (by unfold I.Srt; decide) (fun x => by
    have : tx [xB, xA] = [[64, 98, 58, 121], [64, 97, 58, 120]] := by kernel_rfl
    rw [this]
    simp only [List.mem_cons, List.not_mem_nil, or_false]
    exact Or.comm)
  unfold nmB
  exact (congrArg bs h.symm).trans (by kernel_rfl)
theorem x_hold2 (b1 b2 : Nat) : holdL [xB, xA] (dvI (xK b1 b2) 2) = [⟨xA, xD⟩, ⟨xB, xE⟩] := by
  unfold holdL
  rw [x_nm2]
  kernel_rfl
theorem x_want1 : wantL [] 0 [⟨xB, xE⟩] = [⟨xB, xE, 0⟩] := by kernel_rfl
theorem x_want2 : wantL [⟨xA, xD, 1⟩] 2 [⟨xA, xD⟩, ⟨xB, xE⟩] = [⟨xB, xE, 2⟩] := by kernel_rfl
theorem x_stl2 : stlB [⟨xA, xD, 1⟩] [⟨xA, xD⟩, ⟨xB, xE⟩] = false := by kernel_rfl
theorem x_stl1 : stlB [⟨xA, xD, 1⟩] [⟨xB, xE⟩] = true := by kernel_rfl
theorem x_full : giveS ⟨5, xR, 0, List.replicate 2000 t0⟩ xA xD = (s0, 29) := by
  have hf : fidx (smH xA xD) (List.replicate 2000 t0) = -1 := fidx_no (fun j hj => by
    rw [getD_at hj, List.getElem_replicate]
    kernel_rfl)
  have hm : ¬ (¬ I.mkd 64 (bys xA) = true ∨ xD.size < 1 ∨ 32 < xD.size) := by
    rintro (h | h | h)
    · exact h (by kernel_rfl)
    · revert h; decide
    · revert h; decide
  unfold giveS
  rw [if_neg hm]
  dsimp only
  rw [hf, if_neg (by omega), if_pos (by rw [List.length_replicate]; omega)]
theorem made3 (a b c : Value) : ∀ n, (madeCells #[a, b, c] (n * 3)).toList = (List.replicate n [a, b, c]).flatten
  | 0 => by simp [madeCells]
  | n + 1 => by
    rw [List.replicate_succ', List.flatten_append, ← made3 a b c n, show (n + 1) * 3 = n * 3 + 1 + 1 + 1 by omega]
    simp [madeCells, List.range_succ]
theorem made_cl (n : Nat) : (madeCells #[.string ⟨#[]⟩, .string ⟨#[]⟩, .int .i64 0] (n * 3)).toList = cl (List.replicate n t0) := by
  rw [made3]
  unfold cl
  rw [List.flatMap_def, List.map_replicate]
  rfl
/-- A list beside a session's cells stays. -/
theorem Rcs.off_ses {w : World} {t : Nat} {A : Option Addr} {n c : Nat} {zs : List Rc} {id nx : Int} {rm : ByteArray} {A1 : Option Addr} {n1 c1 : Nat} (h : Rcs w A n c zs) (hb : Blk w t (sC id rm nx A1 n1 c1) 24) (vs : List Value) : Rcs (w.setCells t 0 vs) A n c zs := by
  by_cases h0 : n = 0
  · subst h0
    exact ⟨Rws.zero _ _ _ _ _ (fun e => (h.rws.nil e).2), h.len, h.cap, h.fit⟩
  · obtain ⟨b, off, rfl, hlt, hr, _⟩ := h.get (k := 0) (by omega)
    have c0 : w.cell? ⟨b, off + 0 * 3 + 0, none⟩ = some (.string (zs.getD 0 t0).us) := hr 0 _ rfl
    have c1 : w.cell? ⟨b, off + 0 * 3 + 1, none⟩ = some (.string (zs.getD 0 t0).dv) := hr 1 _ rfl
    have hne : b ≠ t := by
      rintro rfl
      unfold World.cell? at c0 c1
      rw [hb.heap] at c0 c1
      simp only [Nat.zero_mul, Nat.add_zero] at c0 c1
      rcases off with _ | _ | _ | _ | off <;> simp at c0 c1
    refine h.grew (row := some t) ⟨?_, ?_, ?_, ?_, fun k hk hkt => ?_⟩ (fun b' off' e h1 => by cases e; exact hne (Option.some.inj h1))
    all_goals first
      | exact (below_setRow (B := 0) (Below.refl 0 w) (Nat.zero_le _) vs 0).os
      | exact (below_setRow (B := 0) (Below.refl 0 w) (Nat.zero_le _) vs 0).tape
      | exact (below_setRow (B := 0) (Below.refl 0 w) (Nat.zero_le _) vs 0).output
      | exact (below_setRow (B := 0) (Below.refl 0 w) (Nat.zero_le _) vs 0).size
      | exact World.heap_setCells_other w t 0 vs hk (fun e => hkt (by rw [e]))
end Go.Proofs.YtbkchcpfnoclhaaGreat
