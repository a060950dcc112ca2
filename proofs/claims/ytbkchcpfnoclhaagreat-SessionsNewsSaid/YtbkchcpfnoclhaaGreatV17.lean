/- Sessions: what the example calls. -/
import Derived.Test.YtbkchcpfnoclhaaGreatV15
namespace Go.Proofs.YtbkchcpfnoclhaaGreat
set_option maxRecDepth 100000
open Go Go.RowKit
set_option linter.unusedVariables false
set_option linter.unusedSimpArgs false
set_option maxRecDepth 100000

theorem load_mid_g {P : Program} {ops : Array Oper} {rest : List Oper} {op : Oper} {a : Act} {w : World} {Q : Exit → Act → World → Prop} (hw : Region.wanted op (yielded ops a.tmps) = true) (ty : TypeId) (x : Operand) (ho : op.op = .load ty x)
    (b o : Nat) (hx : a.eval x = .pointer (some ⟨b, o, none⟩)) (cs : List Value) (d : TypeDesc) (hc : w.rangeAt b o cs)
    (hu : P.underlying ty = some d) (hd : d.isRow = true) (hi : (P.info? ty).map (·.size) = some cs.length)
    (h : wpList P ops Q rest (a.put op.dst (.agg cs.toArray)) w) : wpList P ops Q (op :: rest) a w :=
  wpList_step fun K hK => by
    rw [if_pos hw]
    exact wp_load_mid ty x ho b o hx cs d hc hu hd hi (hK _ _ h)
theorem st_ses {w : World} {t : Nat} {id nx : Int} {rm : ByteArray} {A1 : Option Addr} {n1 c1 : Nat} (hX : Blk w t (sC id rm nx A1 n1 c1) 24) (vs : List Value) (hl : vs.length = 4) {A : Option Addr} {n c : Nat} {zs : List Rc} (hR : Rcs w A n c zs) :
    ∃ w', w.setCells t 0 vs.toArray.toList = w' ∧ Blk w' t vs 24 ∧ Rcs w' A n c zs ∧ (∀ B0 w0, Below B0 w0 w → B0 ≤ t → Below B0 w0 w') := by
  refine ⟨_, rfl, ?_, ?_, fun B0 w0 h hB => below_setRow h hB _ _⟩
  · rw [List.toList_toArray]; exact hX.setAll _ hl
  · exact hR.off_ses hX _
theorem l_new (u : World) : Calls Tryz.prog 5 #[.int .i64 5, .string xR] u fun r w' => ∃ A c, r = .returned (.tuple #[.agg #[.int .i64 5, .string xR, .int .i64 0, .slice A 0 c], .int .i64 0]) ∧ Rcs w' A 0 c [] ∧ Below u.heap.size u w' := by
  have := new24 5 xR u (by decide)
  rw [x_new] at this
  exact this.mono (fun e w' ⟨v, hr, ⟨A', c', hv, hrc⟩, hb⟩ => ⟨A', c', by rw [hr, hv]; rfl, hrc, hb⟩)
theorem l_use1 (A : Option Addr) (c : Nat) (u : World) (h : Rcs u A 0 c []) : Calls Tryz.prog 22 #[.agg #[.int .i64 5, .string xR, .int .i64 0, .slice A 0 c], .int .i64 100] u fun r w' => ∃ A c, r = .returned (.tuple #[.agg #[.int .i64 5, .string xR, .int .i64 1, .slice A 0 c], .int .i64 0, .int .i64 0]) ∧ Rcs w' A 0 c [] ∧ Below u.heap.size u w' := by
  have := use10 ⟨5, xR, 0, []⟩ A c 100 u h (by decide) (by unfold i64B; decide)
  rw [x_use1] at this
  exact this.mono (fun e w' ⟨v, hr, ⟨A', c', hv, hrc⟩, hb⟩ => ⟨A', c', by rw [hr, hv]; rfl, hrc, hb⟩)
theorem l_give1 (A : Option Addr) (c : Nat) (u : World) (h : Rcs u A 0 c []) : Calls Tryz.prog 7 #[.agg #[.int .i64 5, .string xR, .int .i64 1, .slice A 0 c], .string xA, .string xD] u fun r w' => ∃ A c, r = .returned (.tuple #[.agg #[.int .i64 5, .string xR, .int .i64 1, .slice A 1 c], .int .i64 0]) ∧ Rcs w' A 1 c [⟨xA, xD, 1⟩] ∧ Below u.heap.size u w' := by
  have := give25 ⟨5, xR, 1, []⟩ A c xA xD u h (by decide) (by decide) (by decide)
  rw [x_give1] at this
  exact this.mono (fun e w' ⟨v, hr, ⟨A', c', hv, hrc⟩, hb⟩ => ⟨A', c', by rw [hr, hv]; rfl, hrc, hb⟩)
theorem l_give2 (A : Option Addr) (c : Nat) (u : World) (h : Rcs u A 1 c [⟨xA, xD, 1⟩]) : Calls Tryz.prog 7 #[.agg #[.int .i64 5, .string xR, .int .i64 1, .slice A 1 c], .string xA, .string xD] u fun r w' => ∃ A c, r = .returned (.tuple #[.agg #[.int .i64 0, .string ⟨#[]⟩, .int .i64 0, .slice A 0 c], .int .i64 4]) ∧ Below u.heap.size u w' := by
  have := give25 ⟨5, xR, 1, [⟨xA, xD, 1⟩]⟩ A c xA xD u h (by decide) (by decide) (by decide)
  rw [x_give2] at this
  exact this.mono (fun e w' ⟨v, hr, ⟨A', c', hv, hrc⟩, hb⟩ => ⟨A', c', by rw [hr, hv]; rfl, hb⟩)
theorem l_use2 (A : Option Addr) (c : Nat) (u : World) (h : Rcs u A 1 c [⟨xA, xD, 1⟩]) : Calls Tryz.prog 22 #[.agg #[.int .i64 5, .string xR, .int .i64 1, .slice A 1 c], .int .i64 100] u fun r w' => ∃ A c, r = .returned (.tuple #[.agg #[.int .i64 5, .string xR, .int .i64 2, .slice A 1 c], .int .i64 1, .int .i64 0]) ∧ Rcs w' A 1 c [⟨xA, xD, 1⟩] ∧ Below u.heap.size u w' := by
  have := use10 ⟨5, xR, 1, [⟨xA, xD, 1⟩]⟩ A c 100 u h (by decide) (by unfold i64B; decide)
  rw [x_use2] at this
  exact this.mono (fun e w' ⟨v, hr, ⟨A', c', hv, hrc⟩, hb⟩ => ⟨A', c', by rw [hr, hv]; rfl, hrc, hb⟩)
theorem l_use3 (A : Option Addr) (c : Nat) (u : World) (h : Rcs u A 1 c [⟨xA, xD, 1⟩]) : Calls Tryz.prog 22 #[.agg #[.int .i64 5, .string xR, .int .i64 2, .slice A 1 c], .int .i64 2] u fun r w' => ∃ A c, r = .returned (.tuple #[.agg #[.int .i64 0, .string ⟨#[]⟩, .int .i64 0, .slice A 0 c], .int .i64 0, .int .i64 26]) ∧ Below u.heap.size u w' := by
  have := use10 ⟨5, xR, 2, [⟨xA, xD, 1⟩]⟩ A c 2 u h (by decide) (by unfold i64B; decide)
  rw [x_use3] at this
  exact this.mono (fun e w' ⟨v, hr, ⟨A', c', hv, hrc⟩, hb⟩ => ⟨A', c', by rw [hr, hv]; rfl, hb⟩)
theorem l_full (A : Option Addr) (c : Nat) (u : World) (h : Rcs u A 2000 c (List.replicate 2000 t0)) : Calls Tryz.prog 7 #[.agg #[.int .i64 5, .string xR, .int .i64 0, .slice A 2000 c], .string xA, .string xD] u fun r w' => ∃ A c, r = .returned (.tuple #[.agg #[.int .i64 0, .string ⟨#[]⟩, .int .i64 0, .slice A 0 c], .int .i64 29]) ∧ Below u.heap.size u w' := by
  have := give25 ⟨5, xR, 0, List.replicate 2000 t0⟩ A c xA xD u (by dsimp only; rw [List.length_replicate]; exact h) (by dsimp only; rw [List.length_replicate]; decide) (by decide) (by decide)
  rw [x_full] at this
  dsimp only at this
  rw [List.length_replicate] at this
  exact this.mono (fun e w' ⟨v, hr, ⟨A', c', hv, hrc⟩, hb⟩ => ⟨A', c', by rw [hr, hv]; rfl, hb⟩)
theorem l_rd (A : Option Addr) (c : Nat) (u : World) (h : Rcs u A 1 c [⟨xA, xD, 1⟩]) (ix : Int) (q : Bool) (hq : rdB [⟨xA, xD, 1⟩] 2 xA xD ix = q) : Calls Tryz.prog 24 #[.agg #[.int .i64 5, .string xR, .int .i64 2, .slice A 1 c], .string xA, .string xD, .int .i64 ix] u fun r w' => r = .returned (.bool q) ∧ Below u.heap.size u w' := by
  have := reads13 5 xR 2 A c [⟨xA, xD, 1⟩] xA xD ix u h
  rw [hq] at this
  exact this
/-- The example's lists: keys, names. -/
theorem x_keys (w : World) : Kys (((w.alloc (.cells #[.string xE, .int .i64 0, .bool false] 51)).alloc (.cells #[.string xD, .int .i64 0, .bool false] 51)).alloc (.cells #[.string xB, .int .i64 0, .int .i64 0, .slice (some ⟨w.heap.size, 0, none⟩) 1 1, .string xA, .int .i64 0, .int .i64 0, .slice (some ⟨w.heap.size + 1, 0, none⟩) 1 1] 54)) (some ⟨w.heap.size + 1 + 1, 0, none⟩) 2 (xK w.heap.size (w.heap.size + 1)) := by
  have h1 := ((blk_new w [.string xE, .int .i64 0, .bool false] 51).alloc (.cells #[.string xD, .int .i64 0, .bool false] 51)).alloc (.cells #[.string xB, .int .i64 0, .int .i64 0, .slice (some ⟨w.heap.size, 0, none⟩) 1 1, .string xA, .int .i64 0, .int .i64 0, .slice (some ⟨w.heap.size + 1, 0, none⟩) 1 1] 54)
  have h2 := (blk_new2 w (.cells #[.string xE, .int .i64 0, .bool false] 51) [.string xD, .int .i64 0, .bool false] 51).alloc (.cells #[.string xB, .int .i64 0, .int .i64 0, .slice (some ⟨w.heap.size, 0, none⟩) 1 1, .string xA, .int .i64 0, .int .i64 0, .slice (some ⟨w.heap.size + 1, 0, none⟩) 1 1] 54)
  have h3 := blk_new3 w (.cells #[.string xE, .int .i64 0, .bool false] 51) (.cells #[.string xD, .int .i64 0, .bool false] 51) [.string xB, .int .i64 0, .int .i64 0, .slice (some ⟨w.heap.size, 0, none⟩) 1 1, .string xA, .int .i64 0, .int .i64 0, .slice (some ⟨w.heap.size + 1, 0, none⟩) 1 1] 54
  refine ⟨by unfold maxLen; decide, fun _ => ⟨w.heap.size + 1 + 1, 0, rfl, h3.lt, fun j hj => ?_⟩, fun j hj => ?_⟩
  · obtain rfl | rfl : j = 0 ∨ j = 1 := by omega
    · intro i v hv
      have hi : i < 4 := (List.getElem?_eq_some_iff.1 hv).1
      rw [show 0 + 0 * 4 + i = i by omega]
      refine h3.cell (i := i) ?_
      rcases i with _ | _ | _ | _ | i
      all_goals first | (exact hv) | omega
    · intro i v hv
      have hi : i < 4 := (List.getElem?_eq_some_iff.1 hv).1
      rw [show 0 + 1 * 4 + i = 4 + i by omega]
      refine h3.cell (i := 4 + i) ?_
      rcases i with _ | _ | _ | _ | i
      all_goals first | (exact hv) | omega
  · obtain rfl | rfl : j = 0 ∨ j = 1 := by omega
    · exact Dv.Rcs.ofBlk (zs := [⟨xE, 0, false⟩]) h1 rfl rfl (Nat.le_refl _) (show 1 ≤ 9223372036854775807 by omega) (fun p hp => by rw [List.mem_singleton] at hp; subst hp; show xE.size ≤ _; decide)
    · exact Dv.Rcs.ofBlk (zs := [⟨xD, 0, false⟩]) h2 rfl rfl (Nat.le_refl _) (show 1 ≤ 9223372036854775807 by omega) (fun p hp => by rw [List.mem_singleton] at hp; subst hp; show xD.size ≤ _; decide)
theorem strs_blk {w : World} {g : Nat} {ls : List ByteArray} (h : Blk w g (ls.map .string) 9) (hl : ls.length ≤ 9223372036854775807) (hf : ∀ s ∈ ls, s.size ≤ 9223372036854775807) : Strs w (some ⟨g, 0, none⟩) ls.length ls := by
  refine ⟨rfl, hl, hf, fun _ => ⟨g, 0, rfl, h.lt, fun i hi => ?_⟩⟩
  rw [Nat.zero_add]
  refine h.cell (i := i) ?_
  rw [List.getElem?_map, List.getElem?_eq_getElem hi, List.getD_eq_getElem?_getD, List.getElem?_eq_getElem hi]
  rfl
theorem x_ds (b1 b2 : Nat) : ∀ j, j < 2 → (xK b1 b2 j).ds.length ≤ 900 := by
  intro j hj
  obtain rfl | rfl : j = 0 ∨ j = 1 := by omega
  · show 1 ≤ 900; omega
  · show 1 ≤ 900; omega
theorem l_ren (g2 : Nat) (A : Option Addr) (c : Nat) (g3 b1 b2 : Nat) (u : World) (hm : Strs u (some ⟨g2, 0, none⟩) 1 [xB]) (h : Kys u (some ⟨g3, 0, none⟩) 2 (xK b1 b2)) : Calls Tryz.prog 23 #[.agg #[.int .i64 5, .string xR, .int .i64 2, .slice A 1 c], .slice (some ⟨g2, 0, none⟩) 1 1, .slice (some ⟨g3, 0, none⟩) 2 2, .int .i64 6] u fun r w' => ∃ A c A2 c2, r = .returned (.tuple #[.agg #[.int .i64 6, .string xR, .int .i64 0, .slice A 1 c], .slice A2 1 c2]) ∧ Below u.heap.size u w' := by
  have := renew22 5 xR 2 A 1 c (some ⟨g2, 0, none⟩) 1 1 [xB] (some ⟨g3, 0, none⟩) 2 2 (xK b1 b2) 6 u hm (Nat.le_refl _) (by decide) h (x_ds b1 b2)
  rw [x_hold1, x_want1] at this
  exact this.mono (fun e w' ⟨A, c, A2, c2, hr, h1, h2, hb⟩ => ⟨A, c, A2, c2, hr, hb⟩)
theorem l_want (g2 : Nat) (A : Option Addr) (c : Nat) (g3 b1 b2 : Nat) (u : World) (hs : Rcs u A 1 c [⟨xA, xD, 1⟩]) (hm : Strs u (some ⟨g2, 0, none⟩) 2 [xB, xA]) (h : Kys u (some ⟨g3, 0, none⟩) 2 (xK b1 b2)) : Calls Tryz.prog 25 #[.agg #[.int .i64 5, .string xR, .int .i64 2, .slice A 1 c], .slice (some ⟨g2, 0, none⟩) 2 2, .slice (some ⟨g3, 0, none⟩) 2 2] u fun r w' => ∃ A c, r = .returned (.slice A 1 c) ∧ Rcs w' A 1 c [⟨xB, xE, 2⟩] ∧ Below u.heap.size u w' := by
  have := wants18 5 xR 2 A 1 c [⟨xA, xD, 1⟩] (some ⟨g2, 0, none⟩) 2 2 [xB, xA] (some ⟨g3, 0, none⟩) 2 2 (xK b1 b2) u hs (by decide) hm (Nat.le_refl _) (by decide) h (x_ds b1 b2)
  rw [x_hold2, x_want2] at this
  exact this.mono (fun e w' ⟨A, c, hr, h1, h2, hb⟩ => ⟨A, c, hr, h1, hb⟩)
theorem l_stl2 (g2 : Nat) (A : Option Addr) (c : Nat) (g3 b1 b2 : Nat) (u : World) (hs : Rcs u A 1 c [⟨xA, xD, 1⟩]) (hm : Strs u (some ⟨g2, 0, none⟩) 2 [xB, xA]) (h : Kys u (some ⟨g3, 0, none⟩) 2 (xK b1 b2)) : Calls Tryz.prog 26 #[.agg #[.int .i64 5, .string xR, .int .i64 2, .slice A 1 c], .slice (some ⟨g2, 0, none⟩) 2 2, .slice (some ⟨g3, 0, none⟩) 2 2] u fun r w' => r = .returned (.bool false) ∧ Below u.heap.size u w' := by
  have := stale20 5 xR 2 A 1 c [⟨xA, xD, 1⟩] (some ⟨g2, 0, none⟩) 2 2 [xB, xA] (some ⟨g3, 0, none⟩) 2 2 (xK b1 b2) u hs hm (Nat.le_refl _) (by decide) h (x_ds b1 b2)
  rw [x_hold2, x_stl2] at this
  exact this
theorem l_stl1 (g2 : Nat) (A : Option Addr) (c : Nat) (g3 b1 b2 : Nat) (u : World) (hs : Rcs u A 1 c [⟨xA, xD, 1⟩]) (hm : Strs u (some ⟨g2, 0, none⟩) 1 [xB]) (h : Kys u (some ⟨g3, 0, none⟩) 2 (xK b1 b2)) : Calls Tryz.prog 26 #[.agg #[.int .i64 5, .string xR, .int .i64 2, .slice A 1 c], .slice (some ⟨g2, 0, none⟩) 1 1, .slice (some ⟨g3, 0, none⟩) 2 2] u fun r w' => r = .returned (.bool true) ∧ Below u.heap.size u w' := by
  have := stale20 5 xR 2 A 1 c [⟨xA, xD, 1⟩] (some ⟨g2, 0, none⟩) 1 1 [xB] (some ⟨g3, 0, none⟩) 2 2 (xK b1 b2) u hs hm (Nat.le_refl _) (by decide) h (x_ds b1 b2)
  rw [x_hold1, x_stl1] at this
  exact this
theorem one22 {w : World} {g : Nat} (h : Blk w g [.string xB, .string xE, .int .i64 2] 36) : Rcs w (some ⟨g, 0, none⟩) 1 1 [⟨xB, xE, 2⟩] := Rcs.ofBlk h rfl rfl (Nat.le_refl _) (by decide) (fun p hp => by rw [List.mem_singleton] at hp; subst hp; exact ⟨by decide, by decide⟩)
theorem made_row {w : World} {B g : Nat} (h : w.ownsRow B 36 3 (.slice (some ⟨g, 0, none⟩) 2000 2000) 2000 (madeCells (Value.agg #[.string ⟨#[]⟩, .string ⟨#[]⟩, .int .i64 0]).cells (2000 * 3)).toList) : Rcs w (some ⟨g, 0, none⟩) 2000 2000 (List.replicate 2000 t0) := by
  have h2 : w.ownsRow B 36 3 (.slice (some ⟨g, 0, none⟩) 2000 2000) 2000 (cl (List.replicate 2000 t0)) := by
    rw [← made_cl]
    exact h
  obtain ⟨A, c, e, hr, _⟩ := Rcs.ofOwn h2 (List.length_replicate ..) (by decide) (fun p hp => by rw [List.eq_of_mem_replicate hp]; exact ⟨by decide, by decide⟩)
  simp only [Value.slice.injEq, true_and] at e
  obtain ⟨rfl, rfl⟩ := e
  exact hr
end Go.Proofs.YtbkchcpfnoclhaaGreat
