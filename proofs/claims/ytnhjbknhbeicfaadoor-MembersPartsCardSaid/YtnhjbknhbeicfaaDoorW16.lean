/- The reference's InState. Bounds: at most 10000 entries. -/
import Derived.Test.YtnhjbknhbeicfaaDoorW15
namespace Go.Proofs.YtnhjbknhbeicfaaDoor
open Go.RowKit Go.Maps
set_option linter.unusedVariables false
set_option linter.unusedSimpArgs false

def clI (zs : List Int) : List Value := zs.map (Value.int .i64)
theorem clI_snoc (zs : List Int) (z : Int) : clI zs ++ [Value.int .i64 z] = clI (zs ++ [z]) := by unfold clI; rw [List.map_append]; rfl
theorem flat_clI (zs : List Int) : flat zs.length (rowI zs) = clI zs := by
  have : ∀ n, n ≤ zs.length → flat n (rowI zs) = clI (zs.take n) := by
    intro n
    induction n with
    | zero => intro _; rfl
    | succ n ih =>
      intro hn
      rw [flat_succ, ih (by omega), List.take_succ_eq_append_getElem (by omega), ← clI_snoc]
      unfold rowI
      rw [List.getD_eq_getElem?_getD, List.getElem?_eq_getElem (by omega)]
      rfl
  rw [this _ (Nat.le_refl _), List.take_length]
theorem srcI (w : World) (z : Int) : Src (w.alloc (.cells #[.int .i64 z] 3)) (some ⟨w.heap.size, 0, none⟩) 1 1 1 [Value.int .i64 z] :=
  ⟨rfl, (fun e => by cases e), .inr ⟨w.heap.size, 0, rfl, by simp, fun j u hu => by rw [Nat.zero_add]; exact (blk_new w [Value.int .i64 z] 3).cell hu⟩, by intro u hu; rw [List.mem_singleton] at hu; rw [hu]; rfl⟩
theorem its_own {w : World} {B n c : Nat} {A : Option Addr} {zs : List Int} (h : w.ownsRow B 3 1 (.slice A n c) n (clI zs)) (hl : zs.length = n) (hn : n ≤ 1000000) (hf : ∀ z ∈ zs, -9223372036854775808 ≤ z ∧ z ≤ 9223372036854775807) : Its w A n c zs := by
  have h' := h
  rw [← flat_clI, hl] at h'
  refine ⟨own_rows h' (fun j _ => rfl) (fun j _ u hu => by unfold rowI at hu; rw [List.mem_singleton] at hu; rw [hu]; rfl) (by unfold maxLen; omega), hl, ?_, hf⟩
  rcases h.2 with ⟨hv, h1⟩ | ⟨g, cap, cur, hv, _, _, hnc, _⟩
  · omega
  · simp only [Value.slice.injEq, true_and] at hv
    rw [hv.2]; exact hnc
set_option maxRecDepth 100000 in
set_option maxHeartbeats 8000000 in
theorem instate21 (A S : Option Addr) (n c m d : Nat) (E : Nat → Evd) (N : Nat → En) (u : ByteArray) (w : World) (h : Evx w A n E) (hs : Ens w S m d N) (hm : m ≤ 10000) : Calls Tryd.prog 21 #[.slice A n c, .slice S m d, .string u] w fun e w' => e = .returned (.int .i64 (inS E n (idl N m) u)) ∧ Below w.heap.size w w' := by
  have H := Lib.hid h
  have HS := Lib.hid hs
  have HI := Lib.hid (idl_fit hs (Nat.le_refl m))
  obtain ⟨i0, hi, hz0, hz1, hz2⟩ := info_parts info3m
  have HIf := Lib.hid (And.intro hi (And.intro hz0 (And.intro hz1 hz2)))
  have B0 := Lib.hid ((Below.refl w.heap.size w).alloc (Nat.le_refl _) (.cells #[] 3))
  have O0 : Hid ((w.alloc (.cells #[] 3)).ownsRow w.heap.size 3 1 (.slice (some ⟨w.heap.size, 0, none⟩) 0 0) 0 (clI (idl N 0))) := Lib.hid (World.ownsRow_made (base := w.heap.size) (e := 3) (size := 1) w #[] 0 (Nat.le_refl _) (by decide) (by simp))
  clear h hs hi hz0 hz1 hz2
  go_enter Tryd.func21, Tryd.ntmps21
  go_wp2
  go_loopg [7, 8] m (fun gg s7 s8 wr => ∃ (kk : Nat) (A1 : Option Addr) (c1 : Nat), kk ≤ m ∧ m - kk ≤ gg ∧ s8 = .int .i64 kk ∧ s7 = .slice A1 kk c1 ∧ Hid (wr.ownsRow w.heap.size 3 1 (.slice A1 kk c1) kk (clI (idl N kk))) ∧ Hid (Below w.heap.size w wr))
  case atStart => exact ⟨0, _, 0, Nat.zero_le _, by omega, rfl, rfl, O0, B0⟩
  case round =>
    obtain ⟨kk, A1, c1, hkk, hg, rfl, rfl, HO, BW⟩ := hrel
    by_cases hlt : kk < m
    · have hltz : (kk : Int) < (m : Int) := by omega
      obtain ⟨b, off, rfl, R⟩ := (HS.out.below BW.out).get hlt
      have k2 : wr.cell? ⟨b, off + kk * 3 + 2, none⟩ = some (.int .i64 (N kk).id) := R.out 2 _ rfl
      have HT := Lib.hid (idl_succ N kk)
      clear R
      generalize (N kk).id = x at *
      go_wp2_with (at_builtin; refine wpList_append_any _ rfl _ _ 38 rfl w.heap.size 3 i0 _ 1 8 Tryd.underlying38 HIf.out.1 HIf.out.2.1 HIf.out.2.2.1 HIf.out.2.2.2 rfl (by decide) (.slice A1 kk c1) kk (clI (idl N kk)) rfl (own_below HO.out ((Below.refl _ wr).alloc (Nat.le_refl _) (.cells #[.int .i64 x] 3))) (some ⟨wr.heap.size, 0, none⟩) 1 1 [Value.int .i64 x] rfl (srcI wr x) (by unfold maxLen; omega) (by omega) (by have := BW.out.size; simp; omega) ?_; intro v6 w6 hgr; have B6 := Lib.hid (hgr.below (BW.out.alloc BW.out.size (.cells #[.int .i64 x] 3)) (own_below HO.out ((Below.refl _ wr).alloc (Nat.le_refl _) (.cells #[.int .i64 x] 3)))); have O6 := Lib.hid hgr.own; clear hgr; rw [clI_snoc, ← HT.out] at O6; obtain ⟨A6, c6, rfl⟩ := own_slice O6.out)
      go_roundg (m - (kk + 1))
      case measure => omega
      case rel => exact ⟨kk + 1, A6, c6, by omega, by omega, by go_num, rfl, O6, B6⟩
    · have hltz : ¬ (kk : Int) < (m : Int) := by omega
      obtain rfl : kk = m := by omega
      have HIt := Lib.hid (its_own HO.out (idl_len N kk) (by omega) HI.out)
      have C31 := Lib.hid (rof31 A A1 n c kk c1 E (idl N kk) wr (H.out.below BW.out) HIt.out hm)
      go_wp2_with (first
        | (go_at_call 31; refine C31.out.mono ?_; rintro e w5 ⟨A5, c5, rfl, hk5, hb5⟩; have K5 := Lib.hid hk5; have B5 := Lib.hid (BW.out.trans (hb5.mono BW.out.size)); clear hk5 hb5)
        | (go_at_call 11; refine (of11 _ _ _ _ u _ K5.out).mono ?_; rintro e w6 ⟨rfl, rfl⟩))
      go_ret
      exact ⟨ret_i64 (by unfold inS; simp only [List.getD_eq_getElem?_getD]), B5.out⟩
end Go.Proofs.YtnhjbknhbeicfaaDoor
