/- Relations: the reference's Get. No condition. -/
import Derived.Test.YtefajhfahnhcgaaV3
namespace Go.Proofs.Ytefajhfahnhcgaa
open Go Go.RowKit
set_option linter.unusedVariables false
set_option linter.unusedSimpArgs false

abbrev zE : List Value := [.int .i64 0, .string ⟨#[]⟩, .string ⟨#[]⟩, .int .i64 0, .bool false, .string ⟨#[]⟩, .int .i64 0, .int .i64 0, .slice none 0 0, .slice none 0 0, .string ⟨#[]⟩, .int .i64 0, .int .i64 0, .bool false, .string ⟨#[]⟩, .slice none 0 0, .slice none 0 0, .slice none 0 0, .slice none 0 0, .int .i64 0, .int .i64 0, .int .i64 0, .int .i64 0, .int .i64 0, .int .i64 0, .int .i64 0, .int .i64 0, .string ⟨#[]⟩, .int .i64 0]
def me0 : Me := ⟨0, ⟨#[]⟩, 0, 0, ⟨#[]⟩, 0, false, zE⟩
theorem zE_one : ∀ u ∈ zE, u.oneCell' = true := by simp [zE, Value.oneCell']
theorem fits0 : Fits me0 := ⟨rfl, rfl, rfl, rfl, rfl, rfl, rfl, rfl, zE_one, by unfold i64B; decide, by unfold i64B; decide, by unfold i64B; decide, by unfold i64B; decide, Nat.zero_le _, Nat.zero_le _⟩
theorem size34 : (Try.prog.info? 34).map (·.size) = some 29 := by kernel_rfl
theorem size34l {cs : List Value} (h : cs.length = 29) : (Try.prog.info? 34).map (·.size) = some cs.length := by rw [h]; exact size34
theorem size34a {cs : List Value} (h : cs.length = 29) : (Try.prog.info? 34).map (·.size) = some cs.toArray.size := by rw [List.size_toArray, h]; exact size34
theorem all_arr {cs : List Value} (h : ∀ u ∈ cs, u.oneCell' = true) : cs.toArray.all (·.oneCell') = true := by
  rw [Array.all_eq_true_iff_forall_mem]
  intro x hx
  exact h x (by simpa using hx)
/-- The first event with a positive id. -/
def gt (E : Nat → Me) (n : Nat) (z : Int) : Option Nat := if 0 < z then (List.range n).find? (fun j => decide ((E j).id = z)) else none
def gtE (E : Nat → Me) (o : Option Nat) : Me := match o with | some i => E i | none => me0
theorem gt_lt {E : Nat → Me} {n : Nat} {z : Int} {k : Nat} (h : gt E n z = some k) : k < n ∧ (E k).id = z ∧ 0 < z := by
  unfold gt at h
  split at h
  · rename_i hz
    exact ⟨by simpa using List.mem_of_find?_eq_some h, by simpa using List.find?_some h, hz⟩
  · cases h
theorem gt_at {E : Nat → Me} {n : Nat} {z : Int} {k : Nat} (hz : 0 < z) (hk : k < n) (h : (E k).id = z) (hn : ∀ j, j < k → ¬ (E j).id = z) : gt E n z = some k := by
  unfold gt
  rw [if_pos hz, List.find?_eq_some_iff_getElem]
  refine ⟨decide_eq_true h, k, by simpa using hk, by simp, fun j hj => ?_⟩
  simpa using hn j hj
theorem gt_no {E : Nat → Me} {n : Nat} {z : Int} (hn : ∀ j, j < n → ¬ (E j).id = z) : gt E n z = none := by
  unfold gt
  split
  · rw [List.find?_eq_none]
    intro x hx
    simpa using hn x (by simpa using hx)
  · rfl
theorem gt_neg {E : Nat → Me} {n : Nat} {z : Int} (h : ¬ 0 < z) : gt E n z = none := by unfold gt; rw [if_neg h]
theorem gt_sn (E : Nat → Me) (n : Nat) (z : Int) : (gt E n z).isSome = sn E n z := by
  unfold gt sn
  by_cases h : 0 < z
  · rw [if_pos h, decide_eq_true h, Bool.true_and, Bool.eq_iff_iff, List.find?_isSome, List.any_eq_true]
  · rw [if_neg h, decide_eq_false h]; rfl
theorem gtE_fits {E : Nat → Me} {n : Nat} {z : Int} (h : ∀ j, j < n → Fits (E j)) : Fits (gtE E (gt E n z)) := by
  cases hg : gt E n z with
  | none => exact fits0
  | some k => exact h k (gt_lt hg).1
/-- What Get of the program's list finds is what Get finds. -/
theorem fd_gt (E : Nat → Me) (z : Int) : ∀ n, fdI E (onc E n) z = gt E n z
  | 0 => by unfold gt fdI onc; split <;> rfl
  | n + 1 => by
    have ih := fd_gt E z n
    have hs : gt E (n + 1) z = (gt E n z).or (if 0 < z ∧ (E n).id = z then some n else none) := by
      unfold gt
      by_cases h : 0 < z
      · rw [if_pos h, if_pos h, List.range_succ, List.find?_append]
        congr 1
        by_cases e : (E n).id = z
        · rw [if_pos ⟨h, e⟩]; simp [e]
        · rw [if_neg (fun h1 => e h1.2)]; simp [e]
      · rw [if_neg h, if_neg h, if_neg (fun h1 => h h1.1)]; rfl
    rw [hs, ← ih, onc_snoc]
    unfold fdI
    rw [List.find?_append]
    cases hw : nw E n with
    | true =>
      unfold nw at hw
      rw [Bool.and_eq_true] at hw
      have hp : 0 < (E n).id := of_decide_eq_true hw.1
      rw [if_pos rfl]
      congr 1
      by_cases e : (E n).id = z
      · subst e
        rw [if_pos ⟨hp, rfl⟩]; simp
      · rw [if_neg (fun h1 => e h1.2)]; simp [e]
    | false =>
      rw [if_neg (by decide)]
      by_cases e : 0 < z ∧ (E n).id = z
      · obtain ⟨e1, e2⟩ := e
        subst e2
        have hs : sn E n (E n).id = true := by
          unfold nw at hw
          rw [decide_eq_true e1] at hw
          simpa using hw
        rw [← gt_sn, ← ih] at hs
        unfold fdI at hs
        obtain ⟨k, hk⟩ := Option.isSome_iff_exists.1 hs
        rw [hk]; rfl
      · rw [if_neg e]; rfl
set_option maxRecDepth 100000 in
set_option maxHeartbeats 4000000 in
theorem rget25 (A : Option Addr) (n c : Nat) (z : Int) (E : Nat → Me) (w : World) (h : Evm w A n E) : Calls Try.prog 25 #[.slice A n c, .int .i64 z] w fun r w' => r = .returned (.tuple #[.agg (gtE E (gt E n z)).cs.toArray, .bool (gt E n z).isSome]) ∧ Below w.heap.size w w' := by
  have BA := Lib.hid ((Below.refl w.heap.size w).alloc (Nat.le_refl _) (.cells #[.int .i64 0, .string ⟨#[]⟩, .string ⟨#[]⟩, .int .i64 0, .bool false, .string ⟨#[]⟩, .int .i64 0, .int .i64 0, .slice none 0 0, .slice none 0 0, .string ⟨#[]⟩, .int .i64 0, .int .i64 0, .bool false, .string ⟨#[]⟩, .slice none 0 0, .slice none 0 0, .slice none 0 0, .slice none 0 0, .int .i64 0, .int .i64 0, .int .i64 0, .int .i64 0, .int .i64 0, .int .i64 0, .int .i64 0, .int .i64 0, .string ⟨#[]⟩, .int .i64 0] 34))
  have X := Lib.hid (show Blk (w.alloc (.cells #[.int .i64 0, .string ⟨#[]⟩, .string ⟨#[]⟩, .int .i64 0, .bool false, .string ⟨#[]⟩, .int .i64 0, .int .i64 0, .slice none 0 0, .slice none 0 0, .string ⟨#[]⟩, .int .i64 0, .int .i64 0, .bool false, .string ⟨#[]⟩, .slice none 0 0, .slice none 0 0, .slice none 0 0, .slice none 0 0, .int .i64 0, .int .i64 0, .int .i64 0, .int .i64 0, .int .i64 0, .int .i64 0, .int .i64 0, .int .i64 0, .string ⟨#[]⟩, .int .i64 0] 34)) w.heap.size zE 34 from blk_new w zE 34)
  have H := Lib.hid (h.below BA.out)
  have hbig := h.big
  unfold maxLen at hbig
  have HF := Lib.hid (fun k hz hk h1 h2 => gt_at (E := E) (n := n) (z := z) (k := k) hz hk h1 h2)
  have HG := Lib.hid (fun h2 => gt_no (E := E) (n := n) (z := z) h2)
  have HN := Lib.hid (fun h2 => gt_neg (E := E) (n := n) (z := z) h2)
  generalize gt E n z = go at HF HG HN ⊢
  clear h
  go_enter Try.func25, Try.ntmps25
  go_upto_region 1 with (fail)
  generalize hwa : w.alloc _ = wa at BA X H ⊢
  clear hwa
  go_wp2
  go_loopg [6] n (fun gg s6 wr => ∃ kk : Nat, kk ≤ n ∧ n - kk ≤ gg ∧ s6 = .int .i64 (kk : Int) ∧ Hid (0 < z → ∀ j, j < kk → ¬ (E j).id = z) ∧ wr = wa)
  case atStart => exact ⟨0, Nat.zero_le _, by omega, rfl, Lib.hid (fun _ j hj => absurd hj (Nat.not_lt_zero _)), rfl⟩
  case round =>
    obtain ⟨kk, hkk, hg, rfl, HJ, rfl⟩ := hrel
    by_cases hlt : kk < n
    · have hltz : (kk : Int) < (n : Int) := by omega
      have hk0 : (0 : Int) ≤ (kk : Int) := by omega
      obtain ⟨b1, o1, rfl, hat⟩ := H.out.get hlt
      have k0 := hat.k0
      have HFk := Lib.hid (fun hz h1 => HF.out kk hz hlt h1 (HJ.out hz))
      have HR := Lib.hid hat.rng
      have HL := Lib.hid hat.fit.len
      have HO := Lib.hid hat.fit.one
      have HE := Lib.hid (show (gtE E (some kk)) = E kk from rfl)
      have HJ1 := Lib.hid (show ¬ (E kk).id = z → (0 < z → ∀ j, j < kk + 1 → ¬ (E j).id = z) from fun h1 hz j hj => by
        by_cases e1 : j = kk
        · subst e1; exact h1
        · exact HJ.out hz j (by omega))
      clear hat HE
      generalize (E kk).id = y at k0 HFk HJ1
      by_cases hz : 0 < z
      · by_cases hy : y = z
        · have hq := HFk.out hz hy
          clear HFk HJ1 HJ HF HG HN
          subst hq
          go_wp2_with (first
            | (refine wpList_load_mid rfl 34 _ rfl b1 (o1 + kk * 29) rfl (E kk).cs _ HR.out Try.underlying34 rfl (size34l HL.out) ?_)
            | (refine wpList_store_mid rfl 34 _ _ rfl w.heap.size 0 (E kk).cs.toArray rfl rfl (X.out.there (by rw [List.size_toArray, HL.out]; decide)) (size34a HL.out) (all_arr HO.out) ?_)
            | go_in)
          try simp only [Exit.inBlock, Exit.then]
          refine bodyPost_ret (results_cell_tmp_blk rfl _ _ w.heap.size (E kk).cs 34 _ rfl (X.out.setAll (E kk).cs HL.out) Try.underlying34 rfl (size34l HL.out)) rfl ?_
          exact ⟨rfl, below_setRow BA.out (Nat.le_refl _) _ _⟩
        · have HJ2 := Lib.hid (HJ1.out hy)
          clear HFk HJ1 HR HL HO
          go_wp2
          go_roundg (n - (kk + 1))
          case measure => omega
          case rel => exact ⟨kk + 1, by omega, by omega, by go_num, HJ2, rfl⟩
      · have HJ2 := Lib.hid (show 0 < z → ∀ j, j < kk + 1 → ¬ (E j).id = z from fun h1 => absurd h1 hz)
        clear HFk HJ1 HR HL HO
        go_wp2
        go_roundg (n - (kk + 1))
        case measure => omega
        case rel => exact ⟨kk + 1, by omega, by omega, by go_num, HJ2, rfl⟩
    · have hltz : ¬ (kk : Int) < (n : Int) := by omega
      obtain rfl : kk = n := by omega
      have hq : go = none := by
        by_cases hz : 0 < z
        · exact HG.out (fun j hj => HJ.out hz j hj)
        · exact HN.out (by omega)
      clear HF HG HN HJ
      subst hq
      go_wp2_with (first
        | (refine wpList_store_mid rfl 34 _ _ rfl w.heap.size 0 #[.int .i64 0, .string ⟨#[]⟩, .string ⟨#[]⟩, .int .i64 0, .bool false, .string ⟨#[]⟩, .int .i64 0, .int .i64 0, .slice none 0 0, .slice none 0 0, .string ⟨#[]⟩, .int .i64 0, .int .i64 0, .bool false, .string ⟨#[]⟩, .slice none 0 0, .slice none 0 0, .slice none 0 0, .slice none 0 0, .int .i64 0, .int .i64 0, .int .i64 0, .int .i64 0, .int .i64 0, .int .i64 0, .int .i64 0, .int .i64 0, .string ⟨#[]⟩, .int .i64 0] rfl rfl (X.out.there (by decide)) (size34a rfl) (all_arr zE_one) ?_)
        | go_in)
      try simp only [Exit.inBlock, Exit.then]
      refine bodyPost_ret (results_cell_tmp_blk rfl _ _ w.heap.size zE 34 _ rfl (X.out.setAll zE rfl) Try.underlying34 rfl size34) rfl ?_
      exact ⟨rfl, below_setRow BA.out (Nat.le_refl _) _ _⟩
end Go.Proofs.Ytefajhfahnhcgaa
