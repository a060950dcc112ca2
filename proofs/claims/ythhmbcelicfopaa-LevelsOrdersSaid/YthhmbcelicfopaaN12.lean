/- The examples of the chapter (awake). -/
import Derived.Test.YthhmbcelicfopaaN11
namespace Go.Proofs.Ythhmbcelicfopaa
open Go.RowKit
set_option linter.unusedVariables false
abbrev annB : ByteArray := ⟨#[64, 97, 110, 110, 58, 97]⟩
abbrev bobB : ByteArray := ⟨#[64, 98, 111, 98, 58, 97]⟩
theorem annL : annB.toList = [64, 97, 110, 110, 58, 97] := by rw [ByteArray.toList_eq]
theorem bobL : bobB.toList = [64, 98, 111, 98, 58, 97] := by rw [ByteArray.toList_eq]
def U2 : Nat → ByteArray × Int := fun j => match j with | 0 => (annB, 100) | _ => (bobB, 50)
def usF (x : ByteArray) : Int := if x.toList = annB.toList then 100 else if x.toList = bobB.toList then 50 else 0
theorem us2 (x : ByteArray) : UserPost U2 x 2 0 (usF x) := by
  unfold usF
  by_cases h1 : x.toList = annB.toList
  · rw [if_pos h1]
    exact .inl ⟨0, by omega, by simp [isU, U2, h1], fun j hj => absurd hj (Nat.not_lt_zero _), rfl⟩
  · rw [if_neg h1]
    have n0 : isU U2 x 0 = false := by simp only [isU, U2, beq_eq_false_iff_ne, ne_eq]; exact fun e => h1 e.symm
    by_cases h2 : x.toList = bobB.toList
    · rw [if_pos h2]
      exact .inl ⟨1, by omega, by simp [isU, U2, h2], fun j hj => (show j = 0 by omega) ▸ n0, rfl⟩
    · rw [if_neg h2]
      refine .inr ⟨fun j hj => ?_, rfl⟩
      obtain rfl | rfl : j = 0 ∨ j = 1 := by omega
      · exact n0
      · simp only [isU, U2, beq_eq_false_iff_ne, ne_eq]; exact fun e => h2 e.symm
theorem us2_ann : usF annB = 100 := by unfold usF; rw [if_pos rfl]
theorem us2_bob : usF bobB = 50 := by
  unfold usF
  rw [if_neg (by rw [annL, bobL]; decide), if_pos rfl]
theorem ann_only : UserPost (fun _ => (annB, 100)) annB 1 0 100 := .inl ⟨0, by omega, by simp [isU], fun j hj => absurd hj (Nat.not_lt_zero _), rfl⟩
theorem need_zero (K : Nat → Int × Int) (k : Int) : NeedPost K k 0 0 0 0 := .inr ⟨fun j hj => absurd hj (Nat.not_lt_zero _), by split <;> rfl⟩
theorem two_users {w : World} {g : Nat} (h : Blk w g [.string annB, .int .i64 100, .string bobB, .int .i64 50] 51) : Rws w (some ⟨g, 0, none⟩) 2 2 2 (rowU U2) :=
  ⟨fun j hj => rfl, fun j hj v hv => by simp [rowU] at hv; rcases hv with rfl | rfl <;> rfl, by decide, (fun h => by cases h), .inr ⟨g, 0, rfl, h.lt, fun j hj i v hv => by
    have hi : i < 2 := (List.getElem?_eq_some_iff.1 hv).1
    obtain rfl | rfl : j = 0 ∨ j = 1 := by omega
    · have := h.cell (i := i) (v := v) (by obtain rfl | rfl : i = 0 ∨ i = 1 := by omega
                                           all_goals exact hv)
      rw [Nat.zero_mul, Nat.add_zero, Nat.zero_add]; exact this
    · have := h.cell (i := 2 + i) (v := v) (by obtain rfl | rfl : i = 0 ∨ i = 1 := by omega
                                               all_goals exact hv)
      rw [Nat.one_mul, Nat.zero_add]; exact this⟩⟩
theorem of_none (w : World) : Calls Try.prog 18 #[.slice none 0 0] w fun e w' => ∃ uA uC kA kC, e = .returned (.tuple #[.agg (lvc uA 0 uC kA 0 kC 0 0 0 0 50 50 50).toArray, .string ⟨#[]⟩]) ∧ Below w.heap.size w w' := by
  refine (of19 (w := w) (A := none) (n := 0) (E := fun _ => ⟨.int .i64 0, .int .i64 0, ⟨#[]⟩, 0, .int .i64 0, ⟨#[]⟩, .int .i64 0, .int .i64 0, .int .i64 0, .int .i64 0, .int .i64 0, 0, .int .i64 0, .int .i64 0, .int .i64 0, none, 0, 0, .int .i64 0, .int .i64 0, .int .i64 0, .int .i64 0, .int .i64 0, .int .i64 0, .int .i64 0, .int .i64 0, .int .i64 0, .int .i64 0, .int .i64 0, .int .i64 0, .int .i64 0⟩) (LV := fun _ => defLv ⟨#[]⟩) 0 (.inl rfl) (fun j hj => absurd hj (Nat.not_lt_zero _)) (fun j hj => absurd hj (Nat.not_lt_zero _)) (.inr ⟨.inr ⟨fun j hj => absurd hj (Nat.not_lt_zero _), rfl⟩, rfl⟩) (.inr ⟨.inr ⟨fun j hj => absurd hj (Nat.not_lt_zero _), rfl⟩, rfl⟩)).mono ?_
  rintro e w' ⟨cs, rfl, ⟨uA, uC, kA, kC, rfl, _, _⟩, hb⟩
  have e0 : (defLv ⟨#[]⟩).nU = 0 := by unfold defLv; rw [if_pos (by rw [ByteArray.toList_eq])]
  rw [e0]
  exact ⟨uA, uC, kA, kC, rfl, hb⟩
theorem default_ann (w : World) : Calls Try.prog 16 #[.string annB] w fun e w' => ∃ uA uC kA kC, e = .returned (.agg (lvc uA 1 uC kA 0 kC 0 0 0 0 50 50 50).toArray) ∧ Rws w' uA 1 uC 2 (rowU fun _ => (annB, 100)) ∧ Rws w' kA 0 kC 2 (rowK fun _ => (0, 0)) ∧ Below w.heap.size w w' := by
  refine (default27 annB w).mono ?_
  rintro e w' ⟨uA, uC, kA, kC, rfl, hU, hK, hb, _, _⟩
  have e0 : (defLv annB).nU = 1 := by unfold defLv; rw [if_neg (by rw [annL]; decide)]
  rw [e0] at hU ⊢
  exact ⟨uA, uC, kA, kC, rfl, hU, hK, hb⟩
theorem rows_none (w : World) (K : Nat → Int × Int) : Rws w none 0 0 2 (rowK K) := Rws.zero _ _ _ _ _ (fun _ => rfl)
theorem kinds_no {k : Int} {K : Nat → Int × Int} : ¬ k ∈ kinds K 0 ++ kinds K 0 := by simp [kinds]
theorem change_a (g : Nat) (w : World) (hG : Rws w (some ⟨g, 0, none⟩) 2 2 2 (rowU U2)) :
    Calls Try.prog 20 #[.agg (lvc (some ⟨g, 0, none⟩) 2 2 none 0 0 0 0 0 0 0 0 0).toArray, .agg (lvc (some ⟨g, 0, none⟩) 2 2 none 0 0 0 0 0 0 50 0 0).toArray, .string bobB] w fun e w' => e = .returned (.int .i64 0) ∧ Below w.heap.size w w' := by
  refine (change20 (some ⟨g, 0, none⟩) 2 2 none 0 0 0 0 0 0 0 0 0 (some ⟨g, 0, none⟩) 2 2 none 0 0 0 0 0 0 50 0 0 U2 U2 (fun _ => (0, 0)) (fun _ => (0, 0)) usF usF (fun _ => 0) (fun _ => 0) bobB w hG hG (rows_none _ _) (rows_none _ _) us2 us2 (fun k => need_zero _ k) (fun k => need_zero _ k) (by decide)).mono ?_
  rintro e w' ⟨h, hb⟩
  refine ⟨h.elim And.right fun h => absurd ?_ h.1, hb⟩
  refine ⟨fun j hj => ?_, fun k hk => absurd hk kinds_no, ?_⟩
  · rw [us2_bob]
    obtain rfl | rfl | rfl | rfl | rfl | rfl | rfl : j = 0 ∨ j = 1 ∨ j = 2 ∨ j = 3 ∨ j = 4 ∨ j = 5 ∨ j = 6 := by omega
    all_goals rfl
  · have hx : ∀ x : ByteArray, goodU usF usF bobB x = true := fun x => by unfold goodU mayU mayN; simp
    exact ⟨fun j _ => hx _, fun j _ => hx _⟩
theorem change_b (g : Nat) (w : World) (hG : Rws w (some ⟨g, 0, none⟩) 2 2 2 (rowU U2)) :
    Calls Try.prog 20 #[.agg (lvc (some ⟨g, 0, none⟩) 2 2 none 0 0 0 0 0 0 0 0 0).toArray, .agg (lvc (some ⟨g, 0, none⟩) 2 2 none 0 0 0 0 0 0 51 0 0).toArray, .string bobB] w fun e w' => e = .returned (.int .i64 20) ∧ Below w.heap.size w w' := by
  refine (change20 (some ⟨g, 0, none⟩) 2 2 none 0 0 0 0 0 0 0 0 0 (some ⟨g, 0, none⟩) 2 2 none 0 0 0 0 0 0 51 0 0 U2 U2 (fun _ => (0, 0)) (fun _ => (0, 0)) usF usF (fun _ => 0) (fun _ => 0) bobB w hG hG (rows_none _ _) (rows_none _ _) us2 us2 (fun k => need_zero _ k) (fun k => need_zero _ k) (by decide)).mono ?_
  rintro e w' ⟨h, hb⟩
  refine ⟨h.elim (fun h => absurd (h.1.nums 4 (by omega)) ?_) And.right, hb⟩
  rw [us2_bob]
  decide
theorem same_a (g : Nat) (w : World) (hG : Rws w (some ⟨g, 0, none⟩) 2 2 2 (rowU U2)) :
    Calls Try.prog 22 #[.agg (lvc (some ⟨g, 0, none⟩) 2 2 none 0 0 0 0 0 0 0 0 0).toArray, .agg (lvc (some ⟨g, 0, none⟩) 2 2 none 0 0 0 0 0 0 0 0 0).toArray] w fun e w' => e = .returned (.bool true) ∧ Below w.heap.size w w' :=
  (same22 (some ⟨g, 0, none⟩) 2 2 none 0 0 0 0 0 0 0 0 0 (some ⟨g, 0, none⟩) 2 2 none 0 0 0 0 0 0 0 0 0 U2 U2 (fun _ => (0, 0)) (fun _ => (0, 0)) true true w hG hG (rows_none _ _) (rows_none _ _)
    ⟨fun _ => ⟨rfl, fun j _ => by simp [eqU]⟩, fun _ => rfl⟩ ⟨fun _ => ⟨rfl, fun j _ => by simp [eqK]⟩, fun _ => rfl⟩).mono fun e w' h => ⟨h.1.trans rfl, h.2⟩
theorem same_b (g : Nat) (w : World) (hG : Rws w (some ⟨g, 0, none⟩) 2 2 2 (rowU U2)) :
    Calls Try.prog 22 #[.agg (lvc (some ⟨g, 0, none⟩) 2 2 none 0 0 0 0 0 0 0 0 0).toArray, .agg (lvc (some ⟨g, 0, none⟩) 2 2 none 0 0 0 0 0 0 50 0 0).toArray] w fun e w' => e = .returned (.bool false) ∧ Below w.heap.size w w' :=
  (same22 (some ⟨g, 0, none⟩) 2 2 none 0 0 0 0 0 0 0 0 0 (some ⟨g, 0, none⟩) 2 2 none 0 0 0 0 0 0 50 0 0 U2 U2 (fun _ => (0, 0)) (fun _ => (0, 0)) true true w hG hG (rows_none _ _) (rows_none _ _)
    ⟨fun _ => ⟨rfl, fun j _ => by simp [eqU]⟩, fun _ => rfl⟩ ⟨fun _ => ⟨rfl, fun j _ => by simp [eqK]⟩, fun _ => rfl⟩).mono fun e w' h => ⟨h.1.trans rfl, h.2⟩
abbrev W4 (w : World) : World := (((w.alloc (.cells #[.string annB, .int .i64 100, .string bobB, .int .i64 50] 51)).alloc (.cells (lvc (some ⟨w.heap.size, 0, none⟩) 2 2 none 0 0 0 0 0 0 0 0 0).toArray 25)).alloc (.cells (lvc (some ⟨w.heap.size, 0, none⟩) 2 2 none 0 0 0 0 0 0 50 0 0).toArray 25)).alloc (.cells (lvc (some ⟨w.heap.size, 0, none⟩) 2 2 none 0 0 0 0 0 0 51 0 0).toArray 25)
theorem w4_facts (w : World) : Blk (W4 w) w.heap.size [.string annB, .int .i64 100, .string bobB, .int .i64 50] 51 ∧ Blk (W4 w) (w.heap.size + 1) (lvc (some ⟨w.heap.size, 0, none⟩) 2 2 none 0 0 0 0 0 0 0 0 0) 25 ∧ Blk (W4 w) (w.heap.size + 1 + 1) (lvc (some ⟨w.heap.size, 0, none⟩) 2 2 none 0 0 0 0 0 0 50 0 0) 25 ∧
    Blk (W4 w) (w.heap.size + 1 + 1 + 1) (lvc (some ⟨w.heap.size, 0, none⟩) 2 2 none 0 0 0 0 0 0 51 0 0) 25 ∧ Below w.heap.size w (W4 w) := by
  refine ⟨((blk_at _ _ _ _ rfl).alloc _ |>.alloc _).alloc _, ((blk_at _ _ _ _ ?_).alloc _).alloc _, (blk_at _ _ _ _ ?_).alloc _, blk_at _ _ _ _ ?_, (((Below.alloc (Below.refl w.heap.size w) (Nat.le_refl _) _).alloc (by simp) _).alloc (by simp; omega) _).alloc (by simp; omega) _⟩
  all_goals simp
set_option maxHeartbeats 16000000 in
theorem awake10 (w : World) : Calls Try.prog 10 #[] w fun e w' => e = .returned (.bool true) ∧ Below w.heap.size w w' := by
  have HX := Lib.hid (w4_facts w)
  have tk1 : True := trivial
  have tk2 : True := trivial
  have tk3 : True := trivial
  have tk4 : True := trivial
  have tk5 : True := trivial
  have tk6 : True := trivial
  go_enter Try.func10, Try.ntmps10
  go_upto_region 6 with (fail)
  have HG := Lib.hid (two_users HX.out.1)
  have H1 := Lib.hid HX.out.2.1
  have H2 := Lib.hid HX.out.2.2.1
  have H3 := Lib.hid HX.out.2.2.2.1
  have HSz := Lib.hid HX.out.2.2.2.2
  clear HX
  generalize hw4 : W4 w = w4 at HG H1 H2 H3 HSz
  have hw5 : W4 w = w4 := hw4
  unfold W4 at hw5
  rw [hw5]
  clear hw4 hw5
  generalize hb3 : w.heap.size + 1 + 1 + 1 = b3 at H3 ⊢
  generalize hb2 : w.heap.size + 1 + 1 = b2 at H2 ⊢
  generalize hb1 : w.heap.size + 1 = b1 at H1 ⊢
  generalize hg : w.heap.size = g at HG H1 H2 H3 ⊢
  have HB := Lib.hid (Below.refl w4.heap.size w4)
  go_wp2_with (first
    | (go_at_call 18; refine (of_none _).mono ?_; rintro e0 w5 ⟨uA5, uC5, kA5, kC5, rfl, hb⟩; (first | have HBb := Lib.hid (HB.out.trans (hb.mono HB.out.size)) | have HBb := Lib.hid ((HB.out.alloc HB.out.size _).trans (hb.mono (Nat.le_trans HB.out.size (by simp))))); clear hb HB; have HB := HBb; clear HBb)
    | (go_at_call 16; have _t := tk1; refine (default_ann _).mono ?_; rintro e0 w6 ⟨uA6, uC6, kA6, kC6, rfl, hU6, hK6, hb⟩; (first | have HBb := Lib.hid (HB.out.trans (hb.mono HB.out.size)) | have HBb := Lib.hid ((HB.out.alloc HB.out.size _).trans (hb.mono (Nat.le_trans HB.out.size (by simp))))); clear hb HB; have HB := HBb; clear HBb; have HU6 := Lib.hid hU6; clear hU6 hK6 tk1)
    | (go_at_call 11; with_reducible refine (user21_is uA6 1 uC6 kA6 0 kC6 0 0 0 0 50 50 50 _ annB 100 _ HU6.out ann_only).mono ?_; rintro e0 w7 ⟨rfl, hb⟩; (first | have HBb := Lib.hid (HB.out.trans (hb.mono HB.out.size)) | have HBb := Lib.hid ((HB.out.alloc HB.out.size _).trans (hb.mono (Nat.le_trans HB.out.size (by simp))))); clear hb HB; have HB := HBb; clear HBb; clear HU6)
    | (go_at_call 16; have _t := tk2; refine (default_ann _).mono ?_; rintro e0 w6 ⟨uA6, uC6, kA6, kC6, rfl, hU6, hK6, hb⟩; (first | have HBb := Lib.hid (HB.out.trans (hb.mono HB.out.size)) | have HBb := Lib.hid ((HB.out.alloc HB.out.size _).trans (hb.mono (Nat.le_trans HB.out.size (by simp))))); clear hb HB; have HB := HBb; clear HBb; have HK6 := Lib.hid hK6; clear hU6 hK6 tk2)
    | (go_at_call 13; with_reducible refine (needs13 uA6 1 uC6 kA6 0 kC6 _ 0 0 0 0 50 50 50 7 0 _ HK6.out (need_zero _ _)).mono ?_; rintro e0 w7 ⟨rfl, hb⟩; (first | have HBb := Lib.hid (HB.out.trans (hb.mono HB.out.size)) | have HBb := Lib.hid ((HB.out.alloc HB.out.size _).trans (hb.mono (Nat.le_trans HB.out.size (by simp))))); clear hb HB; have HB := HBb; clear HBb; clear HK6; have T1 := H1.out.below HB.out; have k10 := T1.cell (i := 0) rfl; have k11 := T1.cell (i := 1) rfl; have k12 := T1.cell (i := 2) rfl; have k13 := T1.cell (i := 3) rfl; have k14 := T1.cell (i := 4) rfl; have k15 := T1.cell (i := 5) rfl; have k16 := T1.cell (i := 6) rfl; have k17 := T1.cell (i := 7) rfl; have k18 := T1.cell (i := 8) rfl; clear T1)
    | (go_at_call 11; with_reducible refine (user21_is (some ⟨g, 0, none⟩) 2 2 none 0 0 0 0 0 0 0 0 0 U2 bobB 50 _ (HG.out.below HB.out) (us2_bob ▸ us2 bobB)).mono ?_; rintro e0 w8 ⟨rfl, hb⟩; (first | have HBb := Lib.hid (HB.out.trans (hb.mono HB.out.size)) | have HBb := Lib.hid ((HB.out.alloc HB.out.size _).trans (hb.mono (Nat.le_trans HB.out.size (by simp))))); clear hb HB; have HB := HBb; clear HBb; clear k10 k11 k12 k13 k14 k15 k16 k17 k18; have T1 := H1.out.below HB.out; have k10 := T1.cell (i := 0) rfl; have k11 := T1.cell (i := 1) rfl; have k12 := T1.cell (i := 2) rfl; have k13 := T1.cell (i := 3) rfl; have k14 := T1.cell (i := 4) rfl; have k15 := T1.cell (i := 5) rfl; have k16 := T1.cell (i := 6) rfl; have k17 := T1.cell (i := 7) rfl; have k18 := T1.cell (i := 8) rfl; clear T1; have T2 := H2.out.below HB.out; have k20 := T2.cell (i := 0) rfl; have k21 := T2.cell (i := 1) rfl; have k22 := T2.cell (i := 2) rfl; have k23 := T2.cell (i := 3) rfl; have k24 := T2.cell (i := 4) rfl; have k25 := T2.cell (i := 5) rfl; have k26 := T2.cell (i := 6) rfl; have k27 := T2.cell (i := 7) rfl; have k28 := T2.cell (i := 8) rfl; clear T2)
    | (go_at_call 20; have _t := tk3; refine (change_a g _ (HG.out.below HB.out)).mono ?_; rintro e0 w8 ⟨rfl, hb⟩; (first | have HBb := Lib.hid (HB.out.trans (hb.mono HB.out.size)) | have HBb := Lib.hid ((HB.out.alloc HB.out.size _).trans (hb.mono (Nat.le_trans HB.out.size (by simp))))); clear hb HB; have HB := HBb; clear HBb; clear k10 k11 k12 k13 k14 k15 k16 k17 k18; clear k20 k21 k22 k23 k24 k25 k26 k27 k28; have T1 := H1.out.below HB.out; have k10 := T1.cell (i := 0) rfl; have k11 := T1.cell (i := 1) rfl; have k12 := T1.cell (i := 2) rfl; have k13 := T1.cell (i := 3) rfl; have k14 := T1.cell (i := 4) rfl; have k15 := T1.cell (i := 5) rfl; have k16 := T1.cell (i := 6) rfl; have k17 := T1.cell (i := 7) rfl; have k18 := T1.cell (i := 8) rfl; clear T1; have T3 := H3.out.below HB.out; have k30 := T3.cell (i := 0) rfl; have k31 := T3.cell (i := 1) rfl; have k32 := T3.cell (i := 2) rfl; have k33 := T3.cell (i := 3) rfl; have k34 := T3.cell (i := 4) rfl; have k35 := T3.cell (i := 5) rfl; have k36 := T3.cell (i := 6) rfl; have k37 := T3.cell (i := 7) rfl; have k38 := T3.cell (i := 8) rfl; clear T3; clear tk3)
    | (go_at_call 20; have _t := tk4; refine (change_b g _ (HG.out.below HB.out)).mono ?_; rintro e0 w8 ⟨rfl, hb⟩; (first | have HBb := Lib.hid (HB.out.trans (hb.mono HB.out.size)) | have HBb := Lib.hid ((HB.out.alloc HB.out.size _).trans (hb.mono (Nat.le_trans HB.out.size (by simp))))); clear hb HB; have HB := HBb; clear HBb; clear k10 k11 k12 k13 k14 k15 k16 k17 k18; clear k30 k31 k32 k33 k34 k35 k36 k37 k38; have T1 := H1.out.below HB.out; have k10 := T1.cell (i := 0) rfl; have k11 := T1.cell (i := 1) rfl; have k12 := T1.cell (i := 2) rfl; have k13 := T1.cell (i := 3) rfl; have k14 := T1.cell (i := 4) rfl; have k15 := T1.cell (i := 5) rfl; have k16 := T1.cell (i := 6) rfl; have k17 := T1.cell (i := 7) rfl; have k18 := T1.cell (i := 8) rfl; clear T1; clear tk4)
    | (go_at_call 22; have _t := tk5; refine (same_a g _ (HG.out.below HB.out)).mono ?_; rintro e0 w8 ⟨rfl, hb⟩; (first | have HBb := Lib.hid (HB.out.trans (hb.mono HB.out.size)) | have HBb := Lib.hid ((HB.out.alloc HB.out.size _).trans (hb.mono (Nat.le_trans HB.out.size (by simp))))); clear hb HB; have HB := HBb; clear HBb; clear k10 k11 k12 k13 k14 k15 k16 k17 k18; have T1 := H1.out.below HB.out; have k10 := T1.cell (i := 0) rfl; have k11 := T1.cell (i := 1) rfl; have k12 := T1.cell (i := 2) rfl; have k13 := T1.cell (i := 3) rfl; have k14 := T1.cell (i := 4) rfl; have k15 := T1.cell (i := 5) rfl; have k16 := T1.cell (i := 6) rfl; have k17 := T1.cell (i := 7) rfl; have k18 := T1.cell (i := 8) rfl; clear T1; have T2 := H2.out.below HB.out; have k20 := T2.cell (i := 0) rfl; have k21 := T2.cell (i := 1) rfl; have k22 := T2.cell (i := 2) rfl; have k23 := T2.cell (i := 3) rfl; have k24 := T2.cell (i := 4) rfl; have k25 := T2.cell (i := 5) rfl; have k26 := T2.cell (i := 6) rfl; have k27 := T2.cell (i := 7) rfl; have k28 := T2.cell (i := 8) rfl; clear T2; clear tk5)
    | (go_at_call 22; have _t := tk6; refine (same_b g _ (HG.out.below HB.out)).mono ?_; rintro e0 w8 ⟨rfl, hb⟩; (first | have HBb := Lib.hid (HB.out.trans (hb.mono HB.out.size)) | have HBb := Lib.hid ((HB.out.alloc HB.out.size _).trans (hb.mono (Nat.le_trans HB.out.size (by simp))))); clear hb HB; have HB := HBb; clear HBb; clear k10 k11 k12 k13 k14 k15 k16 k17 k18; clear k20 k21 k22 k23 k24 k25 k26 k27 k28; clear tk6))
  go_ret
  exact ⟨rfl, HSz.out.trans (HB.out.mono HSz.out.size)⟩
end Go.Proofs.Ythhmbcelicfopaa
