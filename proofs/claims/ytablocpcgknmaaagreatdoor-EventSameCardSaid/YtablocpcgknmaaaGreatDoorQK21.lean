/- The reference's stripping. No condition. -/
import Derived.Test.YtablocpcgknmaaaGreatDoorQK20
namespace Go.Proofs.YtablocpcgknmaaaGreatDoor
open Go.Lib (hid)
open Go Go.RowKit
set_option linter.unusedVariables false
set_option linter.unusedSimpArgs false
set_option maxRecDepth 100000

theorem tk1_0 : hasB (kpT 1) ((0 : Nat) : Int) = true := by kernel_rfl
theorem tk1_1 : hasB (kpT 1) ((1 : Nat) : Int) = true := by kernel_rfl
theorem tk1_2 : hasB (kpT 1) ((2 : Nat) : Int) = true := by kernel_rfl
theorem tk1_3 : hasB (kpT 1) ((3 : Nat) : Int) = true := by kernel_rfl
theorem tk1_4 : hasB (kpT 1) ((4 : Nat) : Int) = true := by kernel_rfl
theorem tk1_5 : hasB (kpT 1) ((5 : Nat) : Int) = true := by kernel_rfl
theorem tk1_6 : hasB (kpT 1) ((6 : Nat) : Int) = true := by kernel_rfl
theorem tk1_7 : hasB (kpT 1) ((7 : Nat) : Int) = true := by kernel_rfl
theorem tk2_0 : hasB (kpT 2) ((0 : Nat) : Int) = false := by kernel_rfl
theorem tk2_1 : hasB (kpT 2) ((1 : Nat) : Int) = true := by kernel_rfl
theorem tk2_2 : hasB (kpT 2) ((2 : Nat) : Int) = false := by kernel_rfl
theorem tk2_3 : hasB (kpT 2) ((3 : Nat) : Int) = false := by kernel_rfl
theorem tk2_4 : hasB (kpT 2) ((4 : Nat) : Int) = true := by kernel_rfl
theorem tk2_5 : hasB (kpT 2) ((5 : Nat) : Int) = false := by kernel_rfl
theorem tk2_6 : hasB (kpT 2) ((6 : Nat) : Int) = false := by kernel_rfl
theorem tk2_7 : hasB (kpT 2) ((7 : Nat) : Int) = false := by kernel_rfl
theorem tk3_0 : hasB (kpT 3) ((0 : Nat) : Int) = false := by kernel_rfl
theorem tk3_1 : hasB (kpT 3) ((1 : Nat) : Int) = false := by kernel_rfl
theorem tk3_2 : hasB (kpT 3) ((2 : Nat) : Int) = false := by kernel_rfl
theorem tk3_3 : hasB (kpT 3) ((3 : Nat) : Int) = false := by kernel_rfl
theorem tk3_4 : hasB (kpT 3) ((4 : Nat) : Int) = false := by kernel_rfl
theorem tk3_5 : hasB (kpT 3) ((5 : Nat) : Int) = false := by kernel_rfl
theorem tk3_6 : hasB (kpT 3) ((6 : Nat) : Int) = false := by kernel_rfl
theorem tk3_7 : hasB (kpT 3) ((7 : Nat) : Int) = true := by kernel_rfl
theorem tk4_0 : hasB (kpT 4) ((0 : Nat) : Int) = false := by kernel_rfl
theorem tk4_1 : hasB (kpT 4) ((1 : Nat) : Int) = true := by kernel_rfl
theorem tk4_2 : hasB (kpT 4) ((2 : Nat) : Int) = false := by kernel_rfl
theorem tk4_3 : hasB (kpT 4) ((3 : Nat) : Int) = false := by kernel_rfl
theorem tk4_4 : hasB (kpT 4) ((4 : Nat) : Int) = false := by kernel_rfl
theorem tk4_5 : hasB (kpT 4) ((5 : Nat) : Int) = true := by kernel_rfl
theorem tk4_6 : hasB (kpT 4) ((6 : Nat) : Int) = false := by kernel_rfl
theorem tk4_7 : hasB (kpT 4) ((7 : Nat) : Int) = false := by kernel_rfl
theorem tk5_0 : hasB (kpT 5) ((0 : Nat) : Int) = false := by kernel_rfl
theorem tk5_1 : hasB (kpT 5) ((1 : Nat) : Int) = true := by kernel_rfl
theorem tk5_2 : hasB (kpT 5) ((2 : Nat) : Int) = false := by kernel_rfl
theorem tk5_3 : hasB (kpT 5) ((3 : Nat) : Int) = false := by kernel_rfl
theorem tk5_4 : hasB (kpT 5) ((4 : Nat) : Int) = false := by kernel_rfl
theorem tk5_5 : hasB (kpT 5) ((5 : Nat) : Int) = false := by kernel_rfl
theorem tk5_6 : hasB (kpT 5) ((6 : Nat) : Int) = false := by kernel_rfl
theorem tk5_7 : hasB (kpT 5) ((7 : Nat) : Int) = false := by kernel_rfl
theorem tk6_0 : hasB (kpT 6) ((0 : Nat) : Int) = false := by kernel_rfl
theorem tk6_1 : hasB (kpT 6) ((1 : Nat) : Int) = false := by kernel_rfl
theorem tk6_2 : hasB (kpT 6) ((2 : Nat) : Int) = false := by kernel_rfl
theorem tk6_3 : hasB (kpT 6) ((3 : Nat) : Int) = false := by kernel_rfl
theorem tk6_4 : hasB (kpT 6) ((4 : Nat) : Int) = false := by kernel_rfl
theorem tk6_5 : hasB (kpT 6) ((5 : Nat) : Int) = true := by kernel_rfl
theorem tk6_6 : hasB (kpT 6) ((6 : Nat) : Int) = true := by kernel_rfl
theorem tk6_7 : hasB (kpT 6) ((7 : Nat) : Int) = false := by kernel_rfl
theorem tk14_0 : hasB (kpT 14) ((0 : Nat) : Int) = false := by kernel_rfl
theorem tk14_1 : hasB (kpT 14) ((1 : Nat) : Int) = false := by kernel_rfl
theorem tk14_2 : hasB (kpT 14) ((2 : Nat) : Int) = true := by kernel_rfl
theorem tk14_3 : hasB (kpT 14) ((3 : Nat) : Int) = false := by kernel_rfl
theorem tk14_4 : hasB (kpT 14) ((4 : Nat) : Int) = false := by kernel_rfl
theorem tk14_5 : hasB (kpT 14) ((5 : Nat) : Int) = false := by kernel_rfl
theorem tk14_6 : hasB (kpT 14) ((6 : Nat) : Int) = false := by kernel_rfl
theorem tk14_7 : hasB (kpT 14) ((7 : Nat) : Int) = false := by kernel_rfl
theorem st_1 (tx via : ByteArray) (n tg : Int) (th : Bool) (al dn : List ByteArray) (us : List (ByteArray × Int)) (ks : List (Int × Int)) (d x3 x4 x5 x6 x7 x8 : Int) : strip 1 ⟨tx, n, tg, th, via, al, dn, us, ks, d, x3, x4, x5, x6, x7, x8⟩ = ⟨tx, n, tg, th, via, al, dn, us, ks, d, x3, x4, x5, x6, x7, x8⟩ := by
 have g : ∀ i, i < 8 → gB (kpT 1) 8 i = hasB (kpT 1) (i : Int) := fun i hi => by unfold gB; rw [decide_eq_true hi, Bool.true_and]
 unfold strip
 rw [if_pos (show kdB 1 = true from rfl)]
 unfold kc
 simp only [g _ (show 0 < 8 by decide), g _ (show 1 < 8 by decide), g _ (show 2 < 8 by decide), g _ (show 3 < 8 by decide), g _ (show 4 < 8 by decide), g _ (show 5 < 8 by decide), g _ (show 6 < 8 by decide), g _ (show 7 < 8 by decide), tk1_0, tk1_1, tk1_2, tk1_3, tk1_4, tk1_5, tk1_6, tk1_7, if_true, Bool.false_eq_true, if_false]
theorem st_2 (tx via : ByteArray) (n tg : Int) (th : Bool) (al dn : List ByteArray) (us : List (ByteArray × Int)) (ks : List (Int × Int)) (d x3 x4 x5 x6 x7 x8 : Int) : strip 2 ⟨tx, n, tg, th, via, al, dn, us, ks, d, x3, x4, x5, x6, x7, x8⟩ = ⟨⟨#[]⟩, n, 0, false, via, [], [], [], [], 0, 0, 0, 0, 0, 0, 0⟩ := by
 have g : ∀ i, i < 8 → gB (kpT 2) 8 i = hasB (kpT 2) (i : Int) := fun i hi => by unfold gB; rw [decide_eq_true hi, Bool.true_and]
 unfold strip
 rw [if_pos (show kdB 2 = true from rfl)]
 unfold kc
 simp only [g _ (show 0 < 8 by decide), g _ (show 1 < 8 by decide), g _ (show 2 < 8 by decide), g _ (show 3 < 8 by decide), g _ (show 4 < 8 by decide), g _ (show 5 < 8 by decide), g _ (show 6 < 8 by decide), g _ (show 7 < 8 by decide), tk2_0, tk2_1, tk2_2, tk2_3, tk2_4, tk2_5, tk2_6, tk2_7, if_true, Bool.false_eq_true, if_false]
theorem st_3 (tx via : ByteArray) (n tg : Int) (th : Bool) (al dn : List ByteArray) (us : List (ByteArray × Int)) (ks : List (Int × Int)) (d x3 x4 x5 x6 x7 x8 : Int) : strip 3 ⟨tx, n, tg, th, via, al, dn, us, ks, d, x3, x4, x5, x6, x7, x8⟩ = ⟨⟨#[]⟩, 0, 0, false, ⟨#[]⟩, [], [], us, ks, d, x3, x4, x5, x6, x7, x8⟩ := by
 have g : ∀ i, i < 8 → gB (kpT 3) 8 i = hasB (kpT 3) (i : Int) := fun i hi => by unfold gB; rw [decide_eq_true hi, Bool.true_and]
 unfold strip
 rw [if_pos (show kdB 3 = true from rfl)]
 unfold kc
 simp only [g _ (show 0 < 8 by decide), g _ (show 1 < 8 by decide), g _ (show 2 < 8 by decide), g _ (show 3 < 8 by decide), g _ (show 4 < 8 by decide), g _ (show 5 < 8 by decide), g _ (show 6 < 8 by decide), g _ (show 7 < 8 by decide), tk3_0, tk3_1, tk3_2, tk3_3, tk3_4, tk3_5, tk3_6, tk3_7, if_true, Bool.false_eq_true, if_false]
theorem st_4 (tx via : ByteArray) (n tg : Int) (th : Bool) (al dn : List ByteArray) (us : List (ByteArray × Int)) (ks : List (Int × Int)) (d x3 x4 x5 x6 x7 x8 : Int) : strip 4 ⟨tx, n, tg, th, via, al, dn, us, ks, d, x3, x4, x5, x6, x7, x8⟩ = ⟨⟨#[]⟩, n, 0, false, ⟨#[]⟩, al, [], [], [], 0, 0, 0, 0, 0, 0, 0⟩ := by
 have g : ∀ i, i < 8 → gB (kpT 4) 8 i = hasB (kpT 4) (i : Int) := fun i hi => by unfold gB; rw [decide_eq_true hi, Bool.true_and]
 unfold strip
 rw [if_pos (show kdB 4 = true from rfl)]
 unfold kc
 simp only [g _ (show 0 < 8 by decide), g _ (show 1 < 8 by decide), g _ (show 2 < 8 by decide), g _ (show 3 < 8 by decide), g _ (show 4 < 8 by decide), g _ (show 5 < 8 by decide), g _ (show 6 < 8 by decide), g _ (show 7 < 8 by decide), tk4_0, tk4_1, tk4_2, tk4_3, tk4_4, tk4_5, tk4_6, tk4_7, if_true, Bool.false_eq_true, if_false]
theorem st_5 (tx via : ByteArray) (n tg : Int) (th : Bool) (al dn : List ByteArray) (us : List (ByteArray × Int)) (ks : List (Int × Int)) (d x3 x4 x5 x6 x7 x8 : Int) : strip 5 ⟨tx, n, tg, th, via, al, dn, us, ks, d, x3, x4, x5, x6, x7, x8⟩ = ⟨⟨#[]⟩, n, 0, false, ⟨#[]⟩, [], [], [], [], 0, 0, 0, 0, 0, 0, 0⟩ := by
 have g : ∀ i, i < 8 → gB (kpT 5) 8 i = hasB (kpT 5) (i : Int) := fun i hi => by unfold gB; rw [decide_eq_true hi, Bool.true_and]
 unfold strip
 rw [if_pos (show kdB 5 = true from rfl)]
 unfold kc
 simp only [g _ (show 0 < 8 by decide), g _ (show 1 < 8 by decide), g _ (show 2 < 8 by decide), g _ (show 3 < 8 by decide), g _ (show 4 < 8 by decide), g _ (show 5 < 8 by decide), g _ (show 6 < 8 by decide), g _ (show 7 < 8 by decide), tk5_0, tk5_1, tk5_2, tk5_3, tk5_4, tk5_5, tk5_6, tk5_7, if_true, Bool.false_eq_true, if_false]
theorem st_6 (tx via : ByteArray) (n tg : Int) (th : Bool) (al dn : List ByteArray) (us : List (ByteArray × Int)) (ks : List (Int × Int)) (d x3 x4 x5 x6 x7 x8 : Int) : strip 6 ⟨tx, n, tg, th, via, al, dn, us, ks, d, x3, x4, x5, x6, x7, x8⟩ = ⟨⟨#[]⟩, 0, 0, false, ⟨#[]⟩, al, dn, [], [], 0, 0, 0, 0, 0, 0, 0⟩ := by
 have g : ∀ i, i < 8 → gB (kpT 6) 8 i = hasB (kpT 6) (i : Int) := fun i hi => by unfold gB; rw [decide_eq_true hi, Bool.true_and]
 unfold strip
 rw [if_pos (show kdB 6 = true from rfl)]
 unfold kc
 simp only [g _ (show 0 < 8 by decide), g _ (show 1 < 8 by decide), g _ (show 2 < 8 by decide), g _ (show 3 < 8 by decide), g _ (show 4 < 8 by decide), g _ (show 5 < 8 by decide), g _ (show 6 < 8 by decide), g _ (show 7 < 8 by decide), tk6_0, tk6_1, tk6_2, tk6_3, tk6_4, tk6_5, tk6_6, tk6_7, if_true, Bool.false_eq_true, if_false]
theorem st_14 (tx via : ByteArray) (n tg : Int) (th : Bool) (al dn : List ByteArray) (us : List (ByteArray × Int)) (ks : List (Int × Int)) (d x3 x4 x5 x6 x7 x8 : Int) : strip 14 ⟨tx, n, tg, th, via, al, dn, us, ks, d, x3, x4, x5, x6, x7, x8⟩ = ⟨⟨#[]⟩, 0, tg, false, ⟨#[]⟩, [], [], [], [], 0, 0, 0, 0, 0, 0, 0⟩ := by
 have g : ∀ i, i < 8 → gB (kpT 14) 8 i = hasB (kpT 14) (i : Int) := fun i hi => by unfold gB; rw [decide_eq_true hi, Bool.true_and]
 unfold strip
 rw [if_pos (show kdB 14 = true from rfl)]
 unfold kc
 simp only [g _ (show 0 < 8 by decide), g _ (show 1 < 8 by decide), g _ (show 2 < 8 by decide), g _ (show 3 < 8 by decide), g _ (show 4 < 8 by decide), g _ (show 5 < 8 by decide), g _ (show 6 < 8 by decide), g _ (show 7 < 8 by decide), tk14_0, tk14_1, tk14_2, tk14_3, tk14_4, tk14_5, tk14_6, tk14_7, if_true, Bool.false_eq_true, if_false]
theorem sz0 : (⟨#[]⟩ : ByteArray).size ≤ 9223372036854775807 := by decide
theorem in0 : i64B 0 := by unfold i64B; decide
theorem tz0 : hasB 0 ((0 : Nat) : Int) = false := by kernel_rfl
theorem tz1 : hasB 0 ((1 : Nat) : Int) = false := by kernel_rfl
theorem tz2 : hasB 0 ((2 : Nat) : Int) = false := by kernel_rfl
theorem tz3 : hasB 0 ((3 : Nat) : Int) = false := by kernel_rfl
theorem tz4 : hasB 0 ((4 : Nat) : Int) = false := by kernel_rfl
theorem tz5 : hasB 0 ((5 : Nat) : Int) = false := by kernel_rfl
theorem tz6 : hasB 0 ((6 : Nat) : Int) = false := by kernel_rfl
theorem tz7 : hasB 0 ((7 : Nat) : Int) = false := by kernel_rfl
theorem kpT_none {k : Int} (hk : kdB k = true) (h1 : ¬ k = 1) (h2 : ¬ k = 2) (h3 : ¬ k = 3) (h4 : ¬ k = 4) (h5 : ¬ k = 5) (h6 : ¬ k = 6) (h14 : ¬ k = 14) : kpT k = 0 := by
 have := of_decide_eq_true hk
 rcases (show k = 7 ∨ k = 8 ∨ k = 9 ∨ k = 10 ∨ k = 11 ∨ k = 12 ∨ k = 13 by omega) with rfl | rfl | rfl | rfl | rfl | rfl | rfl <;> rfl
theorem strip_none {k : Int} (h1 : ¬ k = 1) (h2 : ¬ k = 2) (h3 : ¬ k = 3) (h4 : ¬ k = 4) (h5 : ¬ k = 5) (h6 : ¬ k = 6) (h14 : ¬ k = 14) (C : Cn) : strip k C = c0 := by
 unfold strip
 by_cases hk : kdB k = true
 ·rw [if_pos hk, kpT_none hk h1 h2 h3 h4 h5 h6 h14]
  have g : ∀ i, i < 8 → gB 0 8 i = false := fun i hi => by
   unfold gB
   rw [decide_eq_true hi, Bool.true_and]
   match i, hi with
   | 0, _ => exact tz0
   | 1, _ => exact tz1
   | 2, _ => exact tz2
   | 3, _ => exact tz3
   | 4, _ => exact tz4
   | 5, _ => exact tz5
   | 6, _ => exact tz6
   | 7, _ => exact tz7
  unfold kc
  simp only [g 0 (by decide), g 1 (by decide), g 2 (by decide), g 3 (by decide), g 4 (by decide), g 5 (by decide), g 6 (by decide), g 7 (by decide), Bool.false_eq_true, if_false]
  rfl
 ·rw [if_neg hk]
set_option maxHeartbeats 16000000 in
theorem rstrip22 (k : Int) (C : Cn) (a : Ads) (w : World) (h : IsC w C a) : Calls Tryz.prog 36 #[.int .i64 k, .agg (ccs C a).toArray] w (StS C a (strip k C) w) := by
 unfold StS
 have HI0 := hid h
 clear h
 obtain ⟨tx, n, tg, th, via, al, dn, us, ks, d, x3, x4, x5, x6, x7, x8⟩ := C
 obtain ⟨aA, aC, dA, dC, uA, uC, kA, kC⟩ := a
 have BA := hid (((Below.refl w.heap.size w).alloc (Nat.le_refl _) (.cells #[.string tx, .int .i64 n, .int .i64 tg, .bool th, .string via, .slice aA al.length aC, .slice dA dn.length dC, .slice uA us.length uC, .slice kA ks.length kC, .int .i64 d, .int .i64 x3, .int .i64 x4, .int .i64 x5, .int .i64 x6, .int .i64 x7, .int .i64 x8] 30)).alloc (by simp) (.cells #[.string ⟨#[]⟩, .int .i64 0, .int .i64 0, .bool false, .string ⟨#[]⟩, .slice none 0 0, .slice none 0 0, .slice none 0 0, .slice none 0 0, .int .i64 0, .int .i64 0, .int .i64 0, .int .i64 0, .int .i64 0, .int .i64 0, .int .i64 0] 30))
 have XA := hid ((blk_new w [.string tx, .int .i64 n, .int .i64 tg, .bool th, .string via, .slice aA al.length aC, .slice dA dn.length dC, .slice uA us.length uC, .slice kA ks.length kC, .int .i64 d, .int .i64 x3, .int .i64 x4, .int .i64 x5, .int .i64 x6, .int .i64 x7, .int .i64 x8] 30).alloc (.cells #[.string ⟨#[]⟩, .int .i64 0, .int .i64 0, .bool false, .string ⟨#[]⟩, .slice none 0 0, .slice none 0 0, .slice none 0 0, .slice none 0 0, .int .i64 0, .int .i64 0, .int .i64 0, .int .i64 0, .int .i64 0, .int .i64 0, .int .i64 0] 30))
 have RA := hid (blk_new2 w (.cells #[.string tx, .int .i64 n, .int .i64 tg, .bool th, .string via, .slice aA al.length aC, .slice dA dn.length dC, .slice uA us.length uC, .slice kA ks.length kC, .int .i64 d, .int .i64 x3, .int .i64 x4, .int .i64 x5, .int .i64 x6, .int .i64 x7, .int .i64 x8] 30) [.string ⟨#[]⟩, .int .i64 0, .int .i64 0, .bool false, .string ⟨#[]⟩, .slice none 0 0, .slice none 0 0, .slice none 0 0, .slice none 0 0, .int .i64 0, .int .i64 0, .int .i64 0, .int .i64 0, .int .i64 0, .int .i64 0, .int .i64 0] 30)
 show Calls Tryz.prog 36 #[.int .i64 k, .agg #[.string tx, .int .i64 n, .int .i64 tg, .bool th, .string via, .slice aA al.length aC, .slice dA dn.length dC, .slice uA us.length uC, .slice kA ks.length kC, .int .i64 d, .int .i64 x3, .int .i64 x4, .int .i64 x5, .int .i64 x6, .int .i64 x7, .int .i64 x8]] w _
 generalize hW : (w.alloc (.cells #[.string tx, .int .i64 n, .int .i64 tg, .bool th, .string via, .slice aA al.length aC, .slice dA dn.length dC, .slice uA us.length uC, .slice kA ks.length kC, .int .i64 d, .int .i64 x3, .int .i64 x4, .int .i64 x5, .int .i64 x6, .int .i64 x7, .int .i64 x8] 30)).alloc (.cells #[.string ⟨#[]⟩, .int .i64 0, .int .i64 0, .bool false, .string ⟨#[]⟩, .slice none 0 0, .slice none 0 0, .slice none 0 0, .slice none 0 0, .int .i64 0, .int .i64 0, .int .i64 0, .int .i64 0, .int .i64 0, .int .i64 0, .int .i64 0] 30) = WA at BA XA RA
 have y1 := XA.out.cell (i := 1) rfl
 have y2 := XA.out.cell (i := 2) rfl
 have y4 := XA.out.cell (i := 4) rfl
 have y5 := XA.out.cell (i := 5) rfl
 have y6 := XA.out.cell (i := 6) rfl
 by_cases h1 : k = 1
 ·subst h1
  have HS := hid (st_1 tx via n tg th al dn us ks d x3 x4 x5 x6 x7 x8)
  generalize strip 1 ⟨tx, n, tg, th, via, al, dn, us, ks, d, x3, x4, x5, x6, x7, x8⟩ = r at HS ⊢
  go_enter Tryz.func36, Tryz.ntmps36
  go_wp2_with (first
   | (refine wpList_load_mid rfl 30 _ rfl w.heap.size 0 rfl [.string tx, .int .i64 n, .int .i64 tg, .bool th, .string via, .slice aA al.length aC, .slice dA dn.length dC, .slice uA us.length uC, .slice kA ks.length kC, .int .i64 d, .int .i64 x3, .int .i64 x4, .int .i64 x5, .int .i64 x6, .int .i64 x7, .int .i64 x8] _ XA.out.range Tryz.underlying30 rfl size29 ?_)
   | (refine wpList_load_mid rfl 28 _ rfl w.heap.size 7 rfl [.slice uA us.length uC, .slice kA ks.length kC, .int .i64 d, .int .i64 x3, .int .i64 x4, .int .i64 x5, .int .i64 x6, .int .i64 x7, .int .i64 x8] _ (XA.out.mid 7 9) Tryz.underlying28 rfl size27 ?_)
   | (refine store_mid_as rfl 30 _ _ rfl (w.heap.size + 1) 0 (#[.string tx, .int .i64 n, .int .i64 tg, .bool th, .string via, .slice aA al.length aC, .slice dA dn.length dC, .slice uA us.length uC, .slice kA ks.length kC, .int .i64 d, .int .i64 x3, .int .i64 x4, .int .i64 x5, .int .i64 x6, .int .i64 x7, .int .i64 x8] : Array Value) rfl rfl (Blk.there (n := 16) RA.out (Nat.le_refl 16)) size29 (by simp [Value.oneCell']) ?_; intro wz ez; have EZ := hid ez; clear ez)
   | fail)
  (try simp only [Exit.inBlock, Exit.then])
  have BZ := hid (show Below w.heap.size w wz by rw [EZ.out]; exact below_setAll (Nat.le_succ _) _ _ _ BA.out)
  have IZ := hid (HI0.out.below BZ.out)
  refine bodyPost_ret (results_cell_mid rfl _ _ (w.heap.size + 1) [.string tx, .int .i64 n, .int .i64 tg, .bool th, .string via, .slice aA al.length aC, .slice dA dn.length dC, .slice uA us.length uC, .slice kA ks.length kC, .int .i64 d, .int .i64 x3, .int .i64 x4, .int .i64 x5, .int .i64 x6, .int .i64 x7, .int .i64 x8] 30 _ rfl (by rw [EZ.out]; exact Blk.setAll RA.out _ rfl) Tryz.underlying30 rfl size29) rfl ?_
  rw [HS.out]
  exact ⟨⟨aA, aC, dA, dC, uA, uC, kA, kC⟩, rfl, ⟨IZ.out.al, IZ.out.dn, IZ.out.lv, IZ.out.tx, IZ.out.via, IZ.out.n, IZ.out.tg⟩, BZ.out, fun g hg => ⟨by first | exact hg.al | (intro h0; exact absurd h0 (Nat.lt_irrefl 0)), by first | exact hg.dn | (intro h0; exact absurd h0 (Nat.lt_irrefl 0)), by first | exact hg.us | (intro h0; exact absurd h0 (Nat.lt_irrefl 0)), by first | exact hg.ks | (intro h0; exact absurd h0 (Nat.lt_irrefl 0))⟩⟩
 have e1 : (k == 1) = false := by simpa using h1
 by_cases h2 : k = 2
 ·subst h2
  have HS := hid (st_2 tx via n tg th al dn us ks d x3 x4 x5 x6 x7 x8)
  generalize strip 2 ⟨tx, n, tg, th, via, al, dn, us, ks, d, x3, x4, x5, x6, x7, x8⟩ = r at HS ⊢
  go_enter Tryz.func36, Tryz.ntmps36
  go_wp2_with (first
   | (refine wpList_load_mid rfl 30 _ rfl w.heap.size 0 rfl [.string tx, .int .i64 n, .int .i64 tg, .bool th, .string via, .slice aA al.length aC, .slice dA dn.length dC, .slice uA us.length uC, .slice kA ks.length kC, .int .i64 d, .int .i64 x3, .int .i64 x4, .int .i64 x5, .int .i64 x6, .int .i64 x7, .int .i64 x8] _ XA.out.range Tryz.underlying30 rfl size29 ?_)
   | (refine wpList_load_mid rfl 28 _ rfl w.heap.size 7 rfl [.slice uA us.length uC, .slice kA ks.length kC, .int .i64 d, .int .i64 x3, .int .i64 x4, .int .i64 x5, .int .i64 x6, .int .i64 x7, .int .i64 x8] _ (XA.out.mid 7 9) Tryz.underlying28 rfl size27 ?_)
   | (refine store_mid_as rfl 30 _ _ rfl (w.heap.size + 1) 0 (#[.string ⟨#[]⟩, .int .i64 n, .int .i64 0, .bool false, .string via, .slice none 0 0, .slice none 0 0, .slice none 0 0, .slice none 0 0, .int .i64 0, .int .i64 0, .int .i64 0, .int .i64 0, .int .i64 0, .int .i64 0, .int .i64 0] : Array Value) rfl rfl (Blk.there (n := 16) RA.out (Nat.le_refl 16)) size29 (by simp [Value.oneCell']) ?_; intro wz ez; have EZ := hid ez; clear ez)
   | fail)
  (try simp only [Exit.inBlock, Exit.then])
  have BZ := hid (show Below w.heap.size w wz by rw [EZ.out]; exact below_setAll (Nat.le_succ _) _ _ _ BA.out)
  have IZ := hid (HI0.out.below BZ.out)
  refine bodyPost_ret (results_cell_mid rfl _ _ (w.heap.size + 1) [.string ⟨#[]⟩, .int .i64 n, .int .i64 0, .bool false, .string via, .slice none 0 0, .slice none 0 0, .slice none 0 0, .slice none 0 0, .int .i64 0, .int .i64 0, .int .i64 0, .int .i64 0, .int .i64 0, .int .i64 0, .int .i64 0] 30 _ rfl (by rw [EZ.out]; exact Blk.setAll RA.out _ rfl) Tryz.underlying30 rfl size29) rfl ?_
  rw [HS.out]
  exact ⟨⟨none, 0, none, 0, none, 0, none, 0⟩, rfl, ⟨Txs.nil _, Txs.nil _, zero_isL _, sz0, IZ.out.via, IZ.out.n, in0⟩, BZ.out, fun g hg => ⟨by first | exact hg.al | (intro h0; exact absurd h0 (Nat.lt_irrefl 0)), by first | exact hg.dn | (intro h0; exact absurd h0 (Nat.lt_irrefl 0)), by first | exact hg.us | (intro h0; exact absurd h0 (Nat.lt_irrefl 0)), by first | exact hg.ks | (intro h0; exact absurd h0 (Nat.lt_irrefl 0))⟩⟩
 have e2 : (k == 2) = false := by simpa using h2
 by_cases h3 : k = 3
 ·subst h3
  have HS := hid (st_3 tx via n tg th al dn us ks d x3 x4 x5 x6 x7 x8)
  generalize strip 3 ⟨tx, n, tg, th, via, al, dn, us, ks, d, x3, x4, x5, x6, x7, x8⟩ = r at HS ⊢
  go_enter Tryz.func36, Tryz.ntmps36
  go_wp2_with (first
   | (refine wpList_load_mid rfl 30 _ rfl w.heap.size 0 rfl [.string tx, .int .i64 n, .int .i64 tg, .bool th, .string via, .slice aA al.length aC, .slice dA dn.length dC, .slice uA us.length uC, .slice kA ks.length kC, .int .i64 d, .int .i64 x3, .int .i64 x4, .int .i64 x5, .int .i64 x6, .int .i64 x7, .int .i64 x8] _ XA.out.range Tryz.underlying30 rfl size29 ?_)
   | (refine wpList_load_mid rfl 28 _ rfl w.heap.size 7 rfl [.slice uA us.length uC, .slice kA ks.length kC, .int .i64 d, .int .i64 x3, .int .i64 x4, .int .i64 x5, .int .i64 x6, .int .i64 x7, .int .i64 x8] _ (XA.out.mid 7 9) Tryz.underlying28 rfl size27 ?_)
   | (refine store_mid_as rfl 30 _ _ rfl (w.heap.size + 1) 0 (#[.string ⟨#[]⟩, .int .i64 0, .int .i64 0, .bool false, .string ⟨#[]⟩, .slice none 0 0, .slice none 0 0, .slice uA us.length uC, .slice kA ks.length kC, .int .i64 d, .int .i64 x3, .int .i64 x4, .int .i64 x5, .int .i64 x6, .int .i64 x7, .int .i64 x8] : Array Value) rfl rfl (Blk.there (n := 16) RA.out (Nat.le_refl 16)) size29 (by simp [Value.oneCell']) ?_; intro wz ez; have EZ := hid ez; clear ez)
   | fail)
  (try simp only [Exit.inBlock, Exit.then])
  have BZ := hid (show Below w.heap.size w wz by rw [EZ.out]; exact below_setAll (Nat.le_succ _) _ _ _ BA.out)
  have IZ := hid (HI0.out.below BZ.out)
  refine bodyPost_ret (results_cell_mid rfl _ _ (w.heap.size + 1) [.string ⟨#[]⟩, .int .i64 0, .int .i64 0, .bool false, .string ⟨#[]⟩, .slice none 0 0, .slice none 0 0, .slice uA us.length uC, .slice kA ks.length kC, .int .i64 d, .int .i64 x3, .int .i64 x4, .int .i64 x5, .int .i64 x6, .int .i64 x7, .int .i64 x8] 30 _ rfl (by rw [EZ.out]; exact Blk.setAll RA.out _ rfl) Tryz.underlying30 rfl size29) rfl ?_
  rw [HS.out]
  exact ⟨⟨none, 0, none, 0, uA, uC, kA, kC⟩, rfl, ⟨Txs.nil _, Txs.nil _, IZ.out.lv, sz0, sz0, in0, in0⟩, BZ.out, fun g hg => ⟨by first | exact hg.al | (intro h0; exact absurd h0 (Nat.lt_irrefl 0)), by first | exact hg.dn | (intro h0; exact absurd h0 (Nat.lt_irrefl 0)), by first | exact hg.us | (intro h0; exact absurd h0 (Nat.lt_irrefl 0)), by first | exact hg.ks | (intro h0; exact absurd h0 (Nat.lt_irrefl 0))⟩⟩
 have e3 : (k == 3) = false := by simpa using h3
 by_cases h4 : k = 4
 ·subst h4
  have HS := hid (st_4 tx via n tg th al dn us ks d x3 x4 x5 x6 x7 x8)
  generalize strip 4 ⟨tx, n, tg, th, via, al, dn, us, ks, d, x3, x4, x5, x6, x7, x8⟩ = r at HS ⊢
  go_enter Tryz.func36, Tryz.ntmps36
  go_wp2_with (first
   | (refine wpList_load_mid rfl 30 _ rfl w.heap.size 0 rfl [.string tx, .int .i64 n, .int .i64 tg, .bool th, .string via, .slice aA al.length aC, .slice dA dn.length dC, .slice uA us.length uC, .slice kA ks.length kC, .int .i64 d, .int .i64 x3, .int .i64 x4, .int .i64 x5, .int .i64 x6, .int .i64 x7, .int .i64 x8] _ XA.out.range Tryz.underlying30 rfl size29 ?_)
   | (refine wpList_load_mid rfl 28 _ rfl w.heap.size 7 rfl [.slice uA us.length uC, .slice kA ks.length kC, .int .i64 d, .int .i64 x3, .int .i64 x4, .int .i64 x5, .int .i64 x6, .int .i64 x7, .int .i64 x8] _ (XA.out.mid 7 9) Tryz.underlying28 rfl size27 ?_)
   | (refine store_mid_as rfl 30 _ _ rfl (w.heap.size + 1) 0 (#[.string ⟨#[]⟩, .int .i64 n, .int .i64 0, .bool false, .string ⟨#[]⟩, .slice aA al.length aC, .slice none 0 0, .slice none 0 0, .slice none 0 0, .int .i64 0, .int .i64 0, .int .i64 0, .int .i64 0, .int .i64 0, .int .i64 0, .int .i64 0] : Array Value) rfl rfl (Blk.there (n := 16) RA.out (Nat.le_refl 16)) size29 (by simp [Value.oneCell']) ?_; intro wz ez; have EZ := hid ez; clear ez)
   | fail)
  (try simp only [Exit.inBlock, Exit.then])
  have BZ := hid (show Below w.heap.size w wz by rw [EZ.out]; exact below_setAll (Nat.le_succ _) _ _ _ BA.out)
  have IZ := hid (HI0.out.below BZ.out)
  refine bodyPost_ret (results_cell_mid rfl _ _ (w.heap.size + 1) [.string ⟨#[]⟩, .int .i64 n, .int .i64 0, .bool false, .string ⟨#[]⟩, .slice aA al.length aC, .slice none 0 0, .slice none 0 0, .slice none 0 0, .int .i64 0, .int .i64 0, .int .i64 0, .int .i64 0, .int .i64 0, .int .i64 0, .int .i64 0] 30 _ rfl (by rw [EZ.out]; exact Blk.setAll RA.out _ rfl) Tryz.underlying30 rfl size29) rfl ?_
  rw [HS.out]
  exact ⟨⟨aA, aC, none, 0, none, 0, none, 0⟩, rfl, ⟨IZ.out.al, Txs.nil _, zero_isL _, sz0, sz0, IZ.out.n, in0⟩, BZ.out, fun g hg => ⟨by first | exact hg.al | (intro h0; exact absurd h0 (Nat.lt_irrefl 0)), by first | exact hg.dn | (intro h0; exact absurd h0 (Nat.lt_irrefl 0)), by first | exact hg.us | (intro h0; exact absurd h0 (Nat.lt_irrefl 0)), by first | exact hg.ks | (intro h0; exact absurd h0 (Nat.lt_irrefl 0))⟩⟩
 have e4 : (k == 4) = false := by simpa using h4
 by_cases h5 : k = 5
 ·subst h5
  have HS := hid (st_5 tx via n tg th al dn us ks d x3 x4 x5 x6 x7 x8)
  generalize strip 5 ⟨tx, n, tg, th, via, al, dn, us, ks, d, x3, x4, x5, x6, x7, x8⟩ = r at HS ⊢
  go_enter Tryz.func36, Tryz.ntmps36
  go_wp2_with (first
   | (refine wpList_load_mid rfl 30 _ rfl w.heap.size 0 rfl [.string tx, .int .i64 n, .int .i64 tg, .bool th, .string via, .slice aA al.length aC, .slice dA dn.length dC, .slice uA us.length uC, .slice kA ks.length kC, .int .i64 d, .int .i64 x3, .int .i64 x4, .int .i64 x5, .int .i64 x6, .int .i64 x7, .int .i64 x8] _ XA.out.range Tryz.underlying30 rfl size29 ?_)
   | (refine wpList_load_mid rfl 28 _ rfl w.heap.size 7 rfl [.slice uA us.length uC, .slice kA ks.length kC, .int .i64 d, .int .i64 x3, .int .i64 x4, .int .i64 x5, .int .i64 x6, .int .i64 x7, .int .i64 x8] _ (XA.out.mid 7 9) Tryz.underlying28 rfl size27 ?_)
   | (refine store_mid_as rfl 30 _ _ rfl (w.heap.size + 1) 0 (#[.string ⟨#[]⟩, .int .i64 n, .int .i64 0, .bool false, .string ⟨#[]⟩, .slice none 0 0, .slice none 0 0, .slice none 0 0, .slice none 0 0, .int .i64 0, .int .i64 0, .int .i64 0, .int .i64 0, .int .i64 0, .int .i64 0, .int .i64 0] : Array Value) rfl rfl (Blk.there (n := 16) RA.out (Nat.le_refl 16)) size29 (by simp [Value.oneCell']) ?_; intro wz ez; have EZ := hid ez; clear ez)
   | fail)
  (try simp only [Exit.inBlock, Exit.then])
  have BZ := hid (show Below w.heap.size w wz by rw [EZ.out]; exact below_setAll (Nat.le_succ _) _ _ _ BA.out)
  have IZ := hid (HI0.out.below BZ.out)
  refine bodyPost_ret (results_cell_mid rfl _ _ (w.heap.size + 1) [.string ⟨#[]⟩, .int .i64 n, .int .i64 0, .bool false, .string ⟨#[]⟩, .slice none 0 0, .slice none 0 0, .slice none 0 0, .slice none 0 0, .int .i64 0, .int .i64 0, .int .i64 0, .int .i64 0, .int .i64 0, .int .i64 0, .int .i64 0] 30 _ rfl (by rw [EZ.out]; exact Blk.setAll RA.out _ rfl) Tryz.underlying30 rfl size29) rfl ?_
  rw [HS.out]
  exact ⟨⟨none, 0, none, 0, none, 0, none, 0⟩, rfl, ⟨Txs.nil _, Txs.nil _, zero_isL _, sz0, sz0, IZ.out.n, in0⟩, BZ.out, fun g hg => ⟨by first | exact hg.al | (intro h0; exact absurd h0 (Nat.lt_irrefl 0)), by first | exact hg.dn | (intro h0; exact absurd h0 (Nat.lt_irrefl 0)), by first | exact hg.us | (intro h0; exact absurd h0 (Nat.lt_irrefl 0)), by first | exact hg.ks | (intro h0; exact absurd h0 (Nat.lt_irrefl 0))⟩⟩
 have e5 : (k == 5) = false := by simpa using h5
 by_cases h6 : k = 6
 ·subst h6
  have HS := hid (st_6 tx via n tg th al dn us ks d x3 x4 x5 x6 x7 x8)
  generalize strip 6 ⟨tx, n, tg, th, via, al, dn, us, ks, d, x3, x4, x5, x6, x7, x8⟩ = r at HS ⊢
  go_enter Tryz.func36, Tryz.ntmps36
  go_wp2_with (first
   | (refine wpList_load_mid rfl 30 _ rfl w.heap.size 0 rfl [.string tx, .int .i64 n, .int .i64 tg, .bool th, .string via, .slice aA al.length aC, .slice dA dn.length dC, .slice uA us.length uC, .slice kA ks.length kC, .int .i64 d, .int .i64 x3, .int .i64 x4, .int .i64 x5, .int .i64 x6, .int .i64 x7, .int .i64 x8] _ XA.out.range Tryz.underlying30 rfl size29 ?_)
   | (refine wpList_load_mid rfl 28 _ rfl w.heap.size 7 rfl [.slice uA us.length uC, .slice kA ks.length kC, .int .i64 d, .int .i64 x3, .int .i64 x4, .int .i64 x5, .int .i64 x6, .int .i64 x7, .int .i64 x8] _ (XA.out.mid 7 9) Tryz.underlying28 rfl size27 ?_)
   | (refine store_mid_as rfl 30 _ _ rfl (w.heap.size + 1) 0 (#[.string ⟨#[]⟩, .int .i64 0, .int .i64 0, .bool false, .string ⟨#[]⟩, .slice aA al.length aC, .slice dA dn.length dC, .slice none 0 0, .slice none 0 0, .int .i64 0, .int .i64 0, .int .i64 0, .int .i64 0, .int .i64 0, .int .i64 0, .int .i64 0] : Array Value) rfl rfl (Blk.there (n := 16) RA.out (Nat.le_refl 16)) size29 (by simp [Value.oneCell']) ?_; intro wz ez; have EZ := hid ez; clear ez)
   | fail)
  (try simp only [Exit.inBlock, Exit.then])
  have BZ := hid (show Below w.heap.size w wz by rw [EZ.out]; exact below_setAll (Nat.le_succ _) _ _ _ BA.out)
  have IZ := hid (HI0.out.below BZ.out)
  refine bodyPost_ret (results_cell_mid rfl _ _ (w.heap.size + 1) [.string ⟨#[]⟩, .int .i64 0, .int .i64 0, .bool false, .string ⟨#[]⟩, .slice aA al.length aC, .slice dA dn.length dC, .slice none 0 0, .slice none 0 0, .int .i64 0, .int .i64 0, .int .i64 0, .int .i64 0, .int .i64 0, .int .i64 0, .int .i64 0] 30 _ rfl (by rw [EZ.out]; exact Blk.setAll RA.out _ rfl) Tryz.underlying30 rfl size29) rfl ?_
  rw [HS.out]
  exact ⟨⟨aA, aC, dA, dC, none, 0, none, 0⟩, rfl, ⟨IZ.out.al, IZ.out.dn, zero_isL _, sz0, sz0, in0, in0⟩, BZ.out, fun g hg => ⟨by first | exact hg.al | (intro h0; exact absurd h0 (Nat.lt_irrefl 0)), by first | exact hg.dn | (intro h0; exact absurd h0 (Nat.lt_irrefl 0)), by first | exact hg.us | (intro h0; exact absurd h0 (Nat.lt_irrefl 0)), by first | exact hg.ks | (intro h0; exact absurd h0 (Nat.lt_irrefl 0))⟩⟩
 have e6 : (k == 6) = false := by simpa using h6
 by_cases h14 : k = 14
 ·subst h14
  have HS := hid (st_14 tx via n tg th al dn us ks d x3 x4 x5 x6 x7 x8)
  generalize strip 14 ⟨tx, n, tg, th, via, al, dn, us, ks, d, x3, x4, x5, x6, x7, x8⟩ = r at HS ⊢
  go_enter Tryz.func36, Tryz.ntmps36
  go_wp2_with (first
   | (refine wpList_load_mid rfl 30 _ rfl w.heap.size 0 rfl [.string tx, .int .i64 n, .int .i64 tg, .bool th, .string via, .slice aA al.length aC, .slice dA dn.length dC, .slice uA us.length uC, .slice kA ks.length kC, .int .i64 d, .int .i64 x3, .int .i64 x4, .int .i64 x5, .int .i64 x6, .int .i64 x7, .int .i64 x8] _ XA.out.range Tryz.underlying30 rfl size29 ?_)
   | (refine wpList_load_mid rfl 28 _ rfl w.heap.size 7 rfl [.slice uA us.length uC, .slice kA ks.length kC, .int .i64 d, .int .i64 x3, .int .i64 x4, .int .i64 x5, .int .i64 x6, .int .i64 x7, .int .i64 x8] _ (XA.out.mid 7 9) Tryz.underlying28 rfl size27 ?_)
   | (refine store_mid_as rfl 30 _ _ rfl (w.heap.size + 1) 0 (#[.string ⟨#[]⟩, .int .i64 0, .int .i64 tg, .bool false, .string ⟨#[]⟩, .slice none 0 0, .slice none 0 0, .slice none 0 0, .slice none 0 0, .int .i64 0, .int .i64 0, .int .i64 0, .int .i64 0, .int .i64 0, .int .i64 0, .int .i64 0] : Array Value) rfl rfl (Blk.there (n := 16) RA.out (Nat.le_refl 16)) size29 (by simp [Value.oneCell']) ?_; intro wz ez; have EZ := hid ez; clear ez)
   | fail)
  (try simp only [Exit.inBlock, Exit.then])
  have BZ := hid (show Below w.heap.size w wz by rw [EZ.out]; exact below_setAll (Nat.le_succ _) _ _ _ BA.out)
  have IZ := hid (HI0.out.below BZ.out)
  refine bodyPost_ret (results_cell_mid rfl _ _ (w.heap.size + 1) [.string ⟨#[]⟩, .int .i64 0, .int .i64 tg, .bool false, .string ⟨#[]⟩, .slice none 0 0, .slice none 0 0, .slice none 0 0, .slice none 0 0, .int .i64 0, .int .i64 0, .int .i64 0, .int .i64 0, .int .i64 0, .int .i64 0, .int .i64 0] 30 _ rfl (by rw [EZ.out]; exact Blk.setAll RA.out _ rfl) Tryz.underlying30 rfl size29) rfl ?_
  rw [HS.out]
  exact ⟨⟨none, 0, none, 0, none, 0, none, 0⟩, rfl, ⟨Txs.nil _, Txs.nil _, zero_isL _, sz0, sz0, in0, IZ.out.tg⟩, BZ.out, fun g hg => ⟨by first | exact hg.al | (intro h0; exact absurd h0 (Nat.lt_irrefl 0)), by first | exact hg.dn | (intro h0; exact absurd h0 (Nat.lt_irrefl 0)), by first | exact hg.us | (intro h0; exact absurd h0 (Nat.lt_irrefl 0)), by first | exact hg.ks | (intro h0; exact absurd h0 (Nat.lt_irrefl 0))⟩⟩
 have e14 : (k == 14) = false := by simpa using h14
 have HS := hid (strip_none h1 h2 h3 h4 h5 h6 h14 ⟨tx, n, tg, th, via, al, dn, us, ks, d, x3, x4, x5, x6, x7, x8⟩)
 generalize strip k ⟨tx, n, tg, th, via, al, dn, us, ks, d, x3, x4, x5, x6, x7, x8⟩ = r at HS ⊢
 clear h1 h2 h3 h4 h5 h6 h14
 go_enter Tryz.func36, Tryz.ntmps36
 go_wp2_with (first
  | (refine wpList_load_mid rfl 30 _ rfl w.heap.size 0 rfl [.string tx, .int .i64 n, .int .i64 tg, .bool th, .string via, .slice aA al.length aC, .slice dA dn.length dC, .slice uA us.length uC, .slice kA ks.length kC, .int .i64 d, .int .i64 x3, .int .i64 x4, .int .i64 x5, .int .i64 x6, .int .i64 x7, .int .i64 x8] _ XA.out.range Tryz.underlying30 rfl size29 ?_)
  | (refine wpList_load_mid rfl 28 _ rfl w.heap.size 7 rfl [.slice uA us.length uC, .slice kA ks.length kC, .int .i64 d, .int .i64 x3, .int .i64 x4, .int .i64 x5, .int .i64 x6, .int .i64 x7, .int .i64 x8] _ (XA.out.mid 7 9) Tryz.underlying28 rfl size27 ?_)
  | (refine store_mid_as rfl 30 _ _ rfl (w.heap.size + 1) 0 (#[.string ⟨#[]⟩, .int .i64 0, .int .i64 0, .bool false, .string ⟨#[]⟩, .slice none 0 0, .slice none 0 0, .slice none 0 0, .slice none 0 0, .int .i64 0, .int .i64 0, .int .i64 0, .int .i64 0, .int .i64 0, .int .i64 0, .int .i64 0] : Array Value) rfl rfl (Blk.there (n := 16) RA.out (Nat.le_refl 16)) size29 (by simp [Value.oneCell']) ?_; intro wz ez; have EZ := hid ez; clear ez)
  | fail)
 (try simp only [Exit.inBlock, Exit.then])
 have BZ := hid (show Below w.heap.size w wz by rw [EZ.out]; exact below_setAll (Nat.le_succ _) _ _ _ BA.out)
 have IZ := hid (HI0.out.below BZ.out)
 refine bodyPost_ret (results_cell_mid rfl _ _ (w.heap.size + 1) [.string ⟨#[]⟩, .int .i64 0, .int .i64 0, .bool false, .string ⟨#[]⟩, .slice none 0 0, .slice none 0 0, .slice none 0 0, .slice none 0 0, .int .i64 0, .int .i64 0, .int .i64 0, .int .i64 0, .int .i64 0, .int .i64 0, .int .i64 0] 30 _ rfl (by rw [EZ.out]; exact Blk.setAll RA.out _ rfl) Tryz.underlying30 rfl size29) rfl ?_
 rw [HS.out]
 exact ⟨⟨none, 0, none, 0, none, 0, none, 0⟩, rfl, ⟨Txs.nil _, Txs.nil _, zero_isL _, sz0, sz0, in0, in0⟩, BZ.out, fun g hg => ⟨by first | exact hg.al | (intro h0; exact absurd h0 (Nat.lt_irrefl 0)), by first | exact hg.dn | (intro h0; exact absurd h0 (Nat.lt_irrefl 0)), by first | exact hg.us | (intro h0; exact absurd h0 (Nat.lt_irrefl 0)), by first | exact hg.ks | (intro h0; exact absurd h0 (Nat.lt_irrefl 0))⟩⟩
end Go.Proofs.YtablocpcgknmaaaGreatDoor
