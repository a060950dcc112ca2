/- Check and the reference's check agree, all kinds. No condition. -/
import Derived.Test.YtablocpcgknmaaaGreatDoorRK17
namespace Go.Proofs.YtablocpcgknmaaaGreatDoor
open Go Go.RowKit
set_option linter.unusedVariables false
set_option linter.unusedSimpArgs false
set_option maxRecDepth 100000

theorem bad8 (s : Int) (C : Cn) : badE s C 0 8 = ((!(C.tx.toList == []) && !hasB s ((0 : Nat) : Int)) || ((!(C.n == 0) && !hasB s ((1 : Nat) : Int)) || ((!(C.tg == 0) && !hasB s ((2 : Nat) : Int)) || ((!(!C.th) && !hasB s ((3 : Nat) : Int)) || ((!(C.via.toList == []) && !hasB s ((4 : Nat) : Int)) || ((!((C.al.length : Int) == 0) && !hasB s ((5 : Nat) : Int)) || ((!((C.dn.length : Int) == 0) && !hasB s ((6 : Nat) : Int)) || ((!sameL C.us [] C.ks [] [C.d, C.x3, C.x4, C.x5, C.x6, C.x7, C.x8] [0, 0, 0, 0, 0, 0, 0] && !hasB s ((7 : Nat) : Int)) || false)))))))) := rfl
theorem az8 (C : Cn) : azE C 0 8 = ((C.tx.toList == []) && ((C.n == 0) && ((C.tg == 0) && ((!C.th) && ((C.via.toList == []) && (((C.al.length : Int) == 0) && (((C.dn.length : Int) == 0) && (sameL C.us [] C.ks [] [C.d, C.x3, C.x4, C.x5, C.x6, C.x7, C.x8] [0, 0, 0, 0, 0, 0, 0] && true)))))))) := rfl
theorem beq_nil (t : ByteArray) : (t.toList == []) = decide (t = ⟨#[]⟩) := by
 by_cases h : t = ⟨#[]⟩
 ·rw [decide_eq_true h, h]; exact em_yes rfl
 ·rw [decide_eq_false h]
  refine em_no (fun e => h ?_)
  obtain ⟨⟨l⟩⟩ := t
  cases l with
  | nil => rfl
  | cons x r => exact absurd e (by show ¬ (r.length + 1 = 0); omega)
theorem az_same (C : Cn) : azE C 0 8 = sameC C c0 := by
 rw [az8]
 unfold sameC c0
 rw [beq_nil, beq_nil]
 rw [show (C.n == 0) = decide (C.n = 0) from rfl, show (C.tg == 0) = decide (C.tg = 0) from rfl, show (!C.th) = decide (C.th = false) by cases C.th <;> rfl]
 rw [show ((C.al.length : Int) == 0) = decide (C.al = []) by cases C.al <;> simp [beq_eq_false_iff_ne]; omega]
 rw [show ((C.dn.length : Int) == 0) = decide (C.dn = []) by cases C.dn <;> simp [beq_eq_false_iff_ne]; omega]
 simp only [Bool.and_true]
theorem bad_on1 (C : Cn) : badE (usT 1) C 0 8 = !onB 1 C := by
 rw [bad8]
 unfold onB
 rw [tf1_0, tf1_1, tf1_2, tf1_3, tf1_4, tf1_5, tf1_6, tf1_7]
 rw [tb1_0, tb1_1, tb1_2, tb1_3, tb1_4, tb1_5, tb1_6, tb1_7]
 generalize (C.tx.toList == []) = b0
 generalize (C.n == 0) = b1
 generalize (C.tg == 0) = b2
 generalize (!C.th) = b3
 generalize (C.via.toList == []) = b4
 generalize ((C.al.length : Int) == 0) = b5
 generalize ((C.dn.length : Int) == 0) = b6
 generalize sameL C.us [] C.ks [] [C.d, C.x3, C.x4, C.x5, C.x6, C.x7, C.x8] [0, 0, 0, 0, 0, 0, 0] = b7
 simp [Bool.not_and, Bool.not_or]
theorem bad_on2 (C : Cn) : badE (usT 2) C 0 8 = !onB 2 C := by
 rw [bad8]
 unfold onB
 rw [tf2_0, tf2_1, tf2_2, tf2_3, tf2_4, tf2_5, tf2_6, tf2_7]
 rw [tb2_0, tb2_1, tb2_2, tb2_3, tb2_4, tb2_5, tb2_6, tb2_7]
 generalize (C.tx.toList == []) = b0
 generalize (C.n == 0) = b1
 generalize (C.tg == 0) = b2
 generalize (!C.th) = b3
 generalize (C.via.toList == []) = b4
 generalize ((C.al.length : Int) == 0) = b5
 generalize ((C.dn.length : Int) == 0) = b6
 generalize sameL C.us [] C.ks [] [C.d, C.x3, C.x4, C.x5, C.x6, C.x7, C.x8] [0, 0, 0, 0, 0, 0, 0] = b7
 simp [Bool.not_and, Bool.not_or]
theorem bad_on3 (C : Cn) : badE (usT 3) C 0 8 = !onB 3 C := by
 rw [bad8]
 unfold onB
 rw [tf3_0, tf3_1, tf3_2, tf3_3, tf3_4, tf3_5, tf3_6, tf3_7]
 rw [tb3_0, tb3_1, tb3_2, tb3_3, tb3_4, tb3_5, tb3_6, tb3_7]
 generalize (C.tx.toList == []) = b0
 generalize (C.n == 0) = b1
 generalize (C.tg == 0) = b2
 generalize (!C.th) = b3
 generalize (C.via.toList == []) = b4
 generalize ((C.al.length : Int) == 0) = b5
 generalize ((C.dn.length : Int) == 0) = b6
 generalize sameL C.us [] C.ks [] [C.d, C.x3, C.x4, C.x5, C.x6, C.x7, C.x8] [0, 0, 0, 0, 0, 0, 0] = b7
 simp [Bool.not_and, Bool.not_or]
theorem bad_on4 (C : Cn) : badE (usT 4) C 0 8 = !onB 4 C := by
 rw [bad8]
 unfold onB
 rw [tf4_0, tf4_1, tf4_2, tf4_3, tf4_4, tf4_5, tf4_6, tf4_7]
 rw [tb4_0, tb4_1, tb4_2, tb4_3, tb4_4, tb4_5, tb4_6, tb4_7]
 generalize (C.tx.toList == []) = b0
 generalize (C.n == 0) = b1
 generalize (C.tg == 0) = b2
 generalize (!C.th) = b3
 generalize (C.via.toList == []) = b4
 generalize ((C.al.length : Int) == 0) = b5
 generalize ((C.dn.length : Int) == 0) = b6
 generalize sameL C.us [] C.ks [] [C.d, C.x3, C.x4, C.x5, C.x6, C.x7, C.x8] [0, 0, 0, 0, 0, 0, 0] = b7
 simp [Bool.not_and, Bool.not_or]
theorem bad_on5 (C : Cn) : badE (usT 5) C 0 8 = !onB 5 C := by
 rw [bad8]
 unfold onB
 rw [tf5_0, tf5_1, tf5_2, tf5_3, tf5_4, tf5_5, tf5_6, tf5_7]
 rw [tb5_0, tb5_1, tb5_2, tb5_3, tb5_4, tb5_5, tb5_6, tb5_7]
 generalize (C.tx.toList == []) = b0
 generalize (C.n == 0) = b1
 generalize (C.tg == 0) = b2
 generalize (!C.th) = b3
 generalize (C.via.toList == []) = b4
 generalize ((C.al.length : Int) == 0) = b5
 generalize ((C.dn.length : Int) == 0) = b6
 generalize sameL C.us [] C.ks [] [C.d, C.x3, C.x4, C.x5, C.x6, C.x7, C.x8] [0, 0, 0, 0, 0, 0, 0] = b7
 simp [Bool.not_and, Bool.not_or]
theorem bad_on6 (C : Cn) : badE (usT 6) C 0 8 = !onB 6 C := by
 rw [bad8]
 unfold onB
 rw [tf6_0, tf6_1, tf6_2, tf6_3, tf6_4, tf6_5, tf6_6, tf6_7]
 rw [tb6_0, tb6_1, tb6_2, tb6_3, tb6_4, tb6_5, tb6_6, tb6_7]
 generalize (C.tx.toList == []) = b0
 generalize (C.n == 0) = b1
 generalize (C.tg == 0) = b2
 generalize (!C.th) = b3
 generalize (C.via.toList == []) = b4
 generalize ((C.al.length : Int) == 0) = b5
 generalize ((C.dn.length : Int) == 0) = b6
 generalize sameL C.us [] C.ks [] [C.d, C.x3, C.x4, C.x5, C.x6, C.x7, C.x8] [0, 0, 0, 0, 0, 0, 0] = b7
 simp [Bool.not_and, Bool.not_or]
theorem bad_on7 (C : Cn) : badE (usT 7) C 0 8 = !onB 7 C := by
 rw [bad8]
 unfold onB
 rw [tf7_0, tf7_1, tf7_2, tf7_3, tf7_4, tf7_5, tf7_6, tf7_7]
 rw [tb7_0, tb7_1, tb7_2, tb7_3, tb7_4, tb7_5, tb7_6, tb7_7]
 generalize (C.tx.toList == []) = b0
 generalize (C.n == 0) = b1
 generalize (C.tg == 0) = b2
 generalize (!C.th) = b3
 generalize (C.via.toList == []) = b4
 generalize ((C.al.length : Int) == 0) = b5
 generalize ((C.dn.length : Int) == 0) = b6
 generalize sameL C.us [] C.ks [] [C.d, C.x3, C.x4, C.x5, C.x6, C.x7, C.x8] [0, 0, 0, 0, 0, 0, 0] = b7
 simp [Bool.not_and, Bool.not_or]
theorem bad_on8 (C : Cn) : badE (usT 8) C 0 8 = !onB 8 C := by
 rw [bad8]
 unfold onB
 rw [tf8_0, tf8_1, tf8_2, tf8_3, tf8_4, tf8_5, tf8_6, tf8_7]
 rw [tb8_0, tb8_1, tb8_2, tb8_3, tb8_4, tb8_5, tb8_6, tb8_7]
 generalize (C.tx.toList == []) = b0
 generalize (C.n == 0) = b1
 generalize (C.tg == 0) = b2
 generalize (!C.th) = b3
 generalize (C.via.toList == []) = b4
 generalize ((C.al.length : Int) == 0) = b5
 generalize ((C.dn.length : Int) == 0) = b6
 generalize sameL C.us [] C.ks [] [C.d, C.x3, C.x4, C.x5, C.x6, C.x7, C.x8] [0, 0, 0, 0, 0, 0, 0] = b7
 simp [Bool.not_and, Bool.not_or]
theorem bad_on9 (C : Cn) : badE (usT 9) C 0 8 = !onB 9 C := by
 rw [bad8]
 unfold onB
 rw [tf9_0, tf9_1, tf9_2, tf9_3, tf9_4, tf9_5, tf9_6, tf9_7]
 rw [tb9_0, tb9_1, tb9_2, tb9_3, tb9_4, tb9_5, tb9_6, tb9_7]
 generalize (C.tx.toList == []) = b0
 generalize (C.n == 0) = b1
 generalize (C.tg == 0) = b2
 generalize (!C.th) = b3
 generalize (C.via.toList == []) = b4
 generalize ((C.al.length : Int) == 0) = b5
 generalize ((C.dn.length : Int) == 0) = b6
 generalize sameL C.us [] C.ks [] [C.d, C.x3, C.x4, C.x5, C.x6, C.x7, C.x8] [0, 0, 0, 0, 0, 0, 0] = b7
 simp [Bool.not_and, Bool.not_or]
theorem bad_on10 (C : Cn) : badE (usT 10) C 0 8 = !onB 10 C := by
 rw [bad8]
 unfold onB
 rw [tf10_0, tf10_1, tf10_2, tf10_3, tf10_4, tf10_5, tf10_6, tf10_7]
 rw [tb10_0, tb10_1, tb10_2, tb10_3, tb10_4, tb10_5, tb10_6, tb10_7]
 generalize (C.tx.toList == []) = b0
 generalize (C.n == 0) = b1
 generalize (C.tg == 0) = b2
 generalize (!C.th) = b3
 generalize (C.via.toList == []) = b4
 generalize ((C.al.length : Int) == 0) = b5
 generalize ((C.dn.length : Int) == 0) = b6
 generalize sameL C.us [] C.ks [] [C.d, C.x3, C.x4, C.x5, C.x6, C.x7, C.x8] [0, 0, 0, 0, 0, 0, 0] = b7
 simp [Bool.not_and, Bool.not_or]
theorem bad_on11 (C : Cn) : badE (usT 11) C 0 8 = !onB 11 C := by
 rw [bad8]
 unfold onB
 rw [tf11_0, tf11_1, tf11_2, tf11_3, tf11_4, tf11_5, tf11_6, tf11_7]
 rw [tb11_0, tb11_1, tb11_2, tb11_3, tb11_4, tb11_5, tb11_6, tb11_7]
 generalize (C.tx.toList == []) = b0
 generalize (C.n == 0) = b1
 generalize (C.tg == 0) = b2
 generalize (!C.th) = b3
 generalize (C.via.toList == []) = b4
 generalize ((C.al.length : Int) == 0) = b5
 generalize ((C.dn.length : Int) == 0) = b6
 generalize sameL C.us [] C.ks [] [C.d, C.x3, C.x4, C.x5, C.x6, C.x7, C.x8] [0, 0, 0, 0, 0, 0, 0] = b7
 simp [Bool.not_and, Bool.not_or]
theorem bad_on12 (C : Cn) : badE (usT 12) C 0 8 = !onB 12 C := by
 rw [bad8]
 unfold onB
 rw [tf12_0, tf12_1, tf12_2, tf12_3, tf12_4, tf12_5, tf12_6, tf12_7]
 rw [tb12_0, tb12_1, tb12_2, tb12_3, tb12_4, tb12_5, tb12_6, tb12_7]
 generalize (C.tx.toList == []) = b0
 generalize (C.n == 0) = b1
 generalize (C.tg == 0) = b2
 generalize (!C.th) = b3
 generalize (C.via.toList == []) = b4
 generalize ((C.al.length : Int) == 0) = b5
 generalize ((C.dn.length : Int) == 0) = b6
 generalize sameL C.us [] C.ks [] [C.d, C.x3, C.x4, C.x5, C.x6, C.x7, C.x8] [0, 0, 0, 0, 0, 0, 0] = b7
 simp [Bool.not_and, Bool.not_or]
theorem bad_on13 (C : Cn) : badE (usT 13) C 0 8 = !onB 13 C := by
 rw [bad8]
 unfold onB
 rw [tf13_0, tf13_1, tf13_2, tf13_3, tf13_4, tf13_5, tf13_6, tf13_7]
 rw [tb13_0, tb13_1, tb13_2, tb13_3, tb13_4, tb13_5, tb13_6, tb13_7]
 generalize (C.tx.toList == []) = b0
 generalize (C.n == 0) = b1
 generalize (C.tg == 0) = b2
 generalize (!C.th) = b3
 generalize (C.via.toList == []) = b4
 generalize ((C.al.length : Int) == 0) = b5
 generalize ((C.dn.length : Int) == 0) = b6
 generalize sameL C.us [] C.ks [] [C.d, C.x3, C.x4, C.x5, C.x6, C.x7, C.x8] [0, 0, 0, 0, 0, 0, 0] = b7
 simp [Bool.not_and, Bool.not_or]
theorem bad_on14 (C : Cn) : badE (usT 14) C 0 8 = !onB 14 C := by
 rw [bad8]
 unfold onB
 rw [tf14_0, tf14_1, tf14_2, tf14_3, tf14_4, tf14_5, tf14_6, tf14_7]
 rw [tb14_0, tb14_1, tb14_2, tb14_3, tb14_4, tb14_5, tb14_6, tb14_7]
 generalize (C.tx.toList == []) = b0
 generalize (C.n == 0) = b1
 generalize (C.tg == 0) = b2
 generalize (!C.th) = b3
 generalize (C.via.toList == []) = b4
 generalize ((C.al.length : Int) == 0) = b5
 generalize ((C.dn.length : Int) == 0) = b6
 generalize sameL C.us [] C.ks [] [C.d, C.x3, C.x4, C.x5, C.x6, C.x7, C.x8] [0, 0, 0, 0, 0, 0, 0] = b7
 simp [Bool.not_and, Bool.not_or]
theorem bad_on {k : Int} (hk : kdB k = true) (C : Cn) : badE (usT k) C 0 8 = !onB k C := by
 have := of_decide_eq_true hk
 rcases (show k = 1 ∨ k = 2 ∨ k = 3 ∨ k = 4 ∨ k = 5 ∨ k = 6 ∨ k = 7 ∨ k = 8 ∨ k = 9 ∨ k = 10 ∨ k = 11 ∨ k = 12 ∨ k = 13 ∨ k = 14 by omega) with rfl | rfl | rfl | rfl | rfl | rfl | rfl | rfl | rfl | rfl | rfl | rfl | rfl | rfl
 ·exact bad_on1 C
 ·exact bad_on2 C
 ·exact bad_on3 C
 ·exact bad_on4 C
 ·exact bad_on5 C
 ·exact bad_on6 C
 ·exact bad_on7 C
 ·exact bad_on8 C
 ·exact bad_on9 C
 ·exact bad_on10 C
 ·exact bad_on11 C
 ·exact bad_on12 C
 ·exact bad_on13 C
 ·exact bad_on14 C
theorem tail_all {k : Int} (hk : kdB k = true) (C : Cn) (ho : onB k C = true) : fstE (usT k) k C 0 8 = rtail k C := by
 have := of_decide_eq_true hk
 rcases (show k = 1 ∨ k = 2 ∨ k = 3 ∨ k = 4 ∨ k = 5 ∨ k = 6 ∨ k = 7 ∨ k = 8 ∨ k = 9 ∨ k = 10 ∨ k = 11 ∨ k = 12 ∨ k = 13 ∨ k = 14 by omega) with rfl | rfl | rfl | rfl | rfl | rfl | rfl | rfl | rfl | rfl | rfl | rfl | rfl | rfl
 ·exact tail_1 C ho
 ·exact tail_2 C ho
 ·exact tail_3 C ho
 ·exact tail_4 C ho
 ·exact tail_5 C ho
 ·exact tail_6 C ho
 ·exact tail_7 C ho
 ·exact tail_8 C ho
 ·exact tail_9 C ho
 ·exact tail_10 C ho
 ·exact tail_11 C ho
 ·exact tail_12 C ho
 ·exact tail_13 C ho
 ·exact tail_14 C ho
theorem kp_ba {k : Int} (hk : kdB k = true) : kpT k = 0 ↔ baB k = true := by
 have := of_decide_eq_true hk
 rcases (show k = 1 ∨ k = 2 ∨ k = 3 ∨ k = 4 ∨ k = 5 ∨ k = 6 ∨ k = 7 ∨ k = 8 ∨ k = 9 ∨ k = 10 ∨ k = 11 ∨ k = 12 ∨ k = 13 ∨ k = 14 by omega) with rfl | rfl | rfl | rfl | rfl | rfl | rfl | rfl | rfl | rfl | rfl | rfl | rfl | rfl
 ·decide
 ·decide
 ·decide
 ·decide
 ·decide
 ·decide
 ·decide
 ·decide
 ·decide
 ·decide
 ·decide
 ·decide
 ·decide
 ·decide
/-- Both checks give the same. -/
theorem pchk_eq (k : Int) (C : Cn) : pchk k C = rchk k C := by
 rw [rchk_eq]
 unfold pchk
 cases hk : kdB k with
 | false => rw [if_pos rfl, if_pos rfl]
 | true =>
  rw [if_neg (show ¬ (true = false) by decide), if_neg (show ¬ (true = false) by decide), bad_on hk C]
  cases ho : onB k C with
  | false => rw [if_pos (show (!false) = true from rfl), if_pos rfl]
  | true =>
   rw [if_neg (show ¬ ((!true) = true) by decide), if_neg (show ¬ (true = false) by decide), az_same, tail_all hk C ho]
   by_cases h : sameC C c0 = true ∧ kpT k = 0
   ·rw [if_pos h, if_pos ⟨(kp_ba hk).1 h.2, h.1⟩]
   ·rw [if_neg h, if_neg (fun q => h ⟨q.2, (kp_ba hk).2 q.1⟩)]
end Go.Proofs.YtablocpcgknmaaaGreatDoor
