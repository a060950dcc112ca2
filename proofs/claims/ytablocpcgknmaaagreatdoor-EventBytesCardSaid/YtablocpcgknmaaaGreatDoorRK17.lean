/- Check and the reference's check agree. No condition. -/
import Derived.Test.YtablocpcgknmaaaGreatDoorRK14
import Derived.Test.YtablocpcgknmaaaGreatDoorRK16
namespace Go.Proofs.YtablocpcgknmaaaGreatDoor
open Go Go.RowKit
set_option linter.unusedVariables false
set_option linter.unusedSimpArgs false
set_option maxRecDepth 100000

theorem tb1_0 : hasB (usT 1) ((0 : Nat) : Int) = false := by kernel_rfl
theorem tb1_1 : hasB (usT 1) ((1 : Nat) : Int) = false := by kernel_rfl
theorem tb1_2 : hasB (usT 1) ((2 : Nat) : Int) = false := by kernel_rfl
theorem tb1_3 : hasB (usT 1) ((3 : Nat) : Int) = false := by kernel_rfl
theorem tb1_4 : hasB (usT 1) ((4 : Nat) : Int) = false := by kernel_rfl
theorem tb1_5 : hasB (usT 1) ((5 : Nat) : Int) = false := by kernel_rfl
theorem tb1_6 : hasB (usT 1) ((6 : Nat) : Int) = false := by kernel_rfl
theorem tb1_7 : hasB (usT 1) ((7 : Nat) : Int) = false := by kernel_rfl
theorem tb2_0 : hasB (usT 2) ((0 : Nat) : Int) = true := by kernel_rfl
theorem tb2_1 : hasB (usT 2) ((1 : Nat) : Int) = true := by kernel_rfl
theorem tb2_2 : hasB (usT 2) ((2 : Nat) : Int) = false := by kernel_rfl
theorem tb2_3 : hasB (usT 2) ((3 : Nat) : Int) = false := by kernel_rfl
theorem tb2_4 : hasB (usT 2) ((4 : Nat) : Int) = true := by kernel_rfl
theorem tb2_5 : hasB (usT 2) ((5 : Nat) : Int) = false := by kernel_rfl
theorem tb2_6 : hasB (usT 2) ((6 : Nat) : Int) = false := by kernel_rfl
theorem tb2_7 : hasB (usT 2) ((7 : Nat) : Int) = false := by kernel_rfl
theorem tb3_0 : hasB (usT 3) ((0 : Nat) : Int) = false := by kernel_rfl
theorem tb3_1 : hasB (usT 3) ((1 : Nat) : Int) = false := by kernel_rfl
theorem tb3_2 : hasB (usT 3) ((2 : Nat) : Int) = false := by kernel_rfl
theorem tb3_3 : hasB (usT 3) ((3 : Nat) : Int) = false := by kernel_rfl
theorem tb3_4 : hasB (usT 3) ((4 : Nat) : Int) = false := by kernel_rfl
theorem tb3_5 : hasB (usT 3) ((5 : Nat) : Int) = false := by kernel_rfl
theorem tb3_6 : hasB (usT 3) ((6 : Nat) : Int) = false := by kernel_rfl
theorem tb3_7 : hasB (usT 3) ((7 : Nat) : Int) = true := by kernel_rfl
theorem tb4_0 : hasB (usT 4) ((0 : Nat) : Int) = false := by kernel_rfl
theorem tb4_1 : hasB (usT 4) ((1 : Nat) : Int) = true := by kernel_rfl
theorem tb4_2 : hasB (usT 4) ((2 : Nat) : Int) = false := by kernel_rfl
theorem tb4_3 : hasB (usT 4) ((3 : Nat) : Int) = false := by kernel_rfl
theorem tb4_4 : hasB (usT 4) ((4 : Nat) : Int) = false := by kernel_rfl
theorem tb4_5 : hasB (usT 4) ((5 : Nat) : Int) = true := by kernel_rfl
theorem tb4_6 : hasB (usT 4) ((6 : Nat) : Int) = false := by kernel_rfl
theorem tb4_7 : hasB (usT 4) ((7 : Nat) : Int) = false := by kernel_rfl
theorem tb5_0 : hasB (usT 5) ((0 : Nat) : Int) = false := by kernel_rfl
theorem tb5_1 : hasB (usT 5) ((1 : Nat) : Int) = true := by kernel_rfl
theorem tb5_2 : hasB (usT 5) ((2 : Nat) : Int) = false := by kernel_rfl
theorem tb5_3 : hasB (usT 5) ((3 : Nat) : Int) = false := by kernel_rfl
theorem tb5_4 : hasB (usT 5) ((4 : Nat) : Int) = false := by kernel_rfl
theorem tb5_5 : hasB (usT 5) ((5 : Nat) : Int) = false := by kernel_rfl
theorem tb5_6 : hasB (usT 5) ((6 : Nat) : Int) = false := by kernel_rfl
theorem tb5_7 : hasB (usT 5) ((7 : Nat) : Int) = false := by kernel_rfl
theorem tb6_0 : hasB (usT 6) ((0 : Nat) : Int) = false := by kernel_rfl
theorem tb6_1 : hasB (usT 6) ((1 : Nat) : Int) = false := by kernel_rfl
theorem tb6_2 : hasB (usT 6) ((2 : Nat) : Int) = false := by kernel_rfl
theorem tb6_3 : hasB (usT 6) ((3 : Nat) : Int) = false := by kernel_rfl
theorem tb6_4 : hasB (usT 6) ((4 : Nat) : Int) = false := by kernel_rfl
theorem tb6_5 : hasB (usT 6) ((5 : Nat) : Int) = true := by kernel_rfl
theorem tb6_6 : hasB (usT 6) ((6 : Nat) : Int) = true := by kernel_rfl
theorem tb6_7 : hasB (usT 6) ((7 : Nat) : Int) = false := by kernel_rfl
theorem tb7_0 : hasB (usT 7) ((0 : Nat) : Int) = true := by kernel_rfl
theorem tb7_1 : hasB (usT 7) ((1 : Nat) : Int) = false := by kernel_rfl
theorem tb7_2 : hasB (usT 7) ((2 : Nat) : Int) = false := by kernel_rfl
theorem tb7_3 : hasB (usT 7) ((3 : Nat) : Int) = false := by kernel_rfl
theorem tb7_4 : hasB (usT 7) ((4 : Nat) : Int) = false := by kernel_rfl
theorem tb7_5 : hasB (usT 7) ((5 : Nat) : Int) = false := by kernel_rfl
theorem tb7_6 : hasB (usT 7) ((6 : Nat) : Int) = false := by kernel_rfl
theorem tb7_7 : hasB (usT 7) ((7 : Nat) : Int) = false := by kernel_rfl
theorem tb8_0 : hasB (usT 8) ((0 : Nat) : Int) = false := by kernel_rfl
theorem tb8_1 : hasB (usT 8) ((1 : Nat) : Int) = true := by kernel_rfl
theorem tb8_2 : hasB (usT 8) ((2 : Nat) : Int) = false := by kernel_rfl
theorem tb8_3 : hasB (usT 8) ((3 : Nat) : Int) = false := by kernel_rfl
theorem tb8_4 : hasB (usT 8) ((4 : Nat) : Int) = false := by kernel_rfl
theorem tb8_5 : hasB (usT 8) ((5 : Nat) : Int) = false := by kernel_rfl
theorem tb8_6 : hasB (usT 8) ((6 : Nat) : Int) = false := by kernel_rfl
theorem tb8_7 : hasB (usT 8) ((7 : Nat) : Int) = false := by kernel_rfl
theorem tb9_0 : hasB (usT 9) ((0 : Nat) : Int) = true := by kernel_rfl
theorem tb9_1 : hasB (usT 9) ((1 : Nat) : Int) = true := by kernel_rfl
theorem tb9_2 : hasB (usT 9) ((2 : Nat) : Int) = false := by kernel_rfl
theorem tb9_3 : hasB (usT 9) ((3 : Nat) : Int) = false := by kernel_rfl
theorem tb9_4 : hasB (usT 9) ((4 : Nat) : Int) = false := by kernel_rfl
theorem tb9_5 : hasB (usT 9) ((5 : Nat) : Int) = false := by kernel_rfl
theorem tb9_6 : hasB (usT 9) ((6 : Nat) : Int) = false := by kernel_rfl
theorem tb9_7 : hasB (usT 9) ((7 : Nat) : Int) = false := by kernel_rfl
theorem tb10_0 : hasB (usT 10) ((0 : Nat) : Int) = false := by kernel_rfl
theorem tb10_1 : hasB (usT 10) ((1 : Nat) : Int) = true := by kernel_rfl
theorem tb10_2 : hasB (usT 10) ((2 : Nat) : Int) = false := by kernel_rfl
theorem tb10_3 : hasB (usT 10) ((3 : Nat) : Int) = false := by kernel_rfl
theorem tb10_4 : hasB (usT 10) ((4 : Nat) : Int) = false := by kernel_rfl
theorem tb10_5 : hasB (usT 10) ((5 : Nat) : Int) = false := by kernel_rfl
theorem tb10_6 : hasB (usT 10) ((6 : Nat) : Int) = false := by kernel_rfl
theorem tb10_7 : hasB (usT 10) ((7 : Nat) : Int) = false := by kernel_rfl
theorem tb11_0 : hasB (usT 11) ((0 : Nat) : Int) = true := by kernel_rfl
theorem tb11_1 : hasB (usT 11) ((1 : Nat) : Int) = false := by kernel_rfl
theorem tb11_2 : hasB (usT 11) ((2 : Nat) : Int) = true := by kernel_rfl
theorem tb11_3 : hasB (usT 11) ((3 : Nat) : Int) = true := by kernel_rfl
theorem tb11_4 : hasB (usT 11) ((4 : Nat) : Int) = false := by kernel_rfl
theorem tb11_5 : hasB (usT 11) ((5 : Nat) : Int) = false := by kernel_rfl
theorem tb11_6 : hasB (usT 11) ((6 : Nat) : Int) = false := by kernel_rfl
theorem tb11_7 : hasB (usT 11) ((7 : Nat) : Int) = false := by kernel_rfl
theorem tb12_0 : hasB (usT 12) ((0 : Nat) : Int) = true := by kernel_rfl
theorem tb12_1 : hasB (usT 12) ((1 : Nat) : Int) = false := by kernel_rfl
theorem tb12_2 : hasB (usT 12) ((2 : Nat) : Int) = true := by kernel_rfl
theorem tb12_3 : hasB (usT 12) ((3 : Nat) : Int) = false := by kernel_rfl
theorem tb12_4 : hasB (usT 12) ((4 : Nat) : Int) = false := by kernel_rfl
theorem tb12_5 : hasB (usT 12) ((5 : Nat) : Int) = false := by kernel_rfl
theorem tb12_6 : hasB (usT 12) ((6 : Nat) : Int) = false := by kernel_rfl
theorem tb12_7 : hasB (usT 12) ((7 : Nat) : Int) = false := by kernel_rfl
theorem tb13_0 : hasB (usT 13) ((0 : Nat) : Int) = true := by kernel_rfl
theorem tb13_1 : hasB (usT 13) ((1 : Nat) : Int) = false := by kernel_rfl
theorem tb13_2 : hasB (usT 13) ((2 : Nat) : Int) = true := by kernel_rfl
theorem tb13_3 : hasB (usT 13) ((3 : Nat) : Int) = false := by kernel_rfl
theorem tb13_4 : hasB (usT 13) ((4 : Nat) : Int) = false := by kernel_rfl
theorem tb13_5 : hasB (usT 13) ((5 : Nat) : Int) = false := by kernel_rfl
theorem tb13_6 : hasB (usT 13) ((6 : Nat) : Int) = false := by kernel_rfl
theorem tb13_7 : hasB (usT 13) ((7 : Nat) : Int) = false := by kernel_rfl
theorem tb14_0 : hasB (usT 14) ((0 : Nat) : Int) = true := by kernel_rfl
theorem tb14_1 : hasB (usT 14) ((1 : Nat) : Int) = false := by kernel_rfl
theorem tb14_2 : hasB (usT 14) ((2 : Nat) : Int) = true := by kernel_rfl
theorem tb14_3 : hasB (usT 14) ((3 : Nat) : Int) = false := by kernel_rfl
theorem tb14_4 : hasB (usT 14) ((4 : Nat) : Int) = false := by kernel_rfl
theorem tb14_5 : hasB (usT 14) ((5 : Nat) : Int) = false := by kernel_rfl
theorem tb14_6 : hasB (usT 14) ((6 : Nat) : Int) = false := by kernel_rfl
theorem tb14_7 : hasB (usT 14) ((7 : Nat) : Int) = false := by kernel_rfl
theorem tf1_0 : hasF (unL 1) nText = false := by rw [unL_1]; decide
theorem tf1_1 : hasF (unL 1) nN = false := by rw [unL_1]; decide
theorem tf1_2 : hasF (unL 1) nTarget = false := by rw [unL_1]; decide
theorem tf1_3 : hasF (unL 1) nThread = false := by rw [unL_1]; decide
theorem tf1_4 : hasF (unL 1) nVia = false := by rw [unL_1]; decide
theorem tf1_5 : hasF (unL 1) nAllow = false := by rw [unL_1]; decide
theorem tf1_6 : hasF (unL 1) nDeny = false := by rw [unL_1]; decide
theorem tf1_7 : hasF (unL 1) nLevels = false := by rw [unL_1]; decide
theorem tf2_0 : hasF (unL 2) nText = true := by rw [unL_2]; decide
theorem tf2_1 : hasF (unL 2) nN = true := by rw [unL_2]; decide
theorem tf2_2 : hasF (unL 2) nTarget = false := by rw [unL_2]; decide
theorem tf2_3 : hasF (unL 2) nThread = false := by rw [unL_2]; decide
theorem tf2_4 : hasF (unL 2) nVia = true := by rw [unL_2]; decide
theorem tf2_5 : hasF (unL 2) nAllow = false := by rw [unL_2]; decide
theorem tf2_6 : hasF (unL 2) nDeny = false := by rw [unL_2]; decide
theorem tf2_7 : hasF (unL 2) nLevels = false := by rw [unL_2]; decide
theorem tf3_0 : hasF (unL 3) nText = false := by rw [unL_3]; decide
theorem tf3_1 : hasF (unL 3) nN = false := by rw [unL_3]; decide
theorem tf3_2 : hasF (unL 3) nTarget = false := by rw [unL_3]; decide
theorem tf3_3 : hasF (unL 3) nThread = false := by rw [unL_3]; decide
theorem tf3_4 : hasF (unL 3) nVia = false := by rw [unL_3]; decide
theorem tf3_5 : hasF (unL 3) nAllow = false := by rw [unL_3]; decide
theorem tf3_6 : hasF (unL 3) nDeny = false := by rw [unL_3]; decide
theorem tf3_7 : hasF (unL 3) nLevels = true := by rw [unL_3]; decide
theorem tf4_0 : hasF (unL 4) nText = false := by rw [unL_4]; decide
theorem tf4_1 : hasF (unL 4) nN = true := by rw [unL_4]; decide
theorem tf4_2 : hasF (unL 4) nTarget = false := by rw [unL_4]; decide
theorem tf4_3 : hasF (unL 4) nThread = false := by rw [unL_4]; decide
theorem tf4_4 : hasF (unL 4) nVia = false := by rw [unL_4]; decide
theorem tf4_5 : hasF (unL 4) nAllow = true := by rw [unL_4]; decide
theorem tf4_6 : hasF (unL 4) nDeny = false := by rw [unL_4]; decide
theorem tf4_7 : hasF (unL 4) nLevels = false := by rw [unL_4]; decide
theorem tf5_0 : hasF (unL 5) nText = false := by rw [unL_5]; decide
theorem tf5_1 : hasF (unL 5) nN = true := by rw [unL_5]; decide
theorem tf5_2 : hasF (unL 5) nTarget = false := by rw [unL_5]; decide
theorem tf5_3 : hasF (unL 5) nThread = false := by rw [unL_5]; decide
theorem tf5_4 : hasF (unL 5) nVia = false := by rw [unL_5]; decide
theorem tf5_5 : hasF (unL 5) nAllow = false := by rw [unL_5]; decide
theorem tf5_6 : hasF (unL 5) nDeny = false := by rw [unL_5]; decide
theorem tf5_7 : hasF (unL 5) nLevels = false := by rw [unL_5]; decide
theorem tf6_0 : hasF (unL 6) nText = false := by rw [unL_6]; decide
theorem tf6_1 : hasF (unL 6) nN = false := by rw [unL_6]; decide
theorem tf6_2 : hasF (unL 6) nTarget = false := by rw [unL_6]; decide
theorem tf6_3 : hasF (unL 6) nThread = false := by rw [unL_6]; decide
theorem tf6_4 : hasF (unL 6) nVia = false := by rw [unL_6]; decide
theorem tf6_5 : hasF (unL 6) nAllow = true := by rw [unL_6]; decide
theorem tf6_6 : hasF (unL 6) nDeny = true := by rw [unL_6]; decide
theorem tf6_7 : hasF (unL 6) nLevels = false := by rw [unL_6]; decide
theorem tf7_0 : hasF (unL 7) nText = true := by rw [unL_7]; decide
theorem tf7_1 : hasF (unL 7) nN = false := by rw [unL_7]; decide
theorem tf7_2 : hasF (unL 7) nTarget = false := by rw [unL_7]; decide
theorem tf7_3 : hasF (unL 7) nThread = false := by rw [unL_7]; decide
theorem tf7_4 : hasF (unL 7) nVia = false := by rw [unL_7]; decide
theorem tf7_5 : hasF (unL 7) nAllow = false := by rw [unL_7]; decide
theorem tf7_6 : hasF (unL 7) nDeny = false := by rw [unL_7]; decide
theorem tf7_7 : hasF (unL 7) nLevels = false := by rw [unL_7]; decide
theorem tf8_0 : hasF (unL 8) nText = false := by rw [unL_8]; decide
theorem tf8_1 : hasF (unL 8) nN = true := by rw [unL_8]; decide
theorem tf8_2 : hasF (unL 8) nTarget = false := by rw [unL_8]; decide
theorem tf8_3 : hasF (unL 8) nThread = false := by rw [unL_8]; decide
theorem tf8_4 : hasF (unL 8) nVia = false := by rw [unL_8]; decide
theorem tf8_5 : hasF (unL 8) nAllow = false := by rw [unL_8]; decide
theorem tf8_6 : hasF (unL 8) nDeny = false := by rw [unL_8]; decide
theorem tf8_7 : hasF (unL 8) nLevels = false := by rw [unL_8]; decide
theorem tf9_0 : hasF (unL 9) nText = true := by rw [unL_9]; decide
theorem tf9_1 : hasF (unL 9) nN = true := by rw [unL_9]; decide
theorem tf9_2 : hasF (unL 9) nTarget = false := by rw [unL_9]; decide
theorem tf9_3 : hasF (unL 9) nThread = false := by rw [unL_9]; decide
theorem tf9_4 : hasF (unL 9) nVia = false := by rw [unL_9]; decide
theorem tf9_5 : hasF (unL 9) nAllow = false := by rw [unL_9]; decide
theorem tf9_6 : hasF (unL 9) nDeny = false := by rw [unL_9]; decide
theorem tf9_7 : hasF (unL 9) nLevels = false := by rw [unL_9]; decide
theorem tf10_0 : hasF (unL 10) nText = false := by rw [unL_10]; decide
theorem tf10_1 : hasF (unL 10) nN = true := by rw [unL_10]; decide
theorem tf10_2 : hasF (unL 10) nTarget = false := by rw [unL_10]; decide
theorem tf10_3 : hasF (unL 10) nThread = false := by rw [unL_10]; decide
theorem tf10_4 : hasF (unL 10) nVia = false := by rw [unL_10]; decide
theorem tf10_5 : hasF (unL 10) nAllow = false := by rw [unL_10]; decide
theorem tf10_6 : hasF (unL 10) nDeny = false := by rw [unL_10]; decide
theorem tf10_7 : hasF (unL 10) nLevels = false := by rw [unL_10]; decide
theorem tf11_0 : hasF (unL 11) nText = true := by rw [unL_11]; decide
theorem tf11_1 : hasF (unL 11) nN = false := by rw [unL_11]; decide
theorem tf11_2 : hasF (unL 11) nTarget = true := by rw [unL_11]; decide
theorem tf11_3 : hasF (unL 11) nThread = true := by rw [unL_11]; decide
theorem tf11_4 : hasF (unL 11) nVia = false := by rw [unL_11]; decide
theorem tf11_5 : hasF (unL 11) nAllow = false := by rw [unL_11]; decide
theorem tf11_6 : hasF (unL 11) nDeny = false := by rw [unL_11]; decide
theorem tf11_7 : hasF (unL 11) nLevels = false := by rw [unL_11]; decide
theorem tf12_0 : hasF (unL 12) nText = true := by rw [unL_12]; decide
theorem tf12_1 : hasF (unL 12) nN = false := by rw [unL_12]; decide
theorem tf12_2 : hasF (unL 12) nTarget = true := by rw [unL_12]; decide
theorem tf12_3 : hasF (unL 12) nThread = false := by rw [unL_12]; decide
theorem tf12_4 : hasF (unL 12) nVia = false := by rw [unL_12]; decide
theorem tf12_5 : hasF (unL 12) nAllow = false := by rw [unL_12]; decide
theorem tf12_6 : hasF (unL 12) nDeny = false := by rw [unL_12]; decide
theorem tf12_7 : hasF (unL 12) nLevels = false := by rw [unL_12]; decide
theorem tf13_0 : hasF (unL 13) nText = true := by rw [unL_13]; decide
theorem tf13_1 : hasF (unL 13) nN = false := by rw [unL_13]; decide
theorem tf13_2 : hasF (unL 13) nTarget = true := by rw [unL_13]; decide
theorem tf13_3 : hasF (unL 13) nThread = false := by rw [unL_13]; decide
theorem tf13_4 : hasF (unL 13) nVia = false := by rw [unL_13]; decide
theorem tf13_5 : hasF (unL 13) nAllow = false := by rw [unL_13]; decide
theorem tf13_6 : hasF (unL 13) nDeny = false := by rw [unL_13]; decide
theorem tf13_7 : hasF (unL 13) nLevels = false := by rw [unL_13]; decide
theorem tf14_0 : hasF (unL 14) nText = true := by rw [unL_14]; decide
theorem tf14_1 : hasF (unL 14) nN = false := by rw [unL_14]; decide
theorem tf14_2 : hasF (unL 14) nTarget = true := by rw [unL_14]; decide
theorem tf14_3 : hasF (unL 14) nThread = false := by rw [unL_14]; decide
theorem tf14_4 : hasF (unL 14) nVia = false := by rw [unL_14]; decide
theorem tf14_5 : hasF (unL 14) nAllow = false := by rw [unL_14]; decide
theorem tf14_6 : hasF (unL 14) nDeny = false := by rw [unL_14]; decide
theorem tf14_7 : hasF (unL 14) nLevels = false := by rw [unL_14]; decide

def rtail (k : Int) (C : Cn) : Int :=
  if ¬ txE k C.tx = 0 then txE k C.tx else if ¬ nmR k C.n = 0 then nmR k C.n else if ¬ tgR k C.tg C.th = 0 then tgR k C.tg C.th else if ¬ viE C.n C.via = 0 then viE C.n C.via else
  if k = 4 then chkR C.n C.al else if ¬ chkP C.al = 0 then chkP C.al else if ¬ chkP C.dn = 0 then chkP C.dn else chkL C.us C.ks (nmL C.d C.x3 C.x4 C.x5 C.x6 C.x7 C.x8)
theorem rchk_eq (k : Int) (C : Cn) : rchk k C = if kdB k = false then 1 else if onB k C = false then 1 else if baB k = true ∧ sameC C c0 = true then 0 else rtail k C := rfl
theorem fst8 (s k : Int) (C : Cn) : fstE s k C 0 8 =
 if hasB s ((0 : Nat) : Int) = true ∧ ¬ txE k C.tx = 0 then txE k C.tx else
 if hasB s ((1 : Nat) : Int) = true ∧ ¬ nmE k C.n = 0 then nmE k C.n else
 if hasB s ((2 : Nat) : Int) = true ∧ ¬ tgE k C.tg = 0 then tgE k C.tg else
 if hasB s ((3 : Nat) : Int) = true ∧ ¬ thE C.th C.tg = 0 then thE C.th C.tg else
 if hasB s ((4 : Nat) : Int) = true ∧ ¬ viE C.n C.via = 0 then viE C.n C.via else
 if hasB s ((5 : Nat) : Int) = true ∧ ¬ alE k C.n C.al = 0 then alE k C.n C.al else
 if hasB s ((6 : Nat) : Int) = true ∧ ¬ chkP C.dn = 0 then chkP C.dn else
 if hasB s ((7 : Nat) : Int) = true ∧ ¬ chkL C.us C.ks (nmL C.d C.x3 C.x4 C.x5 C.x6 C.x7 C.x8) = 0 then chkL C.us C.ks (nmL C.d C.x3 C.x4 C.x5 C.x6 C.x7 C.x8) else 0 := rfl
theorem sz_of {s : ByteArray} (h : (s.toList == []) = true) : s.size = 0 := by
 by_cases e : s.size = 0
 ·exact e
 ·rw [em_no e] at h; cases h
theorem tx_zero {k : Int} {s : ByteArray} (h : (s.toList == []) = true) (hk : ¬ k = 12) : txE k s = 0 := by
 unfold txE
 have hz := sz_of h
 by_cases h9 : k = 9
 ·rw [if_pos h9, if_pos hz]
 ·rw [if_neg h9, if_neg hk, if_neg (by rw [hz]; decide)]
theorem via_zero {n : Int} {s : ByteArray} (h : (s.toList == []) = true) : viE n s = 0 := by
 unfold viE
 rw [if_pos (sz_of h)]
theorem nil_of {l : List ByteArray} (h : ((l.length : Int) == 0) = true) : l = [] := by
 have : (l.length : Int) = 0 := by simpa using h
 exact List.eq_nil_of_length_eq_zero (by omega)
theorem lv_zero {us : List (ByteArray × Int)} {ks : List (Int × Int)} {d x3 x4 x5 x6 x7 x8 : Int} (h : sameL us [] ks [] [d, x3, x4, x5, x6, x7, x8] [0, 0, 0, 0, 0, 0, 0] = true) : chkL us ks (nmL d x3 x4 x5 x6 x7 x8) = 0 := by
 unfold sameL at h
 rw [Bool.and_eq_true, Bool.and_eq_true, sameN_iff] at h
 obtain ⟨h1, h2, h3⟩ := h
 rw [of_decide_eq_true h1, of_decide_eq_true h2]
 unfold nmL
 rw [h3]
 rfl
set_option maxHeartbeats 1000000 in
theorem tail_1 (C : Cn) (ho : onB 1 C = true) : fstE (usT 1) 1 C 0 8 = rtail 1 C := by
 unfold onB at ho
 rw [tf1_0, tf1_1, tf1_2, tf1_3, tf1_4, tf1_5, tf1_6, tf1_7] at ho
 simp only [Bool.or_true, Bool.or_false, Bool.and_true, Bool.true_and, Bool.and_eq_true] at ho
 obtain ⟨o0, o1, o2, o3, o4, o5, o6, o7⟩ := ho
 have f0 : txE 1 C.tx = 0 := tx_zero o0 (by decide)
 have f1 : nmR 1 C.n = 0 := by unfold nmR; simp
 have f2 : C.tg = 0 := by simpa using o2
 have f3 : C.th = false := by simpa using o3
 have f4 : viE C.n C.via = 0 := via_zero o4
 have f5 : C.al = [] := nil_of o5
 have f6 : chkP C.dn = 0 := by rw [nil_of o6]; rfl
 have f7 : chkL C.us C.ks (nmL C.d C.x3 C.x4 C.x5 C.x6 C.x7 C.x8) = 0 := lv_zero o7
 rw [fst8, tb1_0, tb1_1, tb1_2, tb1_3, tb1_4, tb1_5, tb1_6, tb1_7]
 unfold rtail
 have g2 : tgR 1 C.tg C.th = 0 := by unfold tgR; rw [f2, f3, tf1_2]; rfl
 have g5 : chkP C.al = 0 := by rw [f5]; rfl
 rw [f0, f1, g2, f4, f6, f7, g5]
 simp only [Bool.false_eq_true, false_and, if_false, true_and]
 rw [if_neg (by decide : ¬ (1 : Int) = 4)]
 rfl
set_option maxHeartbeats 1000000 in
theorem tail_2 (C : Cn) (ho : onB 2 C = true) : fstE (usT 2) 2 C 0 8 = rtail 2 C := by
 unfold onB at ho
 rw [tf2_0, tf2_1, tf2_2, tf2_3, tf2_4, tf2_5, tf2_6, tf2_7] at ho
 simp only [Bool.or_true, Bool.or_false, Bool.and_true, Bool.true_and, Bool.and_eq_true] at ho
 obtain ⟨o2, o3, o5, o6, o7⟩ := ho
 have f2 : C.tg = 0 := by simpa using o2
 have f3 : C.th = false := by simpa using o3
 have f5 : C.al = [] := nil_of o5
 have f6 : chkP C.dn = 0 := by rw [nil_of o6]; rfl
 have f7 : chkL C.us C.ks (nmL C.d C.x3 C.x4 C.x5 C.x6 C.x7 C.x8) = 0 := lv_zero o7
 rw [fst8, tb2_0, tb2_1, tb2_2, tb2_3, tb2_4, tb2_5, tb2_6, tb2_7]
 unfold rtail
 have g1 : nmR 2 C.n = nmE 2 C.n := by unfold nmR nmE; simp
 have g2 : tgR 2 C.tg C.th = 0 := by unfold tgR; rw [f2, f3, tf2_2]; rfl
 have g5 : chkP C.al = 0 := by rw [f5]; rfl
 rw [g1, g2, f6, f7, g5]
 simp only [Bool.false_eq_true, false_and, if_false, true_and]
 rw [if_neg (by decide : ¬ (2 : Int) = 4)]
 generalize txE 2 C.tx = v0
 generalize nmE 2 C.n = v1
 generalize viE C.n C.via = v4
 by_cases h0 : v0 = 0 <;> by_cases h1 : v1 = 0 <;> by_cases h4 : v4 = 0 <;> simp [h0, h1, h4]
set_option maxHeartbeats 1000000 in
theorem tail_3 (C : Cn) (ho : onB 3 C = true) : fstE (usT 3) 3 C 0 8 = rtail 3 C := by
 unfold onB at ho
 rw [tf3_0, tf3_1, tf3_2, tf3_3, tf3_4, tf3_5, tf3_6, tf3_7] at ho
 simp only [Bool.or_true, Bool.or_false, Bool.and_true, Bool.true_and, Bool.and_eq_true] at ho
 obtain ⟨o0, o1, o2, o3, o4, o5, o6⟩ := ho
 have f0 : txE 3 C.tx = 0 := tx_zero o0 (by decide)
 have f1 : nmR 3 C.n = 0 := by unfold nmR; simp
 have f2 : C.tg = 0 := by simpa using o2
 have f3 : C.th = false := by simpa using o3
 have f4 : viE C.n C.via = 0 := via_zero o4
 have f5 : C.al = [] := nil_of o5
 have f6 : chkP C.dn = 0 := by rw [nil_of o6]; rfl
 rw [fst8, tb3_0, tb3_1, tb3_2, tb3_3, tb3_4, tb3_5, tb3_6, tb3_7]
 unfold rtail
 have g2 : tgR 3 C.tg C.th = 0 := by unfold tgR; rw [f2, f3, tf3_2]; rfl
 have g5 : chkP C.al = 0 := by rw [f5]; rfl
 rw [f0, f1, g2, f4, f6, g5]
 simp only [Bool.false_eq_true, false_and, if_false, true_and]
 rw [if_neg (by decide : ¬ (3 : Int) = 4)]
 generalize chkL C.us C.ks (nmL C.d C.x3 C.x4 C.x5 C.x6 C.x7 C.x8) = v7
 by_cases h7 : v7 = 0 <;> simp [h7]
set_option maxHeartbeats 1000000 in
theorem tail_4 (C : Cn) (ho : onB 4 C = true) : fstE (usT 4) 4 C 0 8 = rtail 4 C := by
 unfold onB at ho
 rw [tf4_0, tf4_1, tf4_2, tf4_3, tf4_4, tf4_5, tf4_6, tf4_7] at ho
 simp only [Bool.or_true, Bool.or_false, Bool.and_true, Bool.true_and, Bool.and_eq_true] at ho
 obtain ⟨o0, o2, o3, o4, o6, o7⟩ := ho
 have f0 : txE 4 C.tx = 0 := tx_zero o0 (by decide)
 have f2 : C.tg = 0 := by simpa using o2
 have f3 : C.th = false := by simpa using o3
 have f4 : viE C.n C.via = 0 := via_zero o4
 have f6 : chkP C.dn = 0 := by rw [nil_of o6]; rfl
 have f7 : chkL C.us C.ks (nmL C.d C.x3 C.x4 C.x5 C.x6 C.x7 C.x8) = 0 := lv_zero o7
 rw [fst8, tb4_0, tb4_1, tb4_2, tb4_3, tb4_4, tb4_5, tb4_6, tb4_7]
 unfold rtail
 have g1 : nmR 4 C.n = nmE 4 C.n := by unfold nmR nmE; simp
 have g2 : tgR 4 C.tg C.th = 0 := by unfold tgR; rw [f2, f3, tf4_2]; rfl
 rw [f0, g1, g2, f4]
 simp only [Bool.false_eq_true, false_and, if_false, true_and]
 rw [show alE 4 C.n C.al = chkR C.n C.al from rfl]
 rw [if_pos trivial]
 generalize nmE 4 C.n = v1
 generalize chkR C.n C.al = v5
 by_cases h1 : v1 = 0 <;> by_cases h5 : v5 = 0 <;> simp [h1, h5]
set_option maxHeartbeats 1000000 in
theorem tail_5 (C : Cn) (ho : onB 5 C = true) : fstE (usT 5) 5 C 0 8 = rtail 5 C := by
 unfold onB at ho
 rw [tf5_0, tf5_1, tf5_2, tf5_3, tf5_4, tf5_5, tf5_6, tf5_7] at ho
 simp only [Bool.or_true, Bool.or_false, Bool.and_true, Bool.true_and, Bool.and_eq_true] at ho
 obtain ⟨o0, o2, o3, o4, o5, o6, o7⟩ := ho
 have f0 : txE 5 C.tx = 0 := tx_zero o0 (by decide)
 have f2 : C.tg = 0 := by simpa using o2
 have f3 : C.th = false := by simpa using o3
 have f4 : viE C.n C.via = 0 := via_zero o4
 have f5 : C.al = [] := nil_of o5
 have f6 : chkP C.dn = 0 := by rw [nil_of o6]; rfl
 have f7 : chkL C.us C.ks (nmL C.d C.x3 C.x4 C.x5 C.x6 C.x7 C.x8) = 0 := lv_zero o7
 rw [fst8, tb5_0, tb5_1, tb5_2, tb5_3, tb5_4, tb5_5, tb5_6, tb5_7]
 unfold rtail
 have g1 : nmR 5 C.n = nmE 5 C.n := by unfold nmR nmE; simp
 have g2 : tgR 5 C.tg C.th = 0 := by unfold tgR; rw [f2, f3, tf5_2]; rfl
 have g5 : chkP C.al = 0 := by rw [f5]; rfl
 rw [f0, g1, g2, f4, f6, f7, g5]
 simp only [Bool.false_eq_true, false_and, if_false, true_and]
 rw [if_neg (by decide : ¬ (5 : Int) = 4)]
 generalize nmE 5 C.n = v1
 by_cases h1 : v1 = 0 <;> simp [h1]
set_option maxHeartbeats 1000000 in
theorem tail_6 (C : Cn) (ho : onB 6 C = true) : fstE (usT 6) 6 C 0 8 = rtail 6 C := by
 unfold onB at ho
 rw [tf6_0, tf6_1, tf6_2, tf6_3, tf6_4, tf6_5, tf6_6, tf6_7] at ho
 simp only [Bool.or_true, Bool.or_false, Bool.and_true, Bool.true_and, Bool.and_eq_true] at ho
 obtain ⟨o0, o1, o2, o3, o4, o7⟩ := ho
 have f0 : txE 6 C.tx = 0 := tx_zero o0 (by decide)
 have f1 : nmR 6 C.n = 0 := by unfold nmR; simp
 have f2 : C.tg = 0 := by simpa using o2
 have f3 : C.th = false := by simpa using o3
 have f4 : viE C.n C.via = 0 := via_zero o4
 have f7 : chkL C.us C.ks (nmL C.d C.x3 C.x4 C.x5 C.x6 C.x7 C.x8) = 0 := lv_zero o7
 rw [fst8, tb6_0, tb6_1, tb6_2, tb6_3, tb6_4, tb6_5, tb6_6, tb6_7]
 unfold rtail
 have g2 : tgR 6 C.tg C.th = 0 := by unfold tgR; rw [f2, f3, tf6_2]; rfl
 rw [f0, f1, g2, f4, f7]
 simp only [Bool.false_eq_true, false_and, if_false, true_and]
 rw [show alE 6 C.n C.al = chkP C.al from rfl]
 rw [if_neg (by decide : ¬ (6 : Int) = 4)]
 generalize chkP C.al = v5
 generalize chkP C.dn = v6
 by_cases h5 : v5 = 0 <;> by_cases h6 : v6 = 0 <;> simp [h5, h6]
set_option maxHeartbeats 1000000 in
theorem tail_7 (C : Cn) (ho : onB 7 C = true) : fstE (usT 7) 7 C 0 8 = rtail 7 C := by
 unfold onB at ho
 rw [tf7_0, tf7_1, tf7_2, tf7_3, tf7_4, tf7_5, tf7_6, tf7_7] at ho
 simp only [Bool.or_true, Bool.or_false, Bool.and_true, Bool.true_and, Bool.and_eq_true] at ho
 obtain ⟨o1, o2, o3, o4, o5, o6, o7⟩ := ho
 have f1 : nmR 7 C.n = 0 := by unfold nmR; simp
 have f2 : C.tg = 0 := by simpa using o2
 have f3 : C.th = false := by simpa using o3
 have f4 : viE C.n C.via = 0 := via_zero o4
 have f5 : C.al = [] := nil_of o5
 have f6 : chkP C.dn = 0 := by rw [nil_of o6]; rfl
 have f7 : chkL C.us C.ks (nmL C.d C.x3 C.x4 C.x5 C.x6 C.x7 C.x8) = 0 := lv_zero o7
 rw [fst8, tb7_0, tb7_1, tb7_2, tb7_3, tb7_4, tb7_5, tb7_6, tb7_7]
 unfold rtail
 have g2 : tgR 7 C.tg C.th = 0 := by unfold tgR; rw [f2, f3, tf7_2]; rfl
 have g5 : chkP C.al = 0 := by rw [f5]; rfl
 rw [f1, g2, f4, f6, f7, g5]
 simp only [Bool.false_eq_true, false_and, if_false, true_and]
 rw [if_neg (by decide : ¬ (7 : Int) = 4)]
 generalize txE 7 C.tx = v0
 by_cases h0 : v0 = 0 <;> simp [h0]
set_option maxHeartbeats 1000000 in
theorem tail_8 (C : Cn) (ho : onB 8 C = true) : fstE (usT 8) 8 C 0 8 = rtail 8 C := by
 unfold onB at ho
 rw [tf8_0, tf8_1, tf8_2, tf8_3, tf8_4, tf8_5, tf8_6, tf8_7] at ho
 simp only [Bool.or_true, Bool.or_false, Bool.and_true, Bool.true_and, Bool.and_eq_true] at ho
 obtain ⟨o0, o2, o3, o4, o5, o6, o7⟩ := ho
 have f0 : txE 8 C.tx = 0 := tx_zero o0 (by decide)
 have f2 : C.tg = 0 := by simpa using o2
 have f3 : C.th = false := by simpa using o3
 have f4 : viE C.n C.via = 0 := via_zero o4
 have f5 : C.al = [] := nil_of o5
 have f6 : chkP C.dn = 0 := by rw [nil_of o6]; rfl
 have f7 : chkL C.us C.ks (nmL C.d C.x3 C.x4 C.x5 C.x6 C.x7 C.x8) = 0 := lv_zero o7
 rw [fst8, tb8_0, tb8_1, tb8_2, tb8_3, tb8_4, tb8_5, tb8_6, tb8_7]
 unfold rtail
 have g1 : nmR 8 C.n = nmE 8 C.n := by unfold nmR nmE; simp
 have g2 : tgR 8 C.tg C.th = 0 := by unfold tgR; rw [f2, f3, tf8_2]; rfl
 have g5 : chkP C.al = 0 := by rw [f5]; rfl
 rw [f0, g1, g2, f4, f6, f7, g5]
 simp only [Bool.false_eq_true, false_and, if_false, true_and]
 rw [if_neg (by decide : ¬ (8 : Int) = 4)]
 generalize nmE 8 C.n = v1
 by_cases h1 : v1 = 0 <;> simp [h1]
set_option maxHeartbeats 1000000 in
theorem tail_9 (C : Cn) (ho : onB 9 C = true) : fstE (usT 9) 9 C 0 8 = rtail 9 C := by
 unfold onB at ho
 rw [tf9_0, tf9_1, tf9_2, tf9_3, tf9_4, tf9_5, tf9_6, tf9_7] at ho
 simp only [Bool.or_true, Bool.or_false, Bool.and_true, Bool.true_and, Bool.and_eq_true] at ho
 obtain ⟨o2, o3, o4, o5, o6, o7⟩ := ho
 have f2 : C.tg = 0 := by simpa using o2
 have f3 : C.th = false := by simpa using o3
 have f4 : viE C.n C.via = 0 := via_zero o4
 have f5 : C.al = [] := nil_of o5
 have f6 : chkP C.dn = 0 := by rw [nil_of o6]; rfl
 have f7 : chkL C.us C.ks (nmL C.d C.x3 C.x4 C.x5 C.x6 C.x7 C.x8) = 0 := lv_zero o7
 rw [fst8, tb9_0, tb9_1, tb9_2, tb9_3, tb9_4, tb9_5, tb9_6, tb9_7]
 unfold rtail
 have g1 : nmR 9 C.n = nmE 9 C.n := by unfold nmR nmE; simp
 have g2 : tgR 9 C.tg C.th = 0 := by unfold tgR; rw [f2, f3, tf9_2]; rfl
 have g5 : chkP C.al = 0 := by rw [f5]; rfl
 rw [g1, g2, f4, f6, f7, g5]
 simp only [Bool.false_eq_true, false_and, if_false, true_and]
 rw [if_neg (by decide : ¬ (9 : Int) = 4)]
 generalize txE 9 C.tx = v0
 generalize nmE 9 C.n = v1
 by_cases h0 : v0 = 0 <;> by_cases h1 : v1 = 0 <;> simp [h0, h1]
set_option maxHeartbeats 1000000 in
theorem tail_10 (C : Cn) (ho : onB 10 C = true) : fstE (usT 10) 10 C 0 8 = rtail 10 C := by
 unfold onB at ho
 rw [tf10_0, tf10_1, tf10_2, tf10_3, tf10_4, tf10_5, tf10_6, tf10_7] at ho
 simp only [Bool.or_true, Bool.or_false, Bool.and_true, Bool.true_and, Bool.and_eq_true] at ho
 obtain ⟨o0, o2, o3, o4, o5, o6, o7⟩ := ho
 have f0 : txE 10 C.tx = 0 := tx_zero o0 (by decide)
 have f2 : C.tg = 0 := by simpa using o2
 have f3 : C.th = false := by simpa using o3
 have f4 : viE C.n C.via = 0 := via_zero o4
 have f5 : C.al = [] := nil_of o5
 have f6 : chkP C.dn = 0 := by rw [nil_of o6]; rfl
 have f7 : chkL C.us C.ks (nmL C.d C.x3 C.x4 C.x5 C.x6 C.x7 C.x8) = 0 := lv_zero o7
 rw [fst8, tb10_0, tb10_1, tb10_2, tb10_3, tb10_4, tb10_5, tb10_6, tb10_7]
 unfold rtail
 have g1 : nmR 10 C.n = nmE 10 C.n := by unfold nmR nmE; simp
 have g2 : tgR 10 C.tg C.th = 0 := by unfold tgR; rw [f2, f3, tf10_2]; rfl
 have g5 : chkP C.al = 0 := by rw [f5]; rfl
 rw [f0, g1, g2, f4, f6, f7, g5]
 simp only [Bool.false_eq_true, false_and, if_false, true_and]
 rw [if_neg (by decide : ¬ (10 : Int) = 4)]
 generalize nmE 10 C.n = v1
 by_cases h1 : v1 = 0 <;> simp [h1]
set_option maxHeartbeats 1000000 in
theorem tail_11 (C : Cn) (ho : onB 11 C = true) : fstE (usT 11) 11 C 0 8 = rtail 11 C := by
 unfold onB at ho
 rw [tf11_0, tf11_1, tf11_2, tf11_3, tf11_4, tf11_5, tf11_6, tf11_7] at ho
 simp only [Bool.or_true, Bool.or_false, Bool.and_true, Bool.true_and, Bool.and_eq_true] at ho
 obtain ⟨o1, o4, o5, o6, o7⟩ := ho
 have f1 : nmR 11 C.n = 0 := by unfold nmR; simp
 have f4 : viE C.n C.via = 0 := via_zero o4
 have f5 : C.al = [] := nil_of o5
 have f6 : chkP C.dn = 0 := by rw [nil_of o6]; rfl
 have f7 : chkL C.us C.ks (nmL C.d C.x3 C.x4 C.x5 C.x6 C.x7 C.x8) = 0 := lv_zero o7
 rw [fst8, tb11_0, tb11_1, tb11_2, tb11_3, tb11_4, tb11_5, tb11_6, tb11_7]
 unfold rtail
 have g5 : chkP C.al = 0 := by rw [f5]; rfl
 rw [f1, f4, f6, f7, g5]
 simp only [Bool.false_eq_true, false_and, if_false, true_and]
 have g2 : tgR 11 C.tg C.th = if ¬ tgE 11 C.tg = 0 then tgE 11 C.tg else thE C.th C.tg := by unfold tgR tgE thE; rw [tf11_2]; simp only [true_and]; split <;> simp
 rw [g2]
 rw [if_neg (by decide : ¬ (11 : Int) = 4)]
 generalize txE 11 C.tx = v0
 generalize tgE 11 C.tg = v2
 generalize thE C.th C.tg = v3
 by_cases h0 : v0 = 0 <;> by_cases h2 : v2 = 0 <;> by_cases h3 : v3 = 0 <;> simp [h0, h2, h3]
set_option maxHeartbeats 1000000 in
theorem tail_12 (C : Cn) (ho : onB 12 C = true) : fstE (usT 12) 12 C 0 8 = rtail 12 C := by
 unfold onB at ho
 rw [tf12_0, tf12_1, tf12_2, tf12_3, tf12_4, tf12_5, tf12_6, tf12_7] at ho
 simp only [Bool.or_true, Bool.or_false, Bool.and_true, Bool.true_and, Bool.and_eq_true] at ho
 obtain ⟨o1, o3, o4, o5, o6, o7⟩ := ho
 have f1 : nmR 12 C.n = 0 := by unfold nmR; simp
 have f3 : C.th = false := by simpa using o3
 have f4 : viE C.n C.via = 0 := via_zero o4
 have f5 : C.al = [] := nil_of o5
 have f6 : chkP C.dn = 0 := by rw [nil_of o6]; rfl
 have f7 : chkL C.us C.ks (nmL C.d C.x3 C.x4 C.x5 C.x6 C.x7 C.x8) = 0 := lv_zero o7
 rw [fst8, tb12_0, tb12_1, tb12_2, tb12_3, tb12_4, tb12_5, tb12_6, tb12_7]
 unfold rtail
 have g2 : tgR 12 C.tg C.th = tgE 12 C.tg := by unfold tgR tgE; rw [f3, tf12_2]; simp only [true_and, Bool.false_eq_true, false_and, if_false]
 have g5 : chkP C.al = 0 := by rw [f5]; rfl
 rw [f1, g2, f4, f6, f7, g5]
 simp only [Bool.false_eq_true, false_and, if_false, true_and]
 rw [if_neg (by decide : ¬ (12 : Int) = 4)]
 generalize txE 12 C.tx = v0
 generalize tgE 12 C.tg = v2
 by_cases h0 : v0 = 0 <;> by_cases h2 : v2 = 0 <;> simp [h0, h2]
set_option maxHeartbeats 1000000 in
theorem tail_13 (C : Cn) (ho : onB 13 C = true) : fstE (usT 13) 13 C 0 8 = rtail 13 C := by
 unfold onB at ho
 rw [tf13_0, tf13_1, tf13_2, tf13_3, tf13_4, tf13_5, tf13_6, tf13_7] at ho
 simp only [Bool.or_true, Bool.or_false, Bool.and_true, Bool.true_and, Bool.and_eq_true] at ho
 obtain ⟨o1, o3, o4, o5, o6, o7⟩ := ho
 have f1 : nmR 13 C.n = 0 := by unfold nmR; simp
 have f3 : C.th = false := by simpa using o3
 have f4 : viE C.n C.via = 0 := via_zero o4
 have f5 : C.al = [] := nil_of o5
 have f6 : chkP C.dn = 0 := by rw [nil_of o6]; rfl
 have f7 : chkL C.us C.ks (nmL C.d C.x3 C.x4 C.x5 C.x6 C.x7 C.x8) = 0 := lv_zero o7
 rw [fst8, tb13_0, tb13_1, tb13_2, tb13_3, tb13_4, tb13_5, tb13_6, tb13_7]
 unfold rtail
 have g2 : tgR 13 C.tg C.th = tgE 13 C.tg := by unfold tgR tgE; rw [f3, tf13_2]; simp only [true_and, Bool.false_eq_true, false_and, if_false]
 have g5 : chkP C.al = 0 := by rw [f5]; rfl
 rw [f1, g2, f4, f6, f7, g5]
 simp only [Bool.false_eq_true, false_and, if_false, true_and]
 rw [if_neg (by decide : ¬ (13 : Int) = 4)]
 generalize txE 13 C.tx = v0
 generalize tgE 13 C.tg = v2
 by_cases h0 : v0 = 0 <;> by_cases h2 : v2 = 0 <;> simp [h0, h2]
set_option maxHeartbeats 1000000 in
theorem tail_14 (C : Cn) (ho : onB 14 C = true) : fstE (usT 14) 14 C 0 8 = rtail 14 C := by
 unfold onB at ho
 rw [tf14_0, tf14_1, tf14_2, tf14_3, tf14_4, tf14_5, tf14_6, tf14_7] at ho
 simp only [Bool.or_true, Bool.or_false, Bool.and_true, Bool.true_and, Bool.and_eq_true] at ho
 obtain ⟨o1, o3, o4, o5, o6, o7⟩ := ho
 have f1 : nmR 14 C.n = 0 := by unfold nmR; simp
 have f3 : C.th = false := by simpa using o3
 have f4 : viE C.n C.via = 0 := via_zero o4
 have f5 : C.al = [] := nil_of o5
 have f6 : chkP C.dn = 0 := by rw [nil_of o6]; rfl
 have f7 : chkL C.us C.ks (nmL C.d C.x3 C.x4 C.x5 C.x6 C.x7 C.x8) = 0 := lv_zero o7
 rw [fst8, tb14_0, tb14_1, tb14_2, tb14_3, tb14_4, tb14_5, tb14_6, tb14_7]
 unfold rtail
 have g2 : tgR 14 C.tg C.th = tgE 14 C.tg := by unfold tgR tgE; rw [f3, tf14_2]; simp only [true_and, Bool.false_eq_true, false_and, if_false]
 have g5 : chkP C.al = 0 := by rw [f5]; rfl
 rw [f1, g2, f4, f6, f7, g5]
 simp only [Bool.false_eq_true, false_and, if_false, true_and]
 rw [if_neg (by decide : ¬ (14 : Int) = 4)]
 generalize txE 14 C.tx = v0
 generalize tgE 14 C.tg = v2
 by_cases h0 : v0 = 0 <;> by_cases h2 : v2 = 0 <;> simp [h0, h2]
end Go.Proofs.YtablocpcgknmaaaGreatDoor
