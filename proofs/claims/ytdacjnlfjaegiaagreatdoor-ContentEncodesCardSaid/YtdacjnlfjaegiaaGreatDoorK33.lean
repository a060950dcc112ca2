/- Decoding of no bytes and of the bytes of nothing. No condition. -/
import Derived.Test.YtdacjnlfjaegiaaGreatDoorK32
namespace Go.Proofs.YtdacjnlfjaegiaaGreatDoor
open Go Go.RowKit
set_option linter.unusedVariables false
set_option linter.unusedSimpArgs false
set_option maxRecDepth 100000

theorem enc_zero : encC c0 = [0, 0, 0, 0, 0, 0, 0, 0, 0, 0, 0, 0, 0, 0, 0, 0] := by kernel_rfl
theorem dn_e0 : gtk Cd.gt (.string ⟨#[]⟩)  ([] : List Int) false = (.string ⟨#[]⟩, ([] : List Int), true) := by kernel_rfl
theorem dn_e1 : gtkI ([] : List Int) true = (0, ([] : List Int), true) := by kernel_rfl
theorem dn_e2 : gtkI ([] : List Int) true = (0, ([] : List Int), true) := by kernel_rfl
theorem dn_e3 : gtk Cd.gb (.bool false) ([] : List Int) true = (.bool false, ([] : List Int), true) := by kernel_rfl
theorem dn_e4 : gtk Cd.gt (.string ⟨#[]⟩) ([] : List Int) true = (.string ⟨#[]⟩, ([] : List Int), true) := by kernel_rfl
theorem dn_e5 : gtkL ([] : List Int) true = ([], ([] : List Int), true) := by kernel_rfl
theorem dn_e6 : gtkL ([] : List Int) true = ([], ([] : List Int), true) := by kernel_rfl
theorem dn_k1 : (cntk ([] : List Int) true).1 = 0 := by kernel_rfl
theorem dn_k2 : (cntk (cntk ([] : List Int) true).2.1 (cntk ([] : List Int) true).2.2).1 = 0 := by kernel_rfl
theorem dn_e8 : takes (cntk (cntk ([] : List Int) true).2.1 (cntk ([] : List Int) true).2.2).2.1 (cntk (cntk ([] : List Int) true).2.1 (cntk ([] : List Int) true).2.2).2.2 7 = ([0, 0, 0, 0, 0, 0, 0], ([] : List Int), true) := by kernel_rfl
theorem dz_e0 : gtk Cd.gt (.string ⟨#[]⟩) [0, 0, 0, 0, 0, 0, 0, 0, 0, 0, 0, 0, 0, 0, 0, 0] false = (.string ⟨#[]⟩, [0, 0, 0, 0, 0, 0, 0, 0, 0, 0, 0, 0, 0, 0, 0], false) := by kernel_rfl
theorem dz_e1 : gtkI [0, 0, 0, 0, 0, 0, 0, 0, 0, 0, 0, 0, 0, 0, 0] false = (0, [0, 0, 0, 0, 0, 0, 0, 0, 0, 0, 0, 0, 0, 0], false) := by kernel_rfl
theorem dz_e2 : gtkI [0, 0, 0, 0, 0, 0, 0, 0, 0, 0, 0, 0, 0, 0] false = (0, [0, 0, 0, 0, 0, 0, 0, 0, 0, 0, 0, 0, 0], false) := by kernel_rfl
theorem dz_e3 : gtk Cd.gb (.bool false) [0, 0, 0, 0, 0, 0, 0, 0, 0, 0, 0, 0, 0] false = (.bool false, [0, 0, 0, 0, 0, 0, 0, 0, 0, 0, 0, 0], false) := by kernel_rfl
theorem dz_e4 : gtk Cd.gt (.string ⟨#[]⟩) [0, 0, 0, 0, 0, 0, 0, 0, 0, 0, 0, 0] false = (.string ⟨#[]⟩, [0, 0, 0, 0, 0, 0, 0, 0, 0, 0, 0], false) := by kernel_rfl
theorem dz_e5 : gtkL [0, 0, 0, 0, 0, 0, 0, 0, 0, 0, 0] false = ([], [0, 0, 0, 0, 0, 0, 0, 0, 0, 0], false) := by kernel_rfl
theorem dz_e6 : gtkL [0, 0, 0, 0, 0, 0, 0, 0, 0, 0] false = ([], [0, 0, 0, 0, 0, 0, 0, 0, 0], false) := by kernel_rfl
theorem dz_k1 : (cntk [0, 0, 0, 0, 0, 0, 0, 0, 0] false).1 = 0 := by kernel_rfl
theorem dz_k2 : (cntk (cntk [0, 0, 0, 0, 0, 0, 0, 0, 0] false).2.1 (cntk [0, 0, 0, 0, 0, 0, 0, 0, 0] false).2.2).1 = 0 := by kernel_rfl
theorem dz_e8 : takes (cntk (cntk [0, 0, 0, 0, 0, 0, 0, 0, 0] false).2.1 (cntk [0, 0, 0, 0, 0, 0, 0, 0, 0] false).2.2).2.1 (cntk (cntk [0, 0, 0, 0, 0, 0, 0, 0, 0] false).2.1 (cntk [0, 0, 0, 0, 0, 0, 0, 0, 0] false).2.2).2.2 7 = ([0, 0, 0, 0, 0, 0, 0], ([] : List Int), false) := by kernel_rfl
theorem decode_nil (w : World) : Calls Tryz.prog 30 #[.slice none 0 0] w (DcP false c0 w) :=
  decode30z ([]) ([]) ([]) ([]) ([]) ([]) ([]) ([]) ([]) true true true true true true true true ⟨#[]⟩ ⟨#[]⟩ 0 0 0 0 0 0 0 0 0 false dn_e0 dn_e1 dn_e2 dn_e3 dn_e4 dn_e5 dn_e6 dn_k1 dn_k2 dn_e8 (by decide) (by decide) (by decide) (by decide) (by decide) (by decide) (by decide) (by decide) false rfl none 0 w (Cd.Sl.empty w none 0 (fun _ => rfl))
theorem decode_zero (A : Option Addr) (c : Nat) (w : World) (h : Cd.Sl w A 16 c [0, 0, 0, 0, 0, 0, 0, 0, 0, 0, 0, 0, 0, 0, 0, 0]) : Calls Tryz.prog 30 #[.slice A 16 c] w (DcP true c0 w) :=
  decode30z ([0, 0, 0, 0, 0, 0, 0, 0, 0, 0, 0, 0, 0, 0, 0, 0]) ([0, 0, 0, 0, 0, 0, 0, 0, 0, 0, 0, 0, 0, 0, 0]) ([0, 0, 0, 0, 0, 0, 0, 0, 0, 0, 0, 0, 0, 0]) ([0, 0, 0, 0, 0, 0, 0, 0, 0, 0, 0, 0, 0]) ([0, 0, 0, 0, 0, 0, 0, 0, 0, 0, 0, 0]) ([0, 0, 0, 0, 0, 0, 0, 0, 0, 0, 0]) ([0, 0, 0, 0, 0, 0, 0, 0, 0, 0]) ([0, 0, 0, 0, 0, 0, 0, 0, 0]) ([]) false false false false false false false false ⟨#[]⟩ ⟨#[]⟩ 0 0 0 0 0 0 0 0 0 false dz_e0 dz_e1 dz_e2 dz_e3 dz_e4 dz_e5 dz_e6 dz_k1 dz_k2 dz_e8 (by decide) (by decide) (by decide) (by decide) (by decide) (by decide) (by decide) (by decide) true rfl A c w h
end Go.Proofs.YtdacjnlfjaegiaaGreatDoor
