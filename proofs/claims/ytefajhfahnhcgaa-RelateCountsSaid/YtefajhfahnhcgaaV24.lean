/- Relations: what the specs say of the example. No condition. -/
import Derived.Test.YtefajhfahnhcgaaV23
import Derived.Test.YtefajhfahnhcgaaV18
namespace Go.Proofs.Ytefajhfahnhcgaa
open Go Go.RowKit
set_option linter.unusedVariables false
set_option maxRecDepth 100000

abbrev aC : List Value := [.int .i64 9, .string ⟨#[]⟩, .string ⟨#[64, 98, 58, 115]⟩, .int .i64 12, .bool false, .string ⟨#[]⟩, .int .i64 0, .int .i64 0, .slice none 0 0, .slice none 0 0, .string ⟨#[43]⟩, .int .i64 0, .int .i64 1, .bool false, .string ⟨#[]⟩, .slice none 0 0, .slice none 0 0, .slice none 0 0, .slice none 0 0, .int .i64 0, .int .i64 0, .int .i64 0, .int .i64 0, .int .i64 0, .int .i64 0, .int .i64 0, .int .i64 0, .string ⟨#[]⟩, .int .i64 0]
abbrev bC : List Value := [.int .i64 9, .string ⟨#[]⟩, .string ⟨#[64, 98, 58, 115]⟩, .int .i64 12, .bool false, .string ⟨#[]⟩, .int .i64 0, .int .i64 0, .slice none 0 0, .slice none 0 0, .string ⟨#[43]⟩, .int .i64 0, .int .i64 2, .bool false, .string ⟨#[]⟩, .slice none 0 0, .slice none 0 0, .slice none 0 0, .slice none 0 0, .int .i64 0, .int .i64 0, .int .i64 0, .int .i64 0, .int .i64 0, .int .i64 0, .int .i64 0, .int .i64 0, .string ⟨#[]⟩, .int .i64 0]
abbrev eA : Me := ⟨9, ⟨#[64, 98, 58, 115]⟩, 12, 0, ⟨#[43]⟩, 1, false, aC⟩
abbrev eW : Me := ⟨9, ⟨#[64, 98, 58, 115]⟩, 12, 0, ⟨#[43]⟩, 2, false, bC⟩
theorem s_gt : gt SE 6 1 = some 0 := by kernel_rfl
theorem s_onc : onc SE 6 = [0, 1, 2, 3, 4, 5] := by kernel_rfl
theorem s_ed : idO SE (ltL SE ((onc SE 6).filter (isEd SE 1 (SE 0).sd))) = 2 := by kernel_rfl
theorem s_th : (((onc SE 6).filter (isR SE 2 1)).length : Int) = 1 := by kernel_rfl
theorem s_la : idO SE (ltL SE ((onc SE 6).filter (isR SE 2 1))) = 6 := by kernel_rfl
theorem s_tx : shwT SE 6 1 = ⟨#[116, 119, 111]⟩ := by kernel_rfl
theorem s_er : shwE SE 6 1 = 0 := by kernel_rfl
theorem s_va : valM SE 6 eA = 4 := by kernel_rfl
theorem s_vw : valM SE 6 eW = 1 := by kernel_rfl
theorem s_rk : relK (SE 5) = 2 ∧ relI (SE 5) = 1 := ⟨by kernel_rfl, by kernel_rfl⟩
theorem s_re : reac (dsK SE (onc SE 6) 1 (onc SE 6).length) = [⟨⟨#[43]⟩, 2⟩] := by kernel_rfl
theorem s_thr : thr SE (onc SE 6) = [1] := by kernel_rfl
end Go.Proofs.Ytefajhfahnhcgaa
