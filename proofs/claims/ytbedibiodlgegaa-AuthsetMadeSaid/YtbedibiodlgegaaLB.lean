/- Copies of levels. -/
import Derived.Test.YtbedibiodlgegaaLA
import Derived.Test.YtbedibiodlgegaaG4
namespace Go.Proofs.Ytbedibiodlgegaa
open Go.RowKit
set_option linter.unusedVariables false

theorem info55 : (Try.prog.info? 60).map (fun i => (i.zero, i.size, i.bytes)) = some (some (.agg #[.string ByteArray.empty, .int .i64 0]), 2, 24) := by kernel_rfl
set_option maxHeartbeats 1000000 in
theorem clone31 (A : Option Addr) (n c : Nat) (L : Nat → List Value) (w : World) (h : Rws w A n c 2 L) (hb : n * 24 ≤ 140737488355328) :
    Calls Try.prog 87 #[.slice A n c] w fun e w' => ∃ A' c', e = .returned (.slice A' n c') ∧ CopyR w w' 60 2 n L A' c' := by
  obtain ⟨i0, hi, hz0, hz1, hz2⟩ := info_parts info55
  have HI := Lib.hid (And.intro hi (And.intro hz0 (And.intro hz1 hz2)))
  clear hi hz0 hz1 hz2
  have kn := fun (w : World) (a : Option Addr) (n c n' c' : Nat) => Lib.run_eql_slice_nil (P := Try.prog) w 25 60 a n c n' c' Try.underlying25
  cases A with
  | none =>
    obtain ⟨rfl, rfl⟩ := h.nil rfl
    clear h HI hb
    go_enter Try.func87, Try.ntmps87
    go_wp2
    go_ret
    exact ⟨none, 0, rfl, clone_nil w 60 2 L⟩
  | some ad =>
    have HS := Lib.hid (h.src.below ((Below.refl _ w).alloc (Nat.le_refl _) (.cells #[] 60)))
    have HO := Lib.hid (World.ownsRow_made (base := w.heap.size) (e := 60) (size := 2) w #[] 0 (Nat.le_refl _) (by decide) (by simp))
    clear h
    go_enter Try.func87, Try.ntmps87
    go_wp2_with (at_builtin; refine wpList_append_any _ rfl _ _ 25 rfl w.heap.size 60 i0 _ 2 24 Try.underlying25 HI.out.1 HI.out.2.1 HI.out.2.2.1 HI.out.2.2.2 rfl (by decide) _ 0 [] rfl HO.out (some ad) n c (flat n L) rfl HS.out (by unfold maxLen; omega) (by omega) (by simp) ?_; intro v3 w3 hgr; have HX := Lib.hid (clone_grew hgr); clear hgr)
    go_ret
    obtain ⟨A', c', rfl, hc⟩ := HX.out
    exact ⟨A', c', rfl, hc⟩

theorem info61 : (Try.prog.info? 122).map (fun i => (i.zero, i.size, i.bytes)) = some (some (.agg #[.int .i64 0, .int .i64 0]), 2, 16) := by kernel_rfl
set_option maxHeartbeats 1000000 in
theorem clone32 (A : Option Addr) (n c : Nat) (L : Nat → List Value) (w : World) (h : Rws w A n c 2 L) (hb : n * 16 ≤ 140737488355328) :
    Calls Try.prog 88 #[.slice A n c] w fun e w' => ∃ A' c', e = .returned (.slice A' n c') ∧ CopyR w w' 122 2 n L A' c' := by
  obtain ⟨i0, hi, hz0, hz1, hz2⟩ := info_parts info61
  have HI := Lib.hid (And.intro hi (And.intro hz0 (And.intro hz1 hz2)))
  clear hi hz0 hz1 hz2
  have kn := fun (w : World) (a : Option Addr) (n c n' c' : Nat) => Lib.run_eql_slice_nil (P := Try.prog) w 26 122 a n c n' c' Try.underlying26
  cases A with
  | none =>
    obtain ⟨rfl, rfl⟩ := h.nil rfl
    clear h HI hb
    go_enter Try.func88, Try.ntmps88
    go_wp2
    go_ret
    exact ⟨none, 0, rfl, clone_nil w 122 2 L⟩
  | some ad =>
    have HS := Lib.hid (h.src.below ((Below.refl _ w).alloc (Nat.le_refl _) (.cells #[] 122)))
    have HO := Lib.hid (World.ownsRow_made (base := w.heap.size) (e := 122) (size := 2) w #[] 0 (Nat.le_refl _) (by decide) (by simp))
    clear h
    go_enter Try.func88, Try.ntmps88
    go_wp2_with (at_builtin; refine wpList_append_any _ rfl _ _ 26 rfl w.heap.size 122 i0 _ 2 16 Try.underlying26 HI.out.1 HI.out.2.1 HI.out.2.2.1 HI.out.2.2.2 rfl (by decide) _ 0 [] rfl HO.out (some ad) n c (flat n L) rfl HS.out (by unfold maxLen; omega) (by omega) (by simp) ?_; intro v3 w3 hgr; have HX := Lib.hid (clone_grew hgr); clear hgr)
    go_ret
    obtain ⟨A', c', rfl, hc⟩ := HX.out
    exact ⟨A', c', rfl, hc⟩

end Go.Proofs.Ytbedibiodlgegaa
