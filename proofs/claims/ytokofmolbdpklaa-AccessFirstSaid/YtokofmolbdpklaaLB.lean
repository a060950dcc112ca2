/- Copies of levels. -/
import Derived.Test.YtokofmolbdpklaaLA
import Derived.Test.YtokofmolbdpklaaG4
namespace Go.Proofs.Ytokofmolbdpklaa
open Go.RowKit
set_option linter.unusedVariables false

theorem info55 : (Try.prog.info? 55).map (fun i => (i.zero, i.size, i.bytes)) = some (some (.agg #[.string ByteArray.empty, .int .i64 0]), 2, 24) := by kernel_rfl
set_option maxHeartbeats 1000000 in
theorem clone31 (A : Option Addr) (n c : Nat) (L : Nat → List Value) (w : World) (h : Rws w A n c 2 L) (hb : n * 24 ≤ 140737488355328) :
    Calls Try.prog 31 #[.slice A n c] w fun e w' => ∃ A' c', e = .returned (.slice A' n c') ∧ CopyR w w' 55 2 n L A' c' := by
  obtain ⟨i0, hi, hz0, hz1, hz2⟩ := info_parts info55
  have HI := Lib.hid (And.intro hi (And.intro hz0 (And.intro hz1 hz2)))
  clear hi hz0 hz1 hz2
  have kn := fun (w : World) (a : Option Addr) (n c n' c' : Nat) => Lib.run_eql_slice_nil (P := Try.prog) w 23 55 a n c n' c' Try.underlying23
  cases A with
  | none =>
    obtain ⟨rfl, rfl⟩ := h.nil rfl
    clear h HI hb
    go_enter Try.func31, Try.ntmps31
    go_wp2
    go_ret
    exact ⟨none, 0, rfl, clone_nil w 55 2 L⟩
  | some ad =>
    have HS := Lib.hid (h.src.below ((Below.refl _ w).alloc (Nat.le_refl _) (.cells #[] 55)))
    have HO := Lib.hid (World.ownsRow_made (base := w.heap.size) (e := 55) (size := 2) w #[] 0 (Nat.le_refl _) (by decide) (by simp))
    clear h
    go_enter Try.func31, Try.ntmps31
    go_wp2_with (at_builtin; refine wpList_append_any _ rfl _ _ 23 rfl w.heap.size 55 i0 _ 2 24 Try.underlying23 HI.out.1 HI.out.2.1 HI.out.2.2.1 HI.out.2.2.2 rfl (by decide) _ 0 [] rfl HO.out (some ad) n c (flat n L) rfl HS.out (by unfold maxLen; omega) (by omega) (by simp) ?_; intro v3 w3 hgr; have HX := Lib.hid (clone_grew hgr); clear hgr)
    go_ret
    obtain ⟨A', c', rfl, hc⟩ := HX.out
    exact ⟨A', c', rfl, hc⟩

theorem info61 : (Try.prog.info? 61).map (fun i => (i.zero, i.size, i.bytes)) = some (some (.agg #[.int .i64 0, .int .i64 0]), 2, 16) := by kernel_rfl
set_option maxHeartbeats 1000000 in
theorem clone32 (A : Option Addr) (n c : Nat) (L : Nat → List Value) (w : World) (h : Rws w A n c 2 L) (hb : n * 16 ≤ 140737488355328) :
    Calls Try.prog 32 #[.slice A n c] w fun e w' => ∃ A' c', e = .returned (.slice A' n c') ∧ CopyR w w' 61 2 n L A' c' := by
  obtain ⟨i0, hi, hz0, hz1, hz2⟩ := info_parts info61
  have HI := Lib.hid (And.intro hi (And.intro hz0 (And.intro hz1 hz2)))
  clear hi hz0 hz1 hz2
  have kn := fun (w : World) (a : Option Addr) (n c n' c' : Nat) => Lib.run_eql_slice_nil (P := Try.prog) w 24 61 a n c n' c' Try.underlying24
  cases A with
  | none =>
    obtain ⟨rfl, rfl⟩ := h.nil rfl
    clear h HI hb
    go_enter Try.func32, Try.ntmps32
    go_wp2
    go_ret
    exact ⟨none, 0, rfl, clone_nil w 61 2 L⟩
  | some ad =>
    have HS := Lib.hid (h.src.below ((Below.refl _ w).alloc (Nat.le_refl _) (.cells #[] 61)))
    have HO := Lib.hid (World.ownsRow_made (base := w.heap.size) (e := 61) (size := 2) w #[] 0 (Nat.le_refl _) (by decide) (by simp))
    clear h
    go_enter Try.func32, Try.ntmps32
    go_wp2_with (at_builtin; refine wpList_append_any _ rfl _ _ 24 rfl w.heap.size 61 i0 _ 2 16 Try.underlying24 HI.out.1 HI.out.2.1 HI.out.2.2.1 HI.out.2.2.2 rfl (by decide) _ 0 [] rfl HO.out (some ad) n c (flat n L) rfl HS.out (by unfold maxLen; omega) (by omega) (by simp) ?_; intro v3 w3 hgr; have HX := Lib.hid (clone_grew hgr); clear hgr)
    go_ret
    obtain ⟨A', c', rfl, hc⟩ := HX.out
    exact ⟨A', c', rfl, hc⟩

end Go.Proofs.Ytokofmolbdpklaa
