/- What one more pattern changes. Plain lists. -/
import Derived.Test.YtokofmolbdpklaaA1
namespace Go.Proofs.Ytokofmolbdpklaa
open Go.RowKit
set_option linter.unusedVariables false

theorem hit_any (zs : List ByteArray) (sv : ByteArray) : hit zs sv = zs.any (fun p => GL.gm (GL.bys p) (GL.bys sv)) := by
  unfold hit GL.fst
  cases hf : zs.findIdx? (fun p => GL.gm (GL.bys p) (GL.bys sv)) with
  | none =>
    rw [List.findIdx?_eq_none_iff] at hf
    have h2 : zs.any (fun p => GL.gm (GL.bys p) (GL.bys sv)) = false := by
      rw [List.any_eq_false]
      intro x hx
      rw [hf x hx]
      exact Bool.false_ne_true
    rw [h2]
    rfl
  | some i =>
    obtain ⟨hi, hp, _⟩ := List.findIdx?_eq_some_iff_getElem.1 hf
    have h2 : zs.any (fun p => GL.gm (GL.bys p) (GL.bys sv)) = true := List.any_eq_true.2 ⟨_, List.getElem_mem hi, hp⟩
    rw [h2]
    exact decide_eq_true (Int.natCast_nonneg i)
theorem hit_snoc (zs : List ByteArray) (p sv : ByteArray) : hit (zs ++ [p]) sv = (hit zs sv || hit [p] sv) := by
  rw [hit_any, hit_any, hit_any, List.any_append]
theorem hit_nil (sv : ByteArray) : hit [] sv = false := by
  rw [hit_any]; rfl
/-- Deny with one more pattern allows no more, Allow with one more no less; without Allow nothing is allowed. -/
theorem deny_more (al dn : List ByteArray) (p sv : ByteArray) (h : (!hit (dn ++ [p]) sv && hit al sv) = true) : (!hit dn sv && hit al sv) = true := by
  rw [hit_snoc] at h
  cases h1 : hit dn sv <;> cases h2 : hit al sv <;> simp_all
theorem allow_more (al dn : List ByteArray) (p sv : ByteArray) (h : (!hit dn sv && hit al sv) = true) : (!hit dn sv && hit (al ++ [p]) sv) = true := by
  rw [hit_snoc]
  cases h1 : hit dn sv <;> cases h2 : hit al sv <;> simp_all
end Go.Proofs.Ytokofmolbdpklaa
