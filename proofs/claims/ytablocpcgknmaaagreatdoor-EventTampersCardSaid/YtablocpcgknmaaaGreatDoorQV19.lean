/- What comes of accepted events: plain facts. No condition. -/
import Derived.Test.YtablocpcgknmaaaGreatDoorQPo
import Derived.Test.YtablocpcgknmaaaGreatDoorQPa
namespace Go.Proofs.YtablocpcgknmaaaGreatDoor
open Go Go.RowKit
set_option linter.unusedVariables false
set_option linter.unusedSimpArgs false
set_option maxRecDepth 100000

theorem ver_zero {E : Ew} {b : Bool} (h : verI E b = 0) : chk7 E = 0 ∧ idE E = E.id ∧ sigB E = true := by
 unfold verI at h
 by_cases h1 : chk7 E = 0
 ·rw [if_neg (fun q => q h1)] at h
  by_cases h2 : (!b && !sameC (strip E.kd E.c) E.c) = true
  ·rw [if_pos h2] at h; exact absurd h (by decide)
  ·rw [if_neg h2] at h
   by_cases h3 : (idE E == E.id) = false
   ·rw [if_pos h3] at h; exact absurd h (by decide)
   ·rw [if_neg h3] at h
    by_cases h4 : sigB E = false
    ·rw [if_pos h4] at h; exact absurd h (by decide)
    ·exact ⟨h1, by simpa using h3, by simpa using h4⟩
 ·rw [if_pos h1] at h; exact absurd h h1
theorem chk_strE {E : Ew} (h : chk7 E = 0) : chk7 (strE E) = 0 := by
 unfold chk7 at h ⊢
 by_cases hf : frmI E = 0
 ·rw [if_pos hf] at h
  rw [if_pos (show frmI (strE E) = 0 from hf)]
  show rchk E.kd (strip E.kd E.c) = 0
  rw [← pchk_eq] at h ⊢
  exact pchk_strip h
 ·rw [if_neg hf] at h; exact absurd h hf
/-- What comes of an accepted event whose content is another one. -/
theorem ct_cases {E : Ew} {C : Cn} (hv : verI E (whoB E) = 0) (hm : sameC (strip E.kd C) (strip E.kd E.c) = true) : (whoB (E.wc C) = true ∧ rcvI (E.wc C) = 0 ∧ rcvE (E.wc C) = E.wc C) ∨ (whoB (E.wc C) = true ∧ (rcvI (E.wc C) == 0) = false) ∨ (whoB (E.wc C) = false ∧ rcvI (E.wc C) = 0 ∧ rcvE (E.wc C) = strE E) := by
 cases hw : whoB (E.wc C)
 ·have hk : kptE (E.wc C) = strE E := by
   rw [kpt_f hw]
   unfold strE
   show (E.wc C).wc (strip E.kd C) = _
   rw [sameC_eq hm]
   rfl
  obtain ⟨h1, h2, h3⟩ := ver_zero hv
  have hr : rcvI (E.wc C) = 0 := by
   unfold rcvI
   rw [hk]
   exact ver_str (chk_strE h1) h2 h3 _
  exact Or.inr (Or.inr ⟨rfl, hr, by unfold rcvE; rw [if_pos hr, hk]⟩)
 ·by_cases hr : rcvI (E.wc C) = 0
  ·exact Or.inl ⟨rfl, hr, by unfold rcvE; rw [if_pos hr, kpt_t hw]⟩
  ·exact Or.inr (Or.inl ⟨rfl, by simpa using hr⟩)
/-- What comes of an event with another sum. -/
theorem tm_facts {E F : Ew} (hv : verI E (whoB E) = 0) (hid : F.id = E.id) (hp : (idE F == idE E) = false) : (verI F (whoB F) != 0) = true ∧ (rcvI F != 0) = true ∧ rcvE F = e0 := by
 have h1 := (ver_zero hv).2.1
 have hne : ¬ idE F = F.id := fun e => by
  rw [e, hid, ← h1] at hp
  simp at hp
 have h2 : ¬ verI F (whoB F) = 0 := fun e => hne (ver_zero e).2.1
 have h3 : ¬ rcvI F = 0 := fun e => by
  unfold rcvI at e
  cases hw : whoB F
  ·rw [kpt_f hw] at e
   exact hne ((str_id F).symm.trans (ver_zero e).2.1)
  ·rw [kpt_t hw] at e
   exact hne (ver_zero e).2.1
 exact ⟨by simpa [bne] using h2, by simpa [bne] using h3, by unfold rcvE; rw [if_neg h3]⟩
end Go.Proofs.YtablocpcgknmaaaGreatDoor
