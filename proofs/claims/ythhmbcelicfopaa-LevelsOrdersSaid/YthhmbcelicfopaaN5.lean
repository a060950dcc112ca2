/- levels.kindsOf. -/
import Derived.Test.YthhmbcelicfopaaN4
namespace Go.Proofs.Ythhmbcelicfopaa
open Go.RowKit
set_option linter.unusedVariables false

abbrev W3 (w : World) : World := ((w.alloc (.cells #[] 26)).alloc (.cells #[.slice (some ⟨w.heap.size, 0, none⟩) 0 0] 62)).alloc (.cells #[colV (w.heap.size + 1) (w.heap.size + 1 + 1)] 74)
theorem w3_inv (w : World) : KInv (W3 w) w.heap.size (w.heap.size + 1) (w.heap.size + 1 + 1) (some ⟨w.heap.size, 0, none⟩) 0 0 [] ∧ Below w.heap.size w (W3 w) := by
  refine ⟨⟨?_, ?_, ?_, by omega⟩, ((Below.alloc (Below.refl w.heap.size w) (Nat.le_refl _) _).alloc (by simp) _).alloc (by simp; omega) _⟩
  · exact (alloc2_blk w (.cells #[] 26) [.slice (some ⟨w.heap.size, 0, none⟩) 0 0] 62).alloc _
  · have := alloc2_blk (w.alloc (.cells #[] 26)) (.cells #[.slice (some ⟨w.heap.size, 0, none⟩) 0 0] 62) [colV (w.heap.size + 1) (w.heap.size + 1 + 1)] 74
    have e : (w.alloc (.cells #[] 26)).heap.size = w.heap.size + 1 := by simp
    rw [e] at this
    exact this
  · exact World.ownsRow.alloc (World.ownsRow.alloc (World.ownsRow_made w #[] 0 (Nat.le_refl _) (by decide) (by simp)) _) _
def KPost (w : World) (ys : List Int) (e : Ending) (w' : World) : Prop := ∃ A c, e = .returned (.slice A ys.length c) ∧ w'.ownsRow w.heap.size 26 1 (.slice A ys.length c) ys.length (ys.map (.int .i64 ·)) ∧ Below w.heap.size w w'
set_option maxHeartbeats 4000000 in
theorem kindsOf30 (g : Nat) (kA : Option Addr) (nK kC : Nat) (K : Nat → Int × Int) (lA : Option Addr) (mK lC : Nat) (M : Nat → Int × Int) (w : World) (hg : g < w.heap.size) (hc : w.cell? ⟨g, 0, none⟩ = some (.slice kA nK kC)) (hc2 : w.cell? ⟨g, 1, none⟩ = some (.slice lA mK lC))
    (hK : Rws w kA nK kC 2 (rowK K)) (hM : Rws w lA mK lC 2 (rowK M)) (hb : (nK + mK) * 8 ≤ 140737488355328) :
    Calls Try.prog 30 #[.slice (some ⟨g, 0, none⟩) 2 2] w (KPost w (kinds K nK ++ kinds M mK)) := by
  have HI := Lib.hid (w3_inv w)
  have hcal := collect2 g w.heap.size (w.heap.size + 1) (w.heap.size + 1 + 1) kA nK kC K lA mK lC M (some ⟨w.heap.size, 0, none⟩) 0 0 [] (W3 w) HI.out.1 rfl hg ((HI.out.2.cell (p := ⟨g, 0, none⟩) hg).trans hc) HI.out.2.size (fun w' h => hK.below (HI.out.2.trans h)) (by omega)
    ((HI.out.2.cell (p := ⟨g, 1, none⟩) hg).trans hc2) (fun w' h => hM.below (HI.out.2.trans h)) (by omega)
  rw [List.nil_append] at hcal
  have HC := Lib.hid hcal
  clear hcal hg hc hc2 hK hM hb
  generalize (kinds K nK ++ kinds M mK) = ys at *
  go_enter Try.func30, Try.ntmps30
  go_wp2_with (go_at_call 40; refine HC.out.mono ?_; rintro e w4 ⟨rfl, ⟨A4, c4, hk4⟩, hb4⟩; have HK4 := Lib.hid hk4; have HB4 := Lib.hid hb4; have ia := hk4.ca.cell (i := 0) rfl; clear hk4 hb4)
  go_ret
  exact ⟨A4, c4, rfl, HK4.out.own, HI.out.2.trans HB4.out⟩
end Go.Proofs.Ythhmbcelicfopaa
