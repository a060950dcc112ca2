/- One-time keys: the devices: ownerOf, valid, compare, the sort's closure. No condition. -/
import Derived.Test.YtkmocchikgmnbaaR1
import Derived.Test.YtkmocchikgmnbaaIW8
import Derived.Sort.Grow
import Derived.Handy
import Derived.Deep.LoopGhost
namespace Go.Proofs.Ytkmocchikgmnbaa
open Go.RowKit
set_option linter.unusedVariables false

/-- Nothing old has turned; draws and blocks behind. -/
structure Gr (w w' : World) : Prop where
  bel : Below w.heap.size w w'
  drawn : w.drawn ≤ w'.drawn
theorem Gr.refl (w : World) : Gr w w := ⟨Below.refl _ _, Nat.le_refl _⟩
theorem Gr.trans {a b c : World} (h : Gr a b) (k : Gr b c) : Gr a c := ⟨h.bel.trans (k.bel.mono h.bel.size), Nat.le_trans h.drawn k.drawn⟩
theorem Gr.grow {w w' : World} (h : Gr w w') : ∃ q os, w' = Sort.grow (w.drewN q) os := by
  refine ⟨w'.drawn - w.drawn, w'.heap.extract w.heap.size w'.heap.size, ?_⟩
  have hs := h.bel.size
  have e : w'.heap = w.heap ++ w'.heap.extract w.heap.size w'.heap.size := by
    apply Array.ext_getElem?
    intro k
    rw [Array.getElem?_append]
    split
    · rename_i hk; exact h.bel.block k hk
    · rename_i hk
      rw [Array.getElem?_extract]
      split
      · rw [show w.heap.size + (k - w.heap.size) = k by omega]
      · rw [Array.getElem?_eq_none]; omega
  obtain ⟨hp, tp, dr, os, out⟩ := w'
  have h1 := h.bel.os; have h2 := h.bel.tape; have h3 := h.bel.output; have h4 := h.drawn
  simp only at h1 h2 h3 h4 e ⊢
  unfold Sort.grow World.drewN
  simp only [World.mk.injEq]
  exact ⟨e, h2, by omega, h1, h3⟩

theorem size47 : (Try.prog.info? 47).map (·.size) = some 2 := by kernel_rfl
theorem size45 : (Try.prog.info? 45).map (·.size) = some 4 := by kernel_rfl
theorem blk_new2 (w : World) (o : Obj) (cs : List Value) (T : TypeId) : Blk ((w.alloc o).alloc (.cells cs.toArray T)) (w.heap.size + 1) cs T := by
  have := blk_new (w.alloc o) cs T
  rwa [show (w.alloc o).heap.size = w.heap.size + 1 by simp] at this
theorem owner_of (p : Rc) (w : World) : Calls Try.prog 21 #[.agg (enc p).toArray] w fun e w' => e = .returned (.agg #[.string p.us, .string p.dv]) ∧ Gr w w' := by
  show Calls Try.prog 21 #[.agg #[.string p.us, .string p.dv, .int .i64 p.nx, .int .i64 p.lf]] w _
  go_enter Try.func21, Try.ntmps21
  go_wp2
  refine bodyPost_ret (results_cell_mid rfl _ _ (w.heap.size + 1) [.string p.us, .string p.dv] 47 _ rfl (blk_new2 _ _ _ _) Try.underlying47 rfl size47) rfl ?_
  exact ⟨rfl, ⟨by go_grown, by show w.drawn ≤ w.drawn; omega⟩⟩

/-- cmp.Compare of texts. -/
def cmpS (a b : ByteArray) : Int := if Op.bytesLess a.toList b.toList then -1 else if a.toList == b.toList then 0 else 1
theorem nan_any (a : ByteArray) (w : World) : Calls Try.prog 41 #[.string a] w fun e w' => e = .returned (.bool false) ∧ w = w' := by
  go_enter Try.func41, Try.ntmps41
  go_wp2
  all_goals (go_ret; simp)
theorem cmpS_lt {a b : ByteArray} (h : Op.bytesLess a.toList b.toList = true) : cmpS a b = -1 := by unfold cmpS; rw [if_pos h]
theorem cmpS_eq {a b : ByteArray} (h : Op.bytesLess a.toList b.toList = false) (h2 : (a.toList == b.toList) = true) : cmpS a b = 0 := by unfold cmpS; rw [if_neg (by rw [h]; decide), if_pos h2]
theorem cmpS_gt {a b : ByteArray} (h : Op.bytesLess a.toList b.toList = false) (h2 : (a.toList == b.toList) = false) : cmpS a b = 1 := by unfold cmpS; rw [if_neg (by rw [h]; decide), if_neg (by rw [h2]; decide)]
theorem compare_any (a b : ByteArray) (w : World) : Calls Try.prog 34 #[.string a, .string b] w fun e w' => e = .returned (.int .i64 (cmpS a b)) ∧ w = w' := by
  have HN := Lib.hid (fun s => nan_any s w)
  cases h1 : Op.bytesLess a.toList b.toList
  · cases h2 : (a.toList == b.toList)
    · rw [cmpS_gt h1 h2]
      go_enter Try.func34, Try.ntmps34
      go_wp2_with (first | (go_at_call 41; refine (HN.out _).mono ?_; rintro e w' ⟨rfl, rfl⟩) | go_in)
      all_goals (go_ret; first | exact ⟨rfl, rfl⟩ | (exfalso; simp_all))
    · rw [cmpS_eq h1 h2]
      go_enter Try.func34, Try.ntmps34
      go_wp2_with (first | (go_at_call 41; refine (HN.out _).mono ?_; rintro e w' ⟨rfl, rfl⟩) | go_in)
      all_goals (go_ret; first | exact ⟨rfl, rfl⟩ | (exfalso; simp_all))
  · rw [cmpS_lt h1]
    go_enter Try.func34, Try.ntmps34
    go_wp2_with (first | (go_at_call 41; refine (HN.out _).mono ?_; rintro e w' ⟨rfl, rfl⟩) | go_in)
    all_goals (go_ret; exact ⟨rfl, rfl⟩)
/-- owner.valid. -/
def okO (u d : ByteArray) : Bool := I.mkd 64 (bys u) && (decide (1 ≤ d.size) && decide (d.size ≤ 32))
theorem err_zero (b : Bool) : err b = 0 ↔ b = true := by cases b <;> simp [err]
theorem valid_any (u d : ByteArray) (hs : u.size ≤ 9223372036854775807) (hd : d.size ≤ 9223372036854775807) (w : World) : Calls Try.prog 22 #[.agg #[.string u, .string d]] w fun e w' => e = .returned (.bool (okO u d)) ∧ Below w.heap.size w w' := by
  have BW := Lib.hid (Below.alloc (Below.refl w.heap.size w) (Nat.le_refl _) (.cells #[.string u, .string d] 47))
  have XN := Lib.hid (blk_new w [.string u, .string d] 47)
  have UC := Lib.hid (user_any u hs (w.alloc (.cells #[.string u, .string d] 47)))
  have h0 : (0 : Int) ≤ d.size := by omega
  cases hm : I.mkd 64 (bys u)
  · rw [hm, show err false = 3 from rfl] at UC
    go_enter Try.func22, Try.ntmps22
    go_wp2_with (first | (go_at_call 32; refine UC.out.mono ?_; rintro e wu ⟨rfl, hbu⟩; have k0 := (XN.out.at_ hbu (by simp)).cell (i := 0) rfl; have k1 := (XN.out.at_ hbu (by simp)).cell (i := 1) rfl; have HB := Lib.hid (BW.out.trans (hbu.mono (by simp))); clear hbu) | go_in)
    all_goals (go_ret; exact ⟨by simp [okO, hm], HB.out⟩)
  · rw [hm, show err true = 0 from rfl] at UC
    have HO := Lib.hid (show ∀ x, okO u d = (decide (1 ≤ d.size) && decide (d.size ≤ 32)) ∨ x from fun x => .inl (by unfold okO; rw [hm]; rfl))
    clear hm
    rcases Nat.lt_or_ge d.size 1 with d1 | d1
    · have g1 : (d.size : Int) < 1 := by omega
      go_enter Try.func22, Try.ntmps22
      go_wp2_with (first | (go_at_call 32; refine UC.out.mono ?_; rintro e wu ⟨rfl, hbu⟩; have k0 := (XN.out.at_ hbu (by simp)).cell (i := 0) rfl; have k1 := (XN.out.at_ hbu (by simp)).cell (i := 1) rfl; have HB := Lib.hid (BW.out.trans (hbu.mono (by simp))); clear hbu) | go_in)
      go_ret
      refine ⟨?_, HB.out⟩
      rw [(HO.out False).resolve_right id, decide_eq_false (by omega : ¬ 1 ≤ d.size)]; rfl
    · have g1 : 1 ≤ (d.size : Int) := by omega
      go_enter Try.func22, Try.ntmps22
      go_wp2_with (first | (go_at_call 32; refine UC.out.mono ?_; rintro e wu ⟨rfl, hbu⟩; have k0 := (XN.out.at_ hbu (by simp)).cell (i := 0) rfl; have k1 := (XN.out.at_ hbu (by simp)).cell (i := 1) rfl; have HB := Lib.hid (BW.out.trans (hbu.mono (by simp))); clear hbu) | go_in)
      go_ret
      refine ⟨?_, HB.out⟩
      rw [(HO.out False).resolve_right id, decide_eq_true d1, Bool.true_and]
      show Ending.returned (Value.bool (decide ((d.size:Int) ≤ 32))) = _
      rw [show decide ((d.size:Int) ≤ 32) = decide (d.size ≤ 32) from by rw [decide_eq_decide]; omega]
/-- cmp.Or of two numbers. -/
def orI (x y : Int) : Int := if x = 0 then y else x
theorem or_any (g : Nat) (x y : Int) (w : World) (h0 : w.cell? ⟨g, 0, none⟩ = some (.int .i64 x)) (h1 : w.cell? ⟨g, 1, none⟩ = some (.int .i64 y)) :
    Calls Try.prog 33 #[.slice (some ⟨g, 0, none⟩) 2 2] w fun e w' => e = .returned (.int .i64 (orI x y)) ∧ w = w' := by
  go_enter Try.func33, Try.ntmps33
  go_wp2
  go_loopg [5, 8] 2 (fun gg _ s8 wr => ∃ kk : Nat, kk ≤ 2 ∧ 2 - kk ≤ gg ∧ s8 = .int .i64 kk ∧ (1 ≤ kk → x = 0) ∧ (2 ≤ kk → y = 0) ∧ wr = w)
  case atStart => exact ⟨0, by omega, by omega, rfl, by omega, by omega, rfl⟩
  case round =>
    obtain ⟨kk, hk, hg, rfl, hx, hy, rfl⟩ := hrel
    by_cases k2 : kk = 2
    · subst k2
      have hx := hx (by omega); have hy := hy (by omega)
      subst hx; subst hy
      go_wp2
      go_ret
      exact ⟨rfl, rfl⟩
    · by_cases k1 : kk = 1
      · subst k1
        have hx := hx (by omega); subst hx
        by_cases hy0 : y = 0
        · subst hy0
          go_wp2
          go_roundg 0
          case measure => omega
          case rel => exact ⟨2, by omega, by omega, rfl, fun _ => trivial, fun _ => trivial, rfl⟩
        · have hyb : (y != 0) = true := by simpa using hy0
          go_wp2
          go_ret
          exact ⟨by unfold orI; rw [if_pos rfl]; rfl, rfl⟩
      · obtain rfl : kk = 0 := by omega
        by_cases hx0 : x = 0
        · subst hx0
          go_wp2
          go_roundg 1
          case measure => omega
          case rel => exact ⟨1, by omega, by omega, rfl, fun _ => trivial, fun h => by omega, rfl⟩
        · have hxb : (x != 0) = true := by simpa using hx0
          go_wp2
          go_ret
          exact ⟨by unfold orI; rw [if_neg hx0]; rfl, rfl⟩
end Go.Proofs.Ytkmocchikgmnbaa
