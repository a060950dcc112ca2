/- Sessions: Renew, Great, Many of the reference. Bounds: as holders; at most 900000 shares. -/
import Derived.Test.YtbkchcpfnoclhaaGreatV13
namespace Go.Proofs.YtbkchcpfnoclhaaGreat
set_option maxRecDepth 100000
open Go Go.RowKit
set_option linter.unusedVariables false
set_option linter.unusedSimpArgs false
/-- What Great tells. -/
def GreatP (w : World) (n : Int) (rm : ByteArray) (l : List Rc) (r : Ending) (w' : World) : Prop := ∃ b, r = .returned (.bool b) ∧ (b = false → (l.length : Int) ≤ n ∧ rm.size ≤ 200 ∧ ∀ j, j < l.length → (l.getD j t0).us.size ≤ 200 ∧ (l.getD j t0).dv.size ≤ 200) ∧ Below w.heap.size w w'
set_option maxHeartbeats 8000000 in
theorem great9 (id : Int) (rm : ByteArray) (nx : Int) (A : Option Addr) (c : Nat) (l : List Rc) (m : Int) (w : World) (h : Rcs w A l.length c l) (hrm : rm.size ≤ 9223372036854775807) : Calls Tryz.prog 4 #[.agg #[.int .i64 id, .string rm, .int .i64 nx, .slice A l.length c], .int .i64 m] w (GreatP w m rm l) := by
  have XS := Lib.hid (blk_new w (sC id rm nx A l.length c) 24)
  have BA := Lib.hid ((Below.refl w.heap.size w).alloc (Nat.le_refl _) (.cells #[.int .i64 id, .string rm, .int .i64 nx, .slice A l.length c] 24))
  have H := Lib.hid h
  have hbig := h.rws.big
  unfold maxLen at hbig
  clear h
  have y3 := XS.out.cell (i := 3) rfl
  have y1 := XS.out.cell (i := 1) rfl
  by_cases h1 : m < (l.length : Int)
  · go_enter Tryz.func4, Tryz.ntmps4
    go_wp2
    go_ret
    exact ⟨true, rfl, (fun e => by cases e), BA.out⟩
  · by_cases h2 : 200 < rm.size
    · have h2z : (200 : Int) < (rm.size : Int) := by omega
      go_enter Tryz.func4, Tryz.ntmps4
      go_wp2
      go_ret
      exact ⟨true, rfl, (fun e => by cases e), BA.out⟩
    · have h2z : ¬ (200 : Int) < (rm.size : Int) := by omega
      go_enter Tryz.func4, Tryz.ntmps4
      go_wp2
      go_loopg [5] l.length (fun gg s5 wr => ∃ (k : Nat), k ≤ l.length ∧ l.length - k ≤ gg ∧ s5 = .int .i64 (k : Int) ∧ Hid (Below w.heap.size w wr) ∧ Hid (Blk wr w.heap.size (sC id rm nx A l.length c) 24) ∧ Hid (∀ j, j < k → (l.getD j t0).us.size ≤ 200 ∧ (l.getD j t0).dv.size ≤ 200))
      case atStart => exact ⟨0, Nat.zero_le _, by omega, rfl, BA, XS, Lib.hid (fun j hj => absurd hj (Nat.not_lt_zero _))⟩
      case round =>
        clear BA XS y3 y1
        obtain ⟨k, hk, hg, rfl, BW, XS, HJ⟩ := hrel
        have y3 := XS.out.cell (i := 3) rfl
        by_cases hlt : k < l.length
        · have hltz : (k : Int) < (l.length : Int) := by omega
          have hk0 : (0 : Int) ≤ (k : Int) := by omega
          obtain ⟨b, off, rfl, hbl, hr, hft⟩ := (H.out.below BW.out).get hlt
          have q0 : wr.cell? ⟨b, off + k * 3, none⟩ = some (.string (l.getD k t0).us) := hr 0 _ rfl
          have q1 : wr.cell? ⟨b, off + k * 3 + 1, none⟩ = some (.string (l.getD k t0).dv) := hr 1 _ rfl
          have HNx := Lib.hid (show (l.getD k t0).us.size ≤ 200 ∧ (l.getD k t0).dv.size ≤ 200 → ∀ j, j < k + 1 → (l.getD j t0).us.size ≤ 200 ∧ (l.getD j t0).dv.size ≤ 200 from fun e j hj => by
            by_cases e2 : j = k
            · subst e2; exact e
            · exact HJ.out j (by omega))
          obtain ⟨hf1, hf2⟩ := hft
          clear hr HJ
          generalize l.getD k t0 = p at q0 q1 HNx hf1 hf2
          obtain ⟨us, dv, ix⟩ := p
          dsimp only at q0 q1 HNx hf1 hf2
          by_cases e1 : 200 < us.size
          · have e1z : (200 : Int) < (us.size : Int) := by omega
            go_wp2
            go_ret
            exact ⟨true, rfl, (fun e => by cases e), BW.out⟩
          · have e1z : ¬ (200 : Int) < (us.size : Int) := by omega
            by_cases e2 : 200 < dv.size
            · have e2z : (200 : Int) < (dv.size : Int) := by omega
              go_wp2
              go_ret
              exact ⟨true, rfl, (fun e => by cases e), BW.out⟩
            · have e2z : ¬ (200 : Int) < (dv.size : Int) := by omega
              have HJ2 := Lib.hid (HNx.out ⟨by omega, by omega⟩)
              go_wp2
              go_roundg (l.length - (k + 1))
              case measure => omega
              case rel => exact ⟨k + 1, by omega, by omega, by go_num, BW, XS, HJ2⟩
        · have hltz : ¬ (k : Int) < (l.length : Int) := by omega
          obtain rfl : k = l.length := by omega
          go_wp2
          go_ret
          exact ⟨false, rfl, (fun _ => ⟨by omega, by omega, HJ.out⟩), BW.out⟩
/-- What Many tells. -/
def ManyP (w : World) (ms : List ByteArray) (K : Nat → Kd) (n : Nat) (r : Ending) (w' : World) : Prop := ∃ b, r = .returned (.bool b) ∧ (b = false → ms.length ≤ 30 ∧ n ≤ 30 ∧ (∀ j, j < n → (K j).ds.length ≤ 30)) ∧ Below w.heap.size w w'
end Go.Proofs.YtbkchcpfnoclhaaGreat
