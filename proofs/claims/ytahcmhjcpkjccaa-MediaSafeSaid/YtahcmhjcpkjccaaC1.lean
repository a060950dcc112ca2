/- Media: cmp.Compare of strings, cmp.Or, compare, the tests of put and find. No condition. -/
import Derived.Test.YtahcmhjcpkjccaaR2
import Derived.Deep.RegionHeld3
import Derived.Deep.LoopGhost
import Derived.Deep.Cut
namespace Go.Proofs.Ytahcmhjcpkjccaa
open Go.RowKit
set_option linter.unusedVariables false
set_option linter.unusedSimpArgs false

theorem nan49 (s : ByteArray) (w : World) : Calls Try.prog 49 #[.string s] w fun e w' => e = .returned (.bool false) ∧ w = w' := by
  go_enter Try.func49, Try.ntmps49
  go_wp2
  go_ret
  exact ⟨by simp, rfl⟩
/-- cmp.Compare of texts. -/
def cmpS (a b : ByteArray) : Int := if Op.bytesLess a.toList b.toList = true then -1 else if (a.toList == b.toList) = true then 0 else 1
theorem cmp43 (a b : ByteArray) (w : World) : Calls Try.prog 43 #[.string a, .string b] w fun e w' => e = .returned (.int .i64 (cmpS a b)) ∧ w = w' := by
  cases h1 : Op.bytesLess a.toList b.toList
  · cases h2 : (a.toList == b.toList)
    · have HF := Lib.hid (show cmpS a b = 1 by unfold cmpS; rw [h1, h2]; rfl)
      go_enter Try.func43, Try.ntmps43
      go_wp2_with (go_at_call 49; (with_reducible refine (nan49 _ _).mono ?_); rintro e w1 ⟨rfl, rfl⟩)
      go_ret
      exact ⟨ret_i64 HF.out.symm, rfl⟩
    · have HF := Lib.hid (show cmpS a b = 0 by unfold cmpS; rw [h1, h2]; rfl)
      go_enter Try.func43, Try.ntmps43
      go_wp2_with (go_at_call 49; (with_reducible refine (nan49 _ _).mono ?_); rintro e w1 ⟨rfl, rfl⟩)
      go_ret
      exact ⟨ret_i64 HF.out.symm, rfl⟩
  · have HF := Lib.hid (show cmpS a b = -1 by unfold cmpS; rw [h1]; rfl)
    go_enter Try.func43, Try.ntmps43
    go_wp2_with (go_at_call 49; (with_reducible refine (nan49 _ _).mono ?_); rintro e w1 ⟨rfl, rfl⟩)
    go_ret
    exact ⟨ret_i64 HF.out.symm, rfl⟩
/-- The first number that is not 0. -/
def orI (a b : Int) : Int := if a = 0 then b else a
set_option maxHeartbeats 1000000 in
theorem or42 (a b : Int) (g : Nat) (w : World) (h : Blk w g [.int .i64 a, .int .i64 b] 3) : Calls Try.prog 42 #[.slice (some ⟨g, 0, none⟩) 2 2] w fun e w' => e = .returned (.int .i64 (orI a b)) ∧ w = w' := by
  have c0 := h.cell (i := 0) rfl
  have c1 := h.cell (i := 1) rfl
  clear h
  by_cases h0 : a = 0
  · have HF := Lib.hid (show orI a b = b from if_pos h0)
    subst h0
    by_cases h1 : b = 0
    · subst h1
      go_enter Try.func42, Try.ntmps42
      go_wp2
      go_loopg [2, 5, 8] 2 (fun gg _ _ s8 wr => ∃ k : Nat, k ≤ 2 ∧ 2 - k ≤ gg ∧ s8 = .int .i64 k ∧ w = wr)
      case atStart => exact ⟨0, by omega, by omega, rfl, rfl⟩
      case round =>
        obtain ⟨k, hk, hg, rfl, rfl⟩ := hrel
        rcases (show k = 0 ∨ k = 1 ∨ k = 2 by omega) with rfl | rfl | rfl
        · go_wp2
          go_roundg 1
          case measure => omega
          case rel => exact ⟨1, by omega, by omega, rfl, rfl⟩
        · go_wp2
          go_roundg 0
          case measure => omega
          case rel => exact ⟨2, by omega, by omega, rfl, rfl⟩
        · go_wp2
          go_ret
          exact ⟨ret_i64 HF.out.symm, rfl⟩
    · have h1b : (b != 0) = true := by simpa using h1
      go_enter Try.func42, Try.ntmps42
      go_wp2
      go_loopg [2, 5, 8] 2 (fun gg _ _ s8 wr => ∃ k : Nat, k ≤ 1 ∧ 2 - k ≤ gg ∧ s8 = .int .i64 k ∧ w = wr)
      case atStart => exact ⟨0, by omega, by omega, rfl, rfl⟩
      case round =>
        obtain ⟨k, hk, hg, rfl, rfl⟩ := hrel
        rcases (show k = 0 ∨ k = 1 by omega) with rfl | rfl
        · go_wp2
          go_roundg 1
          case measure => omega
          case rel => exact ⟨1, by omega, by omega, rfl, rfl⟩
        · go_wp2
          go_ret
          exact ⟨ret_i64 HF.out.symm, rfl⟩
  · have HF := Lib.hid (show orI a b = a from if_neg h0)
    have h0b : (a != 0) = true := by simpa using h0
    go_enter Try.func42, Try.ntmps42
    go_wp2
    go_loopg [2, 5, 8] 2 (fun gg _ _ s8 wr => ∃ k : Nat, k ≤ 0 ∧ 2 - k ≤ gg ∧ s8 = .int .i64 k ∧ w = wr)
    case atStart => exact ⟨0, by omega, by omega, rfl, rfl⟩
    case round =>
      obtain ⟨k, hk, hg, rfl, rfl⟩ := hrel
      obtain rfl : k = 0 := by omega
      go_wp2
      go_ret
      exact ⟨ret_i64 HF.out.symm, rfl⟩
/-- compare. -/
def cmpR (a b : Rc) : Int := orI (cmpS a.sv b.sv) (cmpS a.nm b.nm)
set_option maxRecDepth 100000 in
set_option maxHeartbeats 4000000 in
theorem compare30 (a b : Rc) (w : World) : Calls Try.prog 30 #[.agg #[.string a.sv, .string a.nm, .int .i64 a.sz, .int .i64 a.tt, .int .i64 a.st], .agg #[.string b.sv, .string b.nm, .int .i64 b.sz, .int .i64 b.tt, .int .i64 b.st]] w fun e w' => e = .returned (.int .i64 (cmpR a b)) ∧ Below w.heap.size w w' := by
  go_enter Try.func30, Try.ntmps30
  go_upto_region 1 with (fail)
  generalize hw1 : World.alloc _ _ = w1
  have B1 : Hid (Below w.heap.size w w1) := Lib.hid (by rw [← hw1]; exact ((Below.refl w.heap.size w).alloc (Nat.le_refl _) (.cells #[.string a.sv, .string a.nm, .int .i64 a.sz, .int .i64 a.tt, .int .i64 a.st] 26)).alloc (by simp) (.cells #[.string b.sv, .string b.nm, .int .i64 b.sz, .int .i64 b.tt, .int .i64 b.st] 26))
  have XA : Hid (Blk w1 w.heap.size [.string a.sv, .string a.nm, .int .i64 a.sz, .int .i64 a.tt, .int .i64 a.st] 26) := Lib.hid (by rw [← hw1]; exact (blk_new w [.string a.sv, .string a.nm, .int .i64 a.sz, .int .i64 a.tt, .int .i64 a.st] 26).alloc (.cells #[.string b.sv, .string b.nm, .int .i64 b.sz, .int .i64 b.tt, .int .i64 b.st] 26))
  have XB : Hid (Blk w1 (w.heap.size + 1) [.string b.sv, .string b.nm, .int .i64 b.sz, .int .i64 b.tt, .int .i64 b.st] 26) := Lib.hid (by
    rw [← hw1]
    have := blk_new (w.alloc (.cells #[.string a.sv, .string a.nm, .int .i64 a.sz, .int .i64 a.tt, .int .i64 a.st] 26)) [.string b.sv, .string b.nm, .int .i64 b.sz, .int .i64 b.tt, .int .i64 b.st] 26
    rw [show (w.alloc (.cells #[.string a.sv, .string a.nm, .int .i64 a.sz, .int .i64 a.tt, .int .i64 a.st] 26)).heap.size = w.heap.size + 1 by simp] at this
    exact this)
  clear hw1
  refine wp_region_held_drew (S := (fun w0 => Below w1.heap.size w1 w0)) (by kernel_rfl) ((Below.refl _ _).drew) (fun hH0 => ?_)
  generalize w1.drew = y0 at hH0 ⊢
  have RB0 : Hid (Below w1.heap.size w1 y0) := Lib.hid hH0
  refine wpAnyH_take (i := 0) (oi := ({ dst := some 5, op := Op.fieldAddr 26 (Operand.tmp 2) 0, type := 0, pos := "media.go:22", after := #[], guard := none } : Oper)) (v := ?hv1) rfl (by kernel_rfl) (by kernel_rfl) (by kernel_rfl) (fun _ _ _ h => h) (Or.inl ⟨by rfl, ?hy1⟩) (by assumption) ?hr1
  case hy1 => (intro w hSw; (try dsimp only at hSw); go_simp; (try with_reducible rfl))
  try simp only [Act.put, List.setIfInBounds_toArray, List.set_cons_zero, List.set_cons_succ]
  refine wpAnyH_take (i := 1) (oi := ({ dst := some 6, op := Op.load 9 (Operand.tmp 5), type := 9, pos := "media.go:22", after := #[{ on := 0, ground := Ground.data }], guard := none } : Oper)) (v := .string a.sv) rfl (by kernel_rfl) (by kernel_rfl) (by kernel_rfl) (fun _ _ _ h => h) (Or.inl ⟨by rfl, fun w0 hw0 => by have q0 := (XA.out.below hw0).cell (i := 0) rfl; go_simp⟩) (by assumption) ?_
  try simp only [Act.put, List.setIfInBounds_toArray, List.set_cons_zero, List.set_cons_succ]
  refine wpAnyH_take (i := 2) (oi := ({ dst := some 7, op := Op.fieldAddr 26 (Operand.tmp 3) 0, type := 0, pos := "media.go:22", after := #[], guard := none } : Oper)) (v := ?hv2) rfl (by kernel_rfl) (by kernel_rfl) (by kernel_rfl) (fun _ _ _ h => h) (Or.inl ⟨by rfl, ?hy2⟩) (by assumption) ?hr2
  case hy2 => (intro w hSw; (try dsimp only at hSw); go_simp; (try with_reducible rfl))
  try simp only [Act.put, List.setIfInBounds_toArray, List.set_cons_zero, List.set_cons_succ]
  refine wpAnyH_take (i := 3) (oi := ({ dst := some 8, op := Op.load 9 (Operand.tmp 7), type := 9, pos := "media.go:22", after := #[{ on := 2, ground := Ground.data }], guard := none } : Oper)) (v := .string b.sv) rfl (by kernel_rfl) (by kernel_rfl) (by kernel_rfl) (fun _ _ _ h => h) (Or.inl ⟨by rfl, fun w0 hw0 => by have q0 := (XB.out.below hw0).cell (i := 0) rfl; go_simp⟩) (by assumption) ?_
  try simp only [Act.put, List.setIfInBounds_toArray, List.set_cons_zero, List.set_cons_succ]
  refine wpAnyH_take (i := 5) (oi := ({ dst := some 10, op := Op.fieldAddr 26 (Operand.tmp 2) 1, type := 0, pos := "media.go:22", after := #[], guard := none } : Oper)) (v := ?hv3) rfl (by kernel_rfl) (by kernel_rfl) (by kernel_rfl) (fun _ _ _ h => h) (Or.inl ⟨by rfl, ?hy3⟩) (by assumption) ?hr3
  case hy3 => (intro w hSw; (try dsimp only at hSw); go_simp; (try with_reducible rfl))
  try simp only [Act.put, List.setIfInBounds_toArray, List.set_cons_zero, List.set_cons_succ]
  refine wpAnyH_take (i := 6) (oi := ({ dst := some 11, op := Op.load 9 (Operand.tmp 10), type := 9, pos := "media.go:22", after := #[{ on := 5, ground := Ground.data }], guard := none } : Oper)) (v := .string a.nm) rfl (by kernel_rfl) (by kernel_rfl) (by kernel_rfl) (fun _ _ _ h => h) (Or.inl ⟨by rfl, fun w0 hw0 => by have q0 := (XA.out.below hw0).cell (i := 1) rfl; go_simp⟩) (by assumption) ?_
  try simp only [Act.put, List.setIfInBounds_toArray, List.set_cons_zero, List.set_cons_succ]
  refine wpAnyH_take (i := 7) (oi := ({ dst := some 12, op := Op.fieldAddr 26 (Operand.tmp 3) 1, type := 0, pos := "media.go:22", after := #[], guard := none } : Oper)) (v := ?hv4) rfl (by kernel_rfl) (by kernel_rfl) (by kernel_rfl) (fun _ _ _ h => h) (Or.inl ⟨by rfl, ?hy4⟩) (by assumption) ?hr4
  case hy4 => (intro w hSw; (try dsimp only at hSw); go_simp; (try with_reducible rfl))
  try simp only [Act.put, List.setIfInBounds_toArray, List.set_cons_zero, List.set_cons_succ]
  refine wpAnyH_take (i := 8) (oi := ({ dst := some 13, op := Op.load 9 (Operand.tmp 12), type := 9, pos := "media.go:22", after := #[{ on := 7, ground := Ground.data }], guard := none } : Oper)) (v := .string b.nm) rfl (by kernel_rfl) (by kernel_rfl) (by kernel_rfl) (fun _ _ _ h => h) (Or.inl ⟨by rfl, fun w0 hw0 => by have q0 := (XB.out.below hw0).cell (i := 1) rfl; go_simp⟩) (by assumption) ?_
  try simp only [Act.put, List.setIfInBounds_toArray, List.set_cons_zero, List.set_cons_succ]
  refine wpAnyH_ready (rs := [4]) (by kernel_rfl) (by simp) ?_
  refine AllReadyH.cons (o := ({ dst := some 9, op := Op.call { callee := Callee.value (Operand.func 43), args := #[Operand.tmp 6, Operand.tmp 8], argTypes := #[9, 9] }, type := 3, pos := "media.go:22", after := #[{ on := 1, ground := Ground.data }, { on := 3, ground := Ground.data }], guard := none } : Oper)) rfl (fun KK hKK => ?_) AllReadyH.nil
  go_simp
  (with_reducible refine (cmp43 a.sv b.sv _).mono ?_)
  rintro e0 y1 ⟨rfl, rfl⟩
  have RB1 := RB0
  refine hKK.out _ _ (RB1.out) (fun hH1 => ?_)
  clear hKK KK
  try simp only [Act.put, List.setIfInBounds_toArray, List.set_cons_zero, List.set_cons_succ]
  refine wpAnyH_ready (rs := [9]) (by kernel_rfl) (by simp) ?_
  refine AllReadyH.cons (o := ({ dst := some 14, op := Op.call { callee := Callee.value (Operand.func 43), args := #[Operand.tmp 11, Operand.tmp 13], argTypes := #[9, 9] }, type := 3, pos := "media.go:22", after := #[{ on := 6, ground := Ground.data }, { on := 8, ground := Ground.data }, { on := 4, ground := Ground.chain }], guard := none } : Oper)) rfl (fun KK hKK => ?_) AllReadyH.nil
  go_simp
  (with_reducible refine (cmp43 a.nm b.nm _).mono ?_)
  rintro e0 y2 ⟨rfl, rfl⟩
  have RB2 := RB1
  refine hKK.out _ _ (RB2.out) (fun hH2 => ?_)
  clear hKK KK
  try simp only [Act.put, List.setIfInBounds_toArray, List.set_cons_zero, List.set_cons_succ]
  refine wpAnyH_ready (rs := [10]) (by kernel_rfl) (by simp) ?_
  refine AllReadyH.cons (o := ({ dst := some 15, op := Op.buildSlice 63 2 #[(0, Operand.tmp 9), (1, Operand.tmp 14)], type := 63, pos := "media.go:22", after := #[{ on := 4, ground := Ground.data }, { on := 9, ground := Ground.data }], guard := none } : Oper)) rfl (fun KK hKK => ?_) AllReadyH.nil
  go_simp
  generalize hy3 : World.alloc _ _ = y3
  generalize hg4 : (World.heap y0).size = g4
  have RB3 : Hid (Below w1.heap.size w1 y3) := Lib.hid (by rw [← hy3]; exact RB2.out.alloc RB2.out.size _)
  have RG : Hid (Blk y3 g4 [.int .i64 (cmpS a.sv b.sv), .int .i64 (cmpS a.nm b.nm)] 3) := Lib.hid (by rw [← hy3, ← hg4]; exact blk_new _ [.int .i64 (cmpS a.sv b.sv), .int .i64 (cmpS a.nm b.nm)] 3)
  clear hy3 hg4
  refine hKK.out _ _ (RB3.out) (fun hH3 => ?_)
  clear hKK KK
  try simp only [Act.put, List.setIfInBounds_toArray, List.set_cons_zero, List.set_cons_succ]
  refine wpAnyH_ready (rs := [11]) (by kernel_rfl) (by simp) ?_
  refine AllReadyH.cons (o := ({ dst := some 16, op := Op.call { callee := Callee.value (Operand.func 42), args := #[Operand.tmp 15], argTypes := #[63] }, type := 3, pos := "media.go:22", after := #[{ on := 10, ground := Ground.data }, { on := 9, ground := Ground.chain }], guard := none } : Oper)) rfl (fun KK hKK => ?_) AllReadyH.nil
  go_simp
  (with_reducible refine (or42 _ _ g4 _ RG.out).mono ?_)
  rintro e0 y4 ⟨rfl, rfl⟩
  have RB4 := RB3
  refine hKK.out _ _ (RB4.out) (fun hH4 => ?_)
  clear hKK KK
  try simp only [Act.put, List.setIfInBounds_toArray, List.set_cons_zero, List.set_cons_succ]
  refine wpAnyH_take (i := 12) (oi := ({ dst := some 4, op := Op.assign (Operand.tmp 16), type := 3, pos := "media.go:22", after := #[{ on := 11, ground := Ground.data }, { on := 11, ground := Ground.chain }, { on := 0, ground := Ground.phase }, { on := 1, ground := Ground.phase }, { on := 2, ground := Ground.phase }, { on := 3, ground := Ground.phase }, { on := 4, ground := Ground.phase }, { on := 5, ground := Ground.phase }, { on := 6, ground := Ground.phase }, { on := 7, ground := Ground.phase }, { on := 8, ground := Ground.phase }, { on := 9, ground := Ground.phase }, { on := 10, ground := Ground.phase }, { on := 11, ground := Ground.phase }], guard := none } : Oper)) (v := ?hv5) rfl (by kernel_rfl) (by kernel_rfl) (by kernel_rfl) (fun _ _ _ h => h) (Or.inl ⟨by rfl, ?hy5⟩) (by assumption) ?hr5
  case hy5 => (intro w hSw; (try dsimp only at hSw); go_simp; (try with_reducible rfl))
  try simp only [Act.put, List.setIfInBounds_toArray, List.set_cons_zero, List.set_cons_succ]
  refine wpAnyH_done (by kernel_rfl) ?_ _
  go_wp2
  go_ret
  exact ⟨rfl, B1.out.trans (RB4.out.mono B1.out.size)⟩
end Go.Proofs.Ytahcmhjcpkjccaa
