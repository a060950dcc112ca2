/- The fields of a content and what is done with them: which are zero; the tables. No condition. -/
import Derived.Test.YtablocpcgknmaaaGreatDoorRK13
namespace Go.Proofs.YtablocpcgknmaaaGreatDoor
open Go.Lib (hid)
open Go Go.RowKit
set_option linter.unusedVariables false
set_option linter.unusedSimpArgs false
set_option maxRecDepth 100000

def usL : List Int := [0, 0, 19, 128, 34, 2, 96, 1, 2, 3, 2, 13, 5, 5, 5]
def kpL : List Int := [0, 255, 18, 128, 34, 2, 96, 0, 0, 0, 0, 0, 0, 0, 4]
def nmsL : List ByteArray := [nText, nN, nTarget, nThread, nVia, nAllow, nDeny, nLevels]
/-- The three tables, as the program lays them. -/
structure Lt (w : World) : Prop where
 lt : 1 < w.heap.size
 us : ∀ j, j < 15 → w.cell? ⟨0, j, none⟩ = some (.int .i64 (usL.getD j 0))
 kp : ∀ j, j < 15 → w.cell? ⟨1, j, none⟩ = some (.int .i64 (kpL.getD j 0))
theorem Lt.below {w w1 : World} (h : Lt w) (hb : Below w.heap.size w w1) : Lt w1 :=
 ⟨Nat.lt_of_lt_of_le h.lt hb.size, fun j hj => (hb.cell (p := ⟨0, j, none⟩) (by have := h.lt; show 0 < _; omega)).trans (h.us j hj), fun j hj => (hb.cell (p := ⟨1, j, none⟩) (by have := h.lt; show 1 < _; omega)).trans (h.kp j hj)⟩
def usT (k : Int) : Int := usL.getD k.toNat 0
def kpT (k : Int) : Int := kpL.getD k.toNat 0
abbrev FA : Array Value := #[.func (.func 148) #[] #[], .func (.func 149) #[] #[], .func (.func 150) #[] #[], .func (.func 151) #[] #[], .func (.func 152) #[] #[], .func (.func 153) #[] #[], .func (.func 154) #[] #[], .func (.func 155) #[] #[], .func (.func 156) #[] #[], .func (.func 157) #[] #[], .func (.func 158) #[] #[], .func (.func 159) #[] #[], .func (.func 160) #[] #[], .func (.func 161) #[] #[], .func (.func 162) #[] #[], .func (.func 163) #[] #[], .func (.func 164) #[] #[], .func (.func 166) #[] #[], .func (.func 167) #[] #[], .func (.func 168) #[] #[], .func (.func 169) #[] #[], .func (.func 170) #[] #[], .func (.func 171) #[] #[], .func (.func 173) #[] #[]]
theorem size52 : (Tryz.prog.info? 116).map (·.size) = some 24 := by kernel_rfl
theorem size51 : (Tryz.prog.info? 115).map (·.size) = some 3 := by kernel_rfl
theorem ix52_0 (w : World) : (Instr.index 116 (.agg FA) (.int .i64 0)).run Tryz.prog w = .ok (.agg #[.func (.func 148) #[] #[], .func (.func 149) #[] #[], .func (.func 150) #[] #[]]) w := by kernel_rfl
theorem ix52_1 (w : World) : (Instr.index 116 (.agg FA) (.int .i64 1)).run Tryz.prog w = .ok (.agg #[.func (.func 151) #[] #[], .func (.func 152) #[] #[], .func (.func 153) #[] #[]]) w := by kernel_rfl
theorem ix52_2 (w : World) : (Instr.index 116 (.agg FA) (.int .i64 2)).run Tryz.prog w = .ok (.agg #[.func (.func 154) #[] #[], .func (.func 155) #[] #[], .func (.func 156) #[] #[]]) w := by kernel_rfl
theorem ix52_3 (w : World) : (Instr.index 116 (.agg FA) (.int .i64 3)).run Tryz.prog w = .ok (.agg #[.func (.func 157) #[] #[], .func (.func 158) #[] #[], .func (.func 159) #[] #[]]) w := by kernel_rfl
theorem ix52_4 (w : World) : (Instr.index 116 (.agg FA) (.int .i64 4)).run Tryz.prog w = .ok (.agg #[.func (.func 160) #[] #[], .func (.func 161) #[] #[], .func (.func 162) #[] #[]]) w := by kernel_rfl
theorem ix52_5 (w : World) : (Instr.index 116 (.agg FA) (.int .i64 5)).run Tryz.prog w = .ok (.agg #[.func (.func 163) #[] #[], .func (.func 164) #[] #[], .func (.func 166) #[] #[]]) w := by kernel_rfl
theorem ix52_6 (w : World) : (Instr.index 116 (.agg FA) (.int .i64 6)).run Tryz.prog w = .ok (.agg #[.func (.func 167) #[] #[], .func (.func 168) #[] #[], .func (.func 169) #[] #[]]) w := by kernel_rfl
theorem ix52_7 (w : World) : (Instr.index 116 (.agg FA) (.int .i64 7)).run Tryz.prog w = .ok (.agg #[.func (.func 170) #[] #[], .func (.func 171) #[] #[], .func (.func 173) #[] #[]]) w := by kernel_rfl
set_option maxHeartbeats 4000000 in
theorem fields36 (w : World) : Calls Tryz.prog 95 #[] w fun e w' => e = .returned (.agg FA) ∧ Below w.heap.size w w' := by
 go_enter Tryz.func95, Tryz.ntmps95
 go_wp2_with (first
  | (refine store_as rfl 116 _ _ rfl [.nilFunc, .nilFunc, .nilFunc, .nilFunc, .nilFunc, .nilFunc, .nilFunc, .nilFunc, .nilFunc, .nilFunc, .nilFunc, .nilFunc, .nilFunc, .nilFunc, .nilFunc, .nilFunc, .nilFunc, .nilFunc, .nilFunc, .nilFunc, .nilFunc, .nilFunc, .nilFunc, .nilFunc] [.func (.func 148) #[] #[], .func (.func 149) #[] #[], .func (.func 150) #[] #[], .func (.func 151) #[] #[], .func (.func 152) #[] #[], .func (.func 153) #[] #[], .func (.func 154) #[] #[], .func (.func 155) #[] #[], .func (.func 156) #[] #[], .func (.func 157) #[] #[], .func (.func 158) #[] #[], .func (.func 159) #[] #[], .func (.func 160) #[] #[], .func (.func 161) #[] #[], .func (.func 162) #[] #[], .func (.func 163) #[] #[], .func (.func 164) #[] #[], .func (.func 166) #[] #[], .func (.func 167) #[] #[], .func (.func 168) #[] #[], .func (.func 169) #[] #[], .func (.func 170) #[] #[], .func (.func 171) #[] #[], .func (.func 173) #[] #[]] rfl rfl rfl size52 (by simp [Value.oneCell']) ?_; intro w1 hx hb; have X1 := hid hx; have B1 := hid hb; clear hx hb)
  | fail)
 try simp only [Exit.inBlock, Exit.then]
 refine bodyPost_ret (results_cell_mid rfl _ _ w.heap.size [.func (.func 148) #[] #[], .func (.func 149) #[] #[], .func (.func 150) #[] #[], .func (.func 151) #[] #[], .func (.func 152) #[] #[], .func (.func 153) #[] #[], .func (.func 154) #[] #[], .func (.func 155) #[] #[], .func (.func 156) #[] #[], .func (.func 157) #[] #[], .func (.func 158) #[] #[], .func (.func 159) #[] #[], .func (.func 160) #[] #[], .func (.func 161) #[] #[], .func (.func 162) #[] #[], .func (.func 163) #[] #[], .func (.func 164) #[] #[], .func (.func 166) #[] #[], .func (.func 167) #[] #[], .func (.func 168) #[] #[], .func (.func 169) #[] #[], .func (.func 170) #[] #[], .func (.func 171) #[] #[], .func (.func 173) #[] #[]] 116 _ rfl X1.out Tryz.underlying116 rfl size52) rfl ⟨rfl, B1.out⟩
set_option maxHeartbeats 4000000 in
theorem isz0 (C : Cn) (a : Ads) (q : Bool) (hq : (C.tx.toList == []) = q) (w : World) (h : IsC w C a) : Calls Tryz.prog 148 #[.agg (ccs C a).toArray] w fun e w' => e = .returned (.bool q) ∧ Below w.heap.size w w' := by
 obtain ⟨tx, n, tg, th, via, al, dn, us, ks, d, x3, x4, x5, x6, x7, x8⟩ := C
 obtain ⟨aA, aC, dA, dC, uA, uC, kA, kC⟩ := a
 dsimp only at hq
 have b1 := h.al.rws.big
 have b2 := h.dn.rws.big
 unfold maxLen at b1 b2
 dsimp only at b1 b2
 clear h
 have BA := hid ((Below.refl w.heap.size w).alloc (Nat.le_refl _) (.cells #[.string tx, .int .i64 n, .int .i64 tg, .bool th, .string via, .slice aA al.length aC, .slice dA dn.length dC, .slice uA us.length uC, .slice kA ks.length kC, .int .i64 d, .int .i64 x3, .int .i64 x4, .int .i64 x5, .int .i64 x6, .int .i64 x7, .int .i64 x8] 30))
 have X0 := hid (blk_new w [.string tx, .int .i64 n, .int .i64 tg, .bool th, .string via, .slice aA al.length aC, .slice dA dn.length dC, .slice uA us.length uC, .slice kA ks.length kC, .int .i64 d, .int .i64 x3, .int .i64 x4, .int .i64 x5, .int .i64 x6, .int .i64 x7, .int .i64 x8] 30)
 have y := X0.out.cell (i := 0) rfl
 show Calls Tryz.prog 148 #[.agg #[.string tx, .int .i64 n, .int .i64 tg, .bool th, .string via, .slice aA al.length aC, .slice dA dn.length dC, .slice uA us.length uC, .slice kA ks.length kC, .int .i64 d, .int .i64 x3, .int .i64 x4, .int .i64 x5, .int .i64 x6, .int .i64 x7, .int .i64 x8]] w _
 go_enter Tryz.func148, Tryz.ntmps148
 go_wp2
 go_ret
 exact ⟨rfl, BA.out⟩
set_option maxHeartbeats 4000000 in
theorem isz1 (C : Cn) (a : Ads) (q : Bool) (hq : (C.n == 0) = q) (w : World) (h : IsC w C a) : Calls Tryz.prog 151 #[.agg (ccs C a).toArray] w fun e w' => e = .returned (.bool q) ∧ Below w.heap.size w w' := by
 obtain ⟨tx, n, tg, th, via, al, dn, us, ks, d, x3, x4, x5, x6, x7, x8⟩ := C
 obtain ⟨aA, aC, dA, dC, uA, uC, kA, kC⟩ := a
 dsimp only at hq
 have b1 := h.al.rws.big
 have b2 := h.dn.rws.big
 unfold maxLen at b1 b2
 dsimp only at b1 b2
 clear h
 have BA := hid ((Below.refl w.heap.size w).alloc (Nat.le_refl _) (.cells #[.string tx, .int .i64 n, .int .i64 tg, .bool th, .string via, .slice aA al.length aC, .slice dA dn.length dC, .slice uA us.length uC, .slice kA ks.length kC, .int .i64 d, .int .i64 x3, .int .i64 x4, .int .i64 x5, .int .i64 x6, .int .i64 x7, .int .i64 x8] 30))
 have X0 := hid (blk_new w [.string tx, .int .i64 n, .int .i64 tg, .bool th, .string via, .slice aA al.length aC, .slice dA dn.length dC, .slice uA us.length uC, .slice kA ks.length kC, .int .i64 d, .int .i64 x3, .int .i64 x4, .int .i64 x5, .int .i64 x6, .int .i64 x7, .int .i64 x8] 30)
 have y := X0.out.cell (i := 1) rfl
 show Calls Tryz.prog 151 #[.agg #[.string tx, .int .i64 n, .int .i64 tg, .bool th, .string via, .slice aA al.length aC, .slice dA dn.length dC, .slice uA us.length uC, .slice kA ks.length kC, .int .i64 d, .int .i64 x3, .int .i64 x4, .int .i64 x5, .int .i64 x6, .int .i64 x7, .int .i64 x8]] w _
 go_enter Tryz.func151, Tryz.ntmps151
 go_wp2
 go_ret
 exact ⟨rfl, BA.out⟩
set_option maxHeartbeats 4000000 in
theorem isz2 (C : Cn) (a : Ads) (q : Bool) (hq : (C.tg == 0) = q) (w : World) (h : IsC w C a) : Calls Tryz.prog 154 #[.agg (ccs C a).toArray] w fun e w' => e = .returned (.bool q) ∧ Below w.heap.size w w' := by
 obtain ⟨tx, n, tg, th, via, al, dn, us, ks, d, x3, x4, x5, x6, x7, x8⟩ := C
 obtain ⟨aA, aC, dA, dC, uA, uC, kA, kC⟩ := a
 dsimp only at hq
 have b1 := h.al.rws.big
 have b2 := h.dn.rws.big
 unfold maxLen at b1 b2
 dsimp only at b1 b2
 clear h
 have BA := hid ((Below.refl w.heap.size w).alloc (Nat.le_refl _) (.cells #[.string tx, .int .i64 n, .int .i64 tg, .bool th, .string via, .slice aA al.length aC, .slice dA dn.length dC, .slice uA us.length uC, .slice kA ks.length kC, .int .i64 d, .int .i64 x3, .int .i64 x4, .int .i64 x5, .int .i64 x6, .int .i64 x7, .int .i64 x8] 30))
 have X0 := hid (blk_new w [.string tx, .int .i64 n, .int .i64 tg, .bool th, .string via, .slice aA al.length aC, .slice dA dn.length dC, .slice uA us.length uC, .slice kA ks.length kC, .int .i64 d, .int .i64 x3, .int .i64 x4, .int .i64 x5, .int .i64 x6, .int .i64 x7, .int .i64 x8] 30)
 have y := X0.out.cell (i := 2) rfl
 show Calls Tryz.prog 154 #[.agg #[.string tx, .int .i64 n, .int .i64 tg, .bool th, .string via, .slice aA al.length aC, .slice dA dn.length dC, .slice uA us.length uC, .slice kA ks.length kC, .int .i64 d, .int .i64 x3, .int .i64 x4, .int .i64 x5, .int .i64 x6, .int .i64 x7, .int .i64 x8]] w _
 go_enter Tryz.func154, Tryz.ntmps154
 go_wp2
 go_ret
 exact ⟨rfl, BA.out⟩
set_option maxHeartbeats 4000000 in
theorem isz3 (C : Cn) (a : Ads) (q : Bool) (hq : (!C.th) = q) (w : World) (h : IsC w C a) : Calls Tryz.prog 157 #[.agg (ccs C a).toArray] w fun e w' => e = .returned (.bool q) ∧ Below w.heap.size w w' := by
 obtain ⟨tx, n, tg, th, via, al, dn, us, ks, d, x3, x4, x5, x6, x7, x8⟩ := C
 obtain ⟨aA, aC, dA, dC, uA, uC, kA, kC⟩ := a
 dsimp only at hq
 have b1 := h.al.rws.big
 have b2 := h.dn.rws.big
 unfold maxLen at b1 b2
 dsimp only at b1 b2
 clear h
 have BA := hid ((Below.refl w.heap.size w).alloc (Nat.le_refl _) (.cells #[.string tx, .int .i64 n, .int .i64 tg, .bool th, .string via, .slice aA al.length aC, .slice dA dn.length dC, .slice uA us.length uC, .slice kA ks.length kC, .int .i64 d, .int .i64 x3, .int .i64 x4, .int .i64 x5, .int .i64 x6, .int .i64 x7, .int .i64 x8] 30))
 have X0 := hid (blk_new w [.string tx, .int .i64 n, .int .i64 tg, .bool th, .string via, .slice aA al.length aC, .slice dA dn.length dC, .slice uA us.length uC, .slice kA ks.length kC, .int .i64 d, .int .i64 x3, .int .i64 x4, .int .i64 x5, .int .i64 x6, .int .i64 x7, .int .i64 x8] 30)
 have y := X0.out.cell (i := 3) rfl
 show Calls Tryz.prog 157 #[.agg #[.string tx, .int .i64 n, .int .i64 tg, .bool th, .string via, .slice aA al.length aC, .slice dA dn.length dC, .slice uA us.length uC, .slice kA ks.length kC, .int .i64 d, .int .i64 x3, .int .i64 x4, .int .i64 x5, .int .i64 x6, .int .i64 x7, .int .i64 x8]] w _
 go_enter Tryz.func157, Tryz.ntmps157
 go_wp2
 go_ret
 exact ⟨rfl, BA.out⟩
set_option maxHeartbeats 4000000 in
theorem isz4 (C : Cn) (a : Ads) (q : Bool) (hq : (C.via.toList == []) = q) (w : World) (h : IsC w C a) : Calls Tryz.prog 160 #[.agg (ccs C a).toArray] w fun e w' => e = .returned (.bool q) ∧ Below w.heap.size w w' := by
 obtain ⟨tx, n, tg, th, via, al, dn, us, ks, d, x3, x4, x5, x6, x7, x8⟩ := C
 obtain ⟨aA, aC, dA, dC, uA, uC, kA, kC⟩ := a
 dsimp only at hq
 have b1 := h.al.rws.big
 have b2 := h.dn.rws.big
 unfold maxLen at b1 b2
 dsimp only at b1 b2
 clear h
 have BA := hid ((Below.refl w.heap.size w).alloc (Nat.le_refl _) (.cells #[.string tx, .int .i64 n, .int .i64 tg, .bool th, .string via, .slice aA al.length aC, .slice dA dn.length dC, .slice uA us.length uC, .slice kA ks.length kC, .int .i64 d, .int .i64 x3, .int .i64 x4, .int .i64 x5, .int .i64 x6, .int .i64 x7, .int .i64 x8] 30))
 have X0 := hid (blk_new w [.string tx, .int .i64 n, .int .i64 tg, .bool th, .string via, .slice aA al.length aC, .slice dA dn.length dC, .slice uA us.length uC, .slice kA ks.length kC, .int .i64 d, .int .i64 x3, .int .i64 x4, .int .i64 x5, .int .i64 x6, .int .i64 x7, .int .i64 x8] 30)
 have y := X0.out.cell (i := 4) rfl
 show Calls Tryz.prog 160 #[.agg #[.string tx, .int .i64 n, .int .i64 tg, .bool th, .string via, .slice aA al.length aC, .slice dA dn.length dC, .slice uA us.length uC, .slice kA ks.length kC, .int .i64 d, .int .i64 x3, .int .i64 x4, .int .i64 x5, .int .i64 x6, .int .i64 x7, .int .i64 x8]] w _
 go_enter Tryz.func160, Tryz.ntmps160
 go_wp2
 go_ret
 exact ⟨rfl, BA.out⟩
set_option maxHeartbeats 4000000 in
theorem isz5 (C : Cn) (a : Ads) (q : Bool) (hq : ((C.al.length : Int) == 0) = q) (w : World) (h : IsC w C a) : Calls Tryz.prog 163 #[.agg (ccs C a).toArray] w fun e w' => e = .returned (.bool q) ∧ Below w.heap.size w w' := by
 obtain ⟨tx, n, tg, th, via, al, dn, us, ks, d, x3, x4, x5, x6, x7, x8⟩ := C
 obtain ⟨aA, aC, dA, dC, uA, uC, kA, kC⟩ := a
 dsimp only at hq
 have b1 := h.al.rws.big
 have b2 := h.dn.rws.big
 unfold maxLen at b1 b2
 dsimp only at b1 b2
 clear h
 have BA := hid ((Below.refl w.heap.size w).alloc (Nat.le_refl _) (.cells #[.string tx, .int .i64 n, .int .i64 tg, .bool th, .string via, .slice aA al.length aC, .slice dA dn.length dC, .slice uA us.length uC, .slice kA ks.length kC, .int .i64 d, .int .i64 x3, .int .i64 x4, .int .i64 x5, .int .i64 x6, .int .i64 x7, .int .i64 x8] 30))
 have X0 := hid (blk_new w [.string tx, .int .i64 n, .int .i64 tg, .bool th, .string via, .slice aA al.length aC, .slice dA dn.length dC, .slice uA us.length uC, .slice kA ks.length kC, .int .i64 d, .int .i64 x3, .int .i64 x4, .int .i64 x5, .int .i64 x6, .int .i64 x7, .int .i64 x8] 30)
 have y := X0.out.cell (i := 5) rfl
 show Calls Tryz.prog 163 #[.agg #[.string tx, .int .i64 n, .int .i64 tg, .bool th, .string via, .slice aA al.length aC, .slice dA dn.length dC, .slice uA us.length uC, .slice kA ks.length kC, .int .i64 d, .int .i64 x3, .int .i64 x4, .int .i64 x5, .int .i64 x6, .int .i64 x7, .int .i64 x8]] w _
 go_enter Tryz.func163, Tryz.ntmps163
 go_wp2
 go_ret
 exact ⟨rfl, BA.out⟩
set_option maxHeartbeats 4000000 in
theorem isz6 (C : Cn) (a : Ads) (q : Bool) (hq : ((C.dn.length : Int) == 0) = q) (w : World) (h : IsC w C a) : Calls Tryz.prog 167 #[.agg (ccs C a).toArray] w fun e w' => e = .returned (.bool q) ∧ Below w.heap.size w w' := by
 obtain ⟨tx, n, tg, th, via, al, dn, us, ks, d, x3, x4, x5, x6, x7, x8⟩ := C
 obtain ⟨aA, aC, dA, dC, uA, uC, kA, kC⟩ := a
 dsimp only at hq
 have b1 := h.al.rws.big
 have b2 := h.dn.rws.big
 unfold maxLen at b1 b2
 dsimp only at b1 b2
 clear h
 have BA := hid ((Below.refl w.heap.size w).alloc (Nat.le_refl _) (.cells #[.string tx, .int .i64 n, .int .i64 tg, .bool th, .string via, .slice aA al.length aC, .slice dA dn.length dC, .slice uA us.length uC, .slice kA ks.length kC, .int .i64 d, .int .i64 x3, .int .i64 x4, .int .i64 x5, .int .i64 x6, .int .i64 x7, .int .i64 x8] 30))
 have X0 := hid (blk_new w [.string tx, .int .i64 n, .int .i64 tg, .bool th, .string via, .slice aA al.length aC, .slice dA dn.length dC, .slice uA us.length uC, .slice kA ks.length kC, .int .i64 d, .int .i64 x3, .int .i64 x4, .int .i64 x5, .int .i64 x6, .int .i64 x7, .int .i64 x8] 30)
 have y := X0.out.cell (i := 6) rfl
 show Calls Tryz.prog 167 #[.agg #[.string tx, .int .i64 n, .int .i64 tg, .bool th, .string via, .slice aA al.length aC, .slice dA dn.length dC, .slice uA us.length uC, .slice kA ks.length kC, .int .i64 d, .int .i64 x3, .int .i64 x4, .int .i64 x5, .int .i64 x6, .int .i64 x7, .int .i64 x8]] w _
 go_enter Tryz.func167, Tryz.ntmps167
 go_wp2
 go_ret
 exact ⟨rfl, BA.out⟩

set_option maxHeartbeats 4000000 in
theorem isz7 (C : Cn) (a : Ads) (q : Bool) (hq : sameL C.us [] C.ks [] [C.d, C.x3, C.x4, C.x5, C.x6, C.x7, C.x8] [0, 0, 0, 0, 0, 0, 0] = q) (w : World) (h : IsC w C a) : Calls Tryz.prog 170 #[.agg (ccs C a).toArray] w fun e w' => e = .returned (.bool q) ∧ Below w.heap.size w w' := by
 have HLv := hid h.lv
 obtain ⟨tx, n, tg, th, via, al, dn, us, ks, d, x3, x4, x5, x6, x7, x8⟩ := C
 obtain ⟨aA, aC, dA, dC, uA, uC, kA, kC⟩ := a
 dsimp only at hq HLv
 clear h
 have BA := hid ((Below.refl w.heap.size w).alloc (Nat.le_refl _) (.cells #[.string tx, .int .i64 n, .int .i64 tg, .bool th, .string via, .slice aA al.length aC, .slice dA dn.length dC, .slice uA us.length uC, .slice kA ks.length kC, .int .i64 d, .int .i64 x3, .int .i64 x4, .int .i64 x5, .int .i64 x6, .int .i64 x7, .int .i64 x8] 30))
 have X0 := hid (blk_new w [.string tx, .int .i64 n, .int .i64 tg, .bool th, .string via, .slice aA al.length aC, .slice dA dn.length dC, .slice uA us.length uC, .slice kA ks.length kC, .int .i64 d, .int .i64 x3, .int .i64 x4, .int .i64 x5, .int .i64 x6, .int .i64 x7, .int .i64 x8] 30)
 have HS := hid (slevels56 us ks d x3 x4 x5 x6 x7 x8 uA uC kA kC [] [] 0 0 0 0 0 0 0 none 0 none 0 _ (HLv.out.below BA.out) (zero_isL _))
 rw [hq] at HS
 clear hq
 show Calls Tryz.prog 170 #[.agg #[.string tx, .int .i64 n, .int .i64 tg, .bool th, .string via, .slice aA al.length aC, .slice dA dn.length dC, .slice uA us.length uC, .slice kA ks.length kC, .int .i64 d, .int .i64 x3, .int .i64 x4, .int .i64 x5, .int .i64 x6, .int .i64 x7, .int .i64 x8]] w _
 go_enter Tryz.func170, Tryz.ntmps170
 go_wp2_with (first
  | (refine wpList_load_mid rfl 28 _ rfl w.heap.size 7 rfl [.slice uA us.length uC, .slice kA ks.length kC, .int .i64 d, .int .i64 x3, .int .i64 x4, .int .i64 x5, .int .i64 x6, .int .i64 x7, .int .i64 x8] _ (X0.out.mid 7 9) Tryz.underlying28 rfl size27 ?_)
  | (go_at_call 141; refine HS.out.mono ?_; rintro e w1 ⟨rfl, hb⟩; have B1 := hid (BA.out.trans (hb.mono BA.out.size)); clear hb)
  | fail)
 go_ret
 exact ⟨rfl, B1.out⟩
end Go.Proofs.YtablocpcgknmaaaGreatDoor
