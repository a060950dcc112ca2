/- Equality of power levels. No condition. -/
import Derived.Test.YtablocpcgknmaaaGreatDoorRK4
import Derived.Test.YtablocpcgknmaaaGreatDoorRK9
namespace Go.Proofs.YtablocpcgknmaaaGreatDoor
open Go.Lib (hid)
open Go Go.RowKit
set_option linter.unusedVariables false
set_option linter.unusedSimpArgs false
set_option maxRecDepth 100000

def sameN : List Int → List Int → Bool
 | [], [] => true
 | x :: r, y :: t => decide (x = y) && sameN r t
 | _, _ => false
theorem sameN_iff : ∀ {a b : List Int}, sameN a b = true ↔ a = b
 | [], [] => by simp [sameN]
 | [], _ :: _ => by simp [sameN]
 | _ :: _, [] => by simp [sameN]
 | x :: r, y :: t => by simp [sameN, sameN_iff (a := r) (b := t)]
/-- Equal power levels. -/
def sameL (us us' : List (ByteArray × Int)) (ks ks' : List (Int × Int)) (ns ns' : List Int) : Bool := decide (us = us') && (decide (ks = ks') && sameN ns ns')
theorem size3 (w : World) : (sizeOf 3).run Tryz.prog w = .ok 1 w := by kernel_rfl
theorem equal_ints7 (w : World) (xs ys : List Int) (hx : xs.length = 7) (hy : ys.length = 7) :
  (Op.equalIn 10000 163 (.agg (xs.map (Value.int .i64)).toArray) (.agg (ys.map (Value.int .i64)).toArray)).run Tryz.prog w = .ok (xs == ys) w := by
 have hall : ∀ (a b : List Int), a.length = b.length → ((List.range a.length).all fun i => a.getD i 0 == b.getD i 0) = (a == b) := by
  intro a
  induction a with
  | nil => intro b h; cases b with | nil => rfl | cons y b => simp at h
  | cons x a ih =>
   intro b h
   cases b with
   | nil => simp at h
   | cons y b =>
    have ih := ih b (by simpa using h)
    rw [List.length_cons, List.range_succ_eq_map, List.all_cons, List.all_map]
    simp only [List.getD_cons_zero, Function.comp_def, List.getD_cons_succ, ih]
    simp [List.cons_beq_cons]
 rw [← hall xs ys (hx.trans hy.symm), hx, List.range_eq_range', show (10000 : Nat) = 9998 + 2 from rfl, Op.equalIn]
 simp only [Sem.run_bind, run_underlying Tryz.underlying163, Result.andThen_ok, size3, Std.Legacy.Range.forIn_eq_forIn_range', Std.Legacy.Range.size, Nat.sub_zero, Nat.add_sub_cancel, Nat.div_one]
 have hl : ∀ i ∈ List.range' 0 7 1, i < 7 := fun i hi => by simpa using (List.mem_range'_1.1 hi).2
 generalize List.range' 0 7 1 = l at hl ⊢
 induction l with
 | nil => simp
 | cons i l ih =>
  have hi : i < 7 := hl i (by simp)
  have px : (part 3 (xs.map (Value.int .i64)).toArray (i * 1)).run Tryz.prog w = .ok (Value.int .i64 (xs.getD i 0)) w := by
   simp [part, isAgg, run_underlying Tryz.underlying3, List.getD, List.getElem?_eq_getElem (show i < xs.length by omega)]
  have py : (part 3 (ys.map (Value.int .i64)).toArray (i * 1)).run Tryz.prog w = .ok (Value.int .i64 (ys.getD i 0)) w := by
   simp [part, isAgg, run_underlying Tryz.underlying3, List.getD, List.getElem?_eq_getElem (show i < ys.length by omega)]
  have pe : (Op.equalIn (9998 + 1) 3 (Value.int .i64 (xs.getD i 0)) (Value.int .i64 (ys.getD i 0))).run Tryz.prog w = .ok (xs.getD i 0 == ys.getD i 0) w :=
   run_equalIn_int w 9998 3 .i64 .i64 _ _ Tryz.underlying3
  simp only [List.forIn_cons, Sem.run_bind, px, py, pe, Result.andThen_ok, List.all_cons]
  cases hb : (xs.getD i 0 == ys.getD i 0)
  ·simp
  ·simp only [Bool.not_true, Bool.false_eq_true, if_false, Sem.run_pure, Result.andThen_ok, Bool.true_and]
   exact ih fun j hj => hl j (by simp [hj])
theorem equal7 (w : World) (xs ys : List Int) (hx : xs.length = 7) (hy : ys.length = 7) (q : Bool) (hq : sameN xs ys = q) :
  (Op.equalIn 10000 163 (.agg (xs.map (Value.int .i64)).toArray) (.agg (ys.map (Value.int .i64)).toArray)).run Tryz.prog w = .ok q w := by
 have := equal_ints7 w xs ys hx hy
 rwa [show (xs == ys) = q by rw [← hq, Bool.eq_iff_iff, sameN_iff, beq_iff_eq]] at this
theorem eq116 (A1 : Option Addr) (n1 c1 : Nat) (l1 : List (ByteArray × Int)) (A2 : Option Addr) (n2 c2 : Nat) (l2 : List (ByteArray × Int)) (w : World) (h1 : Rws w A1 n1 c1 2 (rowU (fU l1))) (hl1 : l1.length = n1) (h2 : Rws w A2 n2 c2 2 (rowU (fU l2))) (hl2 : l2.length = n2) (q : Bool) (hq : decide (l1 = l2) = q) : Calls Tryz.prog 192 #[.slice A1 n1 c1, .slice A2 n2 c2] w fun e w' => e = .returned (.bool q) ∧ Below w.heap.size w w' := by
 have := equal116 A1 n1 c1 l1 A2 n2 c2 l2 w h1 hl1 h2 hl2
 rwa [hq] at this
theorem eq117 (A1 : Option Addr) (n1 c1 : Nat) (l1 : List (Int × Int)) (A2 : Option Addr) (n2 c2 : Nat) (l2 : List (Int × Int)) (w : World) (h1 : Rws w A1 n1 c1 2 (rowK (fK l1))) (hl1 : l1.length = n1) (h2 : Rws w A2 n2 c2 2 (rowK (fK l2))) (hl2 : l2.length = n2) (q : Bool) (hq : decide (l1 = l2) = q) : Calls Tryz.prog 193 #[.slice A1 n1 c1, .slice A2 n2 c2] w fun e w' => e = .returned (.bool q) ∧ Below w.heap.size w w' := by
 have := equal117 A1 n1 c1 l1 A2 n2 c2 l2 w h1 hl1 h2 hl2
 rwa [hq] at this
set_option maxHeartbeats 16000000 in
theorem slevels56 (us : List (ByteArray × Int)) (ks : List (Int × Int)) (d x3 x4 x5 x6 x7 x8 : Int) (uA : Option Addr) (uC : Nat) (kA : Option Addr) (kC : Nat) (us' : List (ByteArray × Int)) (ks' : List (Int × Int)) (d' x3' x4' x5' x6' x7' x8' : Int) (uA' : Option Addr) (uC' : Nat) (kA' : Option Addr) (kC' : Nat) (w : World) (h : IsL w ⟨us, ks, d, x3, x4, x5, x6, x7, x8⟩ uA uC kA kC) (h' : IsL w ⟨us', ks', d', x3', x4', x5', x6', x7', x8'⟩ uA' uC' kA' kC') : Calls Tryz.prog 141 #[.agg #[.slice uA us.length uC, .slice kA ks.length kC, .int .i64 d, .int .i64 x3, .int .i64 x4, .int .i64 x5, .int .i64 x6, .int .i64 x7, .int .i64 x8], .agg #[.slice uA' us'.length uC', .slice kA' ks'.length kC', .int .i64 d', .int .i64 x3', .int .i64 x4', .int .i64 x5', .int .i64 x6', .int .i64 x7', .int .i64 x8']] w fun e w' => e = .returned (.bool (sameL us us' ks ks' [d, x3, x4, x5, x6, x7, x8] [d', x3', x4', x5', x6', x7', x8'])) ∧ Below w.heap.size w w' := by
 have BA := hid (((Below.refl w.heap.size w).alloc (Nat.le_refl _) (.cells #[.slice uA us.length uC, .slice kA ks.length kC, .int .i64 d, .int .i64 x3, .int .i64 x4, .int .i64 x5, .int .i64 x6, .int .i64 x7, .int .i64 x8] 28)).alloc (by simp) (.cells #[.slice uA' us'.length uC', .slice kA' ks'.length kC', .int .i64 d', .int .i64 x3', .int .i64 x4', .int .i64 x5', .int .i64 x6', .int .i64 x7', .int .i64 x8'] 28))
 have X1 := hid ((blk_new w [.slice uA us.length uC, .slice kA ks.length kC, .int .i64 d, .int .i64 x3, .int .i64 x4, .int .i64 x5, .int .i64 x6, .int .i64 x7, .int .i64 x8] 28).alloc (.cells #[.slice uA' us'.length uC', .slice kA' ks'.length kC', .int .i64 d', .int .i64 x3', .int .i64 x4', .int .i64 x5', .int .i64 x6', .int .i64 x7', .int .i64 x8'] 28))
 have X2 := hid (blk_new2 w (.cells #[.slice uA us.length uC, .slice kA ks.length kC, .int .i64 d, .int .i64 x3, .int .i64 x4, .int .i64 x5, .int .i64 x6, .int .i64 x7, .int .i64 x8] 28) [.slice uA' us'.length uC', .slice kA' ks'.length kC', .int .i64 d', .int .i64 x3', .int .i64 x4', .int .i64 x5', .int .i64 x6', .int .i64 x7', .int .i64 x8'] 28)
 have HU := hid (fun (q : Bool) (hq : decide (us = us') = q) y (hb : Below ((w.alloc (.cells #[.slice uA us.length uC, .slice kA ks.length kC, .int .i64 d, .int .i64 x3, .int .i64 x4, .int .i64 x5, .int .i64 x6, .int .i64 x7, .int .i64 x8] 28)).alloc (.cells #[.slice uA' us'.length uC', .slice kA' ks'.length kC', .int .i64 d', .int .i64 x3', .int .i64 x4', .int .i64 x5', .int .i64 x6', .int .i64 x7', .int .i64 x8'] 28)).heap.size ((w.alloc (.cells #[.slice uA us.length uC, .slice kA ks.length kC, .int .i64 d, .int .i64 x3, .int .i64 x4, .int .i64 x5, .int .i64 x6, .int .i64 x7, .int .i64 x8] 28)).alloc (.cells #[.slice uA' us'.length uC', .slice kA' ks'.length kC', .int .i64 d', .int .i64 x3', .int .i64 x4', .int .i64 x5', .int .i64 x6', .int .i64 x7', .int .i64 x8'] 28)) y) => eq116 uA us.length uC us uA' us'.length uC' us' y ((h.us.below BA.out).below hb) rfl ((h'.us.below BA.out).below hb) rfl q hq)
 have HK := hid (fun (q : Bool) (hq : decide (ks = ks') = q) y (hb : Below ((w.alloc (.cells #[.slice uA us.length uC, .slice kA ks.length kC, .int .i64 d, .int .i64 x3, .int .i64 x4, .int .i64 x5, .int .i64 x6, .int .i64 x7, .int .i64 x8] 28)).alloc (.cells #[.slice uA' us'.length uC', .slice kA' ks'.length kC', .int .i64 d', .int .i64 x3', .int .i64 x4', .int .i64 x5', .int .i64 x6', .int .i64 x7', .int .i64 x8'] 28)).heap.size ((w.alloc (.cells #[.slice uA us.length uC, .slice kA ks.length kC, .int .i64 d, .int .i64 x3, .int .i64 x4, .int .i64 x5, .int .i64 x6, .int .i64 x7, .int .i64 x8] 28)).alloc (.cells #[.slice uA' us'.length uC', .slice kA' ks'.length kC', .int .i64 d', .int .i64 x3', .int .i64 x4', .int .i64 x5', .int .i64 x6', .int .i64 x7', .int .i64 x8'] 28)) y) => eq117 kA ks.length kC ks kA' ks'.length kC' ks' y ((h.ks.below BA.out).below hb) rfl ((h'.ks.below BA.out).below hb) rfl q hq)
 have HN1 := hid (fun y => numbers50 us ks d x3 x4 x5 x6 x7 x8 uA uC kA kC y)
 have HN2 := hid (fun y => numbers50 us' ks' d' x3' x4' x5' x6' x7' x8' uA' uC' kA' kC' y)
 have HC := hid (show sameL us us' ks ks' [d, x3, x4, x5, x6, x7, x8] [d', x3', x4', x5', x6', x7', x8'] = (decide (us = us') && (decide (ks = ks') && sameN [d, x3, x4, x5, x6, x7, x8] [d', x3', x4', x5', x6', x7', x8'])) from rfl)
 have HSN := hid (sameN_iff (a := [d, x3, x4, x5, x6, x7, x8]) (b := [d', x3', x4', x5', x6', x7', x8']))
 generalize sameL us us' ks ks' [d, x3, x4, x5, x6, x7, x8] [d', x3', x4', x5', x6', x7', x8'] = r at HC ⊢
 clear h h'
 rcases hq1 : decide (us = us') with _ | _
 ·have HE := hid (HC.out.trans (by rw [hq1, Bool.false_and]))
  replace HU := hid (HU.out false hq1)
  clear HC hq1
  go_enter Tryz.func141, Tryz.ntmps141
  go_wp2
  generalize hW : World.alloc (World.alloc _ _) _ = W at BA X1 X2 HU HK ⊢
  clear hW
  refine wp_region_held_drew (S := (fun y => Below W.heap.size W y)) (by kernel_rfl) ((Below.refl W.heap.size W).drew) (fun hH0 => ?_)
  generalize hy0 : World.drew _ = y0 at hH0 ⊢
  have RB0 : Hid (Below W.heap.size W y0) := hid hH0
  clear hy0
  refine mvA 0 (v := ?hv1) rfl ?hy1 ?hr1
  case hy1 => (intro w hSw; (try dsimp only at hSw); go_simp; (try with_reducible rfl))
  try simp only [Act.put, sA, s0, s1]
  refine mvA 1 (v := .slice uA us.length uC) rfl (fun w0 hw0 => by have q0 := (X1.out.below hw0).cell (i := 0) rfl; go_simp) ?_
  try simp only [Act.put, sA, s0, s1]
  refine mvA 2 (v := ?hv2) rfl ?hy2 ?hr2
  case hy2 => (intro w hSw; (try dsimp only at hSw); go_simp; (try with_reducible rfl))
  try simp only [Act.put, sA, s0, s1]
  refine mvA 3 (v := .slice uA' us'.length uC') rfl (fun w0 hw0 => by have q0 := (X2.out.below hw0).cell (i := 0) rfl; go_simp) ?_
  try simp only [Act.put, sA, s0, s1]
  refine mvR 4 rfl (fun KK hKK => ?_)
  go_simp
  (with_reducible refine (HU.out _ RB0.out).mono ?_)
  rintro e1 y1 ⟨rfl, hb⟩
  have RB1 := hid (RB0.out.trans (hb.mono RB0.out.size))
  clear hb
  refine hKK.out _ _ (RB1.out) (fun hH1 => ?_)
  clear hKK KK
  try simp only [Act.put, sA, s0, s1]
  refine mvA 5 (v := ?hv3) rfl ?hy3 ?hr3
  case hy3 => (intro w hSw; (try dsimp only at hSw); go_simp; (try with_reducible rfl))
  try simp only [Act.put, sA, s0, s1]
  refine mvU 6 rfl ?_
  try simp only [Act.put, sA, s0, s1]
  refine mvU 7 rfl ?_
  try simp only [Act.put, sA, s0, s1]
  refine mvU 8 rfl ?_
  try simp only [Act.put, sA, s0, s1]
  refine mvU 9 rfl ?_
  try simp only [Act.put, sA, s0, s1]
  refine mvR 10 rfl (fun KK hKK => ?_)
  go_simp
  refine hKK.out _ _ (hH1) (fun hH2 => ?_)
  clear hKK KK
  try simp only [Act.put, sA, s0, s1]
  refine mvA 11 (v := ?hv4) rfl ?hy4 ?hr4
  case hy4 => (intro w hSw; (try dsimp only at hSw); go_simp; (try with_reducible rfl))
  try simp only [Act.put, sA, s0, s1]
  refine mvA 12 (v := ?hv5) rfl ?hy5 ?hr5
  case hy5 => (intro w hSw; (try dsimp only at hSw); go_simp; (try with_reducible rfl))
  try simp only [Act.put, sA, s0, s1]
  refine mvU 13 rfl ?_
  try simp only [Act.put, sA, s0, s1]
  refine mvU 15 rfl ?_
  try simp only [Act.put, sA, s0, s1]
  refine mvR 14 rfl (fun KK hKK => ?_)
  go_simp
  refine hKK.out _ _ (hH2) (fun hH3 => ?_)
  clear hKK KK
  try simp only [Act.put, sA, s0, s1]
  refine mvR 16 rfl (fun KK hKK => ?_)
  go_simp
  refine hKK.out _ _ (hH3) (fun hH4 => ?_)
  clear hKK KK
  try simp only [Act.put, sA, s0, s1]
  refine mvU 17 rfl ?_
  try simp only [Act.put, sA, s0, s1]
  refine mvA 18 (v := ?hv6) rfl ?hy6 ?hr6
  case hy6 => (intro w hSw; (try dsimp only at hSw); go_simp; (try with_reducible rfl))
  try simp only [Act.put, sA, s0, s1]
  refine mvA 19 (v := ?hv7) rfl ?hy7 ?hr7
  case hy7 => (intro w hSw; (try dsimp only at hSw); go_simp; (try with_reducible rfl))
  try simp only [Act.put, sA, s0, s1]
  refine wpAnyH_done (by kernel_rfl) ?_ _
  go_wp2
  go_ret
  exact ⟨ret_b HE.out, BA.out.trans (RB1.out.mono BA.out.size)⟩
 rcases hq2 : decide (ks = ks') with _ | _
 ·have HE := hid (HC.out.trans (by rw [hq1, hq2, Bool.true_and, Bool.false_and]))
  replace HU := hid (HU.out true hq1)
  replace HK := hid (HK.out false hq2)
  clear HC hq1 hq2
  go_enter Tryz.func141, Tryz.ntmps141
  go_wp2
  generalize hW : World.alloc (World.alloc _ _) _ = W at BA X1 X2 HU HK ⊢
  clear hW
  refine wp_region_held_drew (S := (fun y => Below W.heap.size W y)) (by kernel_rfl) ((Below.refl W.heap.size W).drew) (fun hH0 => ?_)
  generalize hy0 : World.drew _ = y0 at hH0 ⊢
  have RB0 : Hid (Below W.heap.size W y0) := hid hH0
  clear hy0
  refine mvA 0 (v := ?hv8) rfl ?hy8 ?hr8
  case hy8 => (intro w hSw; (try dsimp only at hSw); go_simp; (try with_reducible rfl))
  try simp only [Act.put, sA, s0, s1]
  refine mvA 1 (v := .slice uA us.length uC) rfl (fun w0 hw0 => by have q0 := (X1.out.below hw0).cell (i := 0) rfl; go_simp) ?_
  try simp only [Act.put, sA, s0, s1]
  refine mvA 2 (v := ?hv9) rfl ?hy9 ?hr9
  case hy9 => (intro w hSw; (try dsimp only at hSw); go_simp; (try with_reducible rfl))
  try simp only [Act.put, sA, s0, s1]
  refine mvA 3 (v := .slice uA' us'.length uC') rfl (fun w0 hw0 => by have q0 := (X2.out.below hw0).cell (i := 0) rfl; go_simp) ?_
  try simp only [Act.put, sA, s0, s1]
  refine mvR 4 rfl (fun KK hKK => ?_)
  go_simp
  (with_reducible refine (HU.out _ RB0.out).mono ?_)
  rintro e1 y1 ⟨rfl, hb⟩
  have RB1 := hid (RB0.out.trans (hb.mono RB0.out.size))
  clear hb
  refine hKK.out _ _ (RB1.out) (fun hH1 => ?_)
  clear hKK KK
  try simp only [Act.put, sA, s0, s1]
  refine mvA 5 (v := ?hv10) rfl ?hy10 ?hr10
  case hy10 => (intro w hSw; (try dsimp only at hSw); go_simp; (try with_reducible rfl))
  try simp only [Act.put, sA, s0, s1]
  refine mvA 6 (v := ?hv11) rfl ?hy11 ?hr11
  case hy11 => (intro w hSw; (try dsimp only at hSw); go_simp; (try with_reducible rfl))
  try simp only [Act.put, sA, s0, s1]
  refine mvA 7 (v := .slice kA ks.length kC) rfl (fun w0 hw0 => by have q0 := (X1.out.below hw0).cell (i := 1) rfl; go_simp) ?_
  try simp only [Act.put, sA, s0, s1]
  refine mvA 8 (v := ?hv12) rfl ?hy12 ?hr12
  case hy12 => (intro w hSw; (try dsimp only at hSw); go_simp; (try with_reducible rfl))
  try simp only [Act.put, sA, s0, s1]
  refine mvA 9 (v := .slice kA' ks'.length kC') rfl (fun w0 hw0 => by have q0 := (X2.out.below hw0).cell (i := 1) rfl; go_simp) ?_
  try simp only [Act.put, sA, s0, s1]
  refine mvR 10 rfl (fun KK hKK => ?_)
  go_simp
  (with_reducible refine (HK.out _ RB1.out).mono ?_)
  rintro e2 y2 ⟨rfl, hb⟩
  have RB2 := hid (RB1.out.trans (hb.mono RB1.out.size))
  clear hb
  refine hKK.out _ _ (RB2.out) (fun hH2 => ?_)
  clear hKK KK
  try simp only [Act.put, sA, s0, s1]
  refine mvA 11 (v := ?hv13) rfl ?hy13 ?hr13
  case hy13 => (intro w hSw; (try dsimp only at hSw); go_simp; (try with_reducible rfl))
  try simp only [Act.put, sA, s0, s1]
  refine mvA 12 (v := ?hv14) rfl ?hy14 ?hr14
  case hy14 => (intro w hSw; (try dsimp only at hSw); go_simp; (try with_reducible rfl))
  try simp only [Act.put, sA, s0, s1]
  refine mvU 13 rfl ?_
  try simp only [Act.put, sA, s0, s1]
  refine mvU 15 rfl ?_
  try simp only [Act.put, sA, s0, s1]
  refine mvR 14 rfl (fun KK hKK => ?_)
  go_simp
  refine hKK.out _ _ (hH2) (fun hH3 => ?_)
  clear hKK KK
  try simp only [Act.put, sA, s0, s1]
  refine mvR 16 rfl (fun KK hKK => ?_)
  go_simp
  refine hKK.out _ _ (hH3) (fun hH4 => ?_)
  clear hKK KK
  try simp only [Act.put, sA, s0, s1]
  refine mvU 17 rfl ?_
  try simp only [Act.put, sA, s0, s1]
  refine mvA 18 (v := ?hv15) rfl ?hy15 ?hr15
  case hy15 => (intro w hSw; (try dsimp only at hSw); go_simp; (try with_reducible rfl))
  try simp only [Act.put, sA, s0, s1]
  refine mvA 19 (v := ?hv16) rfl ?hy16 ?hr16
  case hy16 => (intro w hSw; (try dsimp only at hSw); go_simp; (try with_reducible rfl))
  try simp only [Act.put, sA, s0, s1]
  refine wpAnyH_done (by kernel_rfl) ?_ _
  go_wp2
  go_ret
  exact ⟨ret_b HE.out, BA.out.trans (RB2.out.mono BA.out.size)⟩
 replace HU := hid (HU.out true hq1)
 replace HK := hid (HK.out true hq2)
 rcases hq3 : sameN [d, x3, x4, x5, x6, x7, x8] [d', x3', x4', x5', x6', x7', x8'] with _ | _
 ·have HE := hid (HC.out.trans (by rw [hq1, hq2, hq3, Bool.true_and, Bool.true_and]))
  have HEq := hid (fun y => equal7 y [d, x3, x4, x5, x6, x7, x8] [d', x3', x4', x5', x6', x7', x8'] rfl rfl _ hq3)
  clear HC hq1 hq2 hq3
  go_enter Tryz.func141, Tryz.ntmps141
  go_wp2
  generalize hW : World.alloc (World.alloc _ _) _ = W at BA X1 X2 HU HK ⊢
  clear hW
  refine wp_region_held_drew (S := (fun y => Below W.heap.size W y)) (by kernel_rfl) ((Below.refl W.heap.size W).drew) (fun hH0 => ?_)
  generalize hy0 : World.drew _ = y0 at hH0 ⊢
  have RB0 : Hid (Below W.heap.size W y0) := hid hH0
  clear hy0
  refine mvA 0 (v := ?hv17) rfl ?hy17 ?hr17
  case hy17 => (intro w hSw; (try dsimp only at hSw); go_simp; (try with_reducible rfl))
  try simp only [Act.put, sA, s0, s1]
  refine mvA 1 (v := .slice uA us.length uC) rfl (fun w0 hw0 => by have q0 := (X1.out.below hw0).cell (i := 0) rfl; go_simp) ?_
  try simp only [Act.put, sA, s0, s1]
  refine mvA 2 (v := ?hv18) rfl ?hy18 ?hr18
  case hy18 => (intro w hSw; (try dsimp only at hSw); go_simp; (try with_reducible rfl))
  try simp only [Act.put, sA, s0, s1]
  refine mvA 3 (v := .slice uA' us'.length uC') rfl (fun w0 hw0 => by have q0 := (X2.out.below hw0).cell (i := 0) rfl; go_simp) ?_
  try simp only [Act.put, sA, s0, s1]
  refine mvR 4 rfl (fun KK hKK => ?_)
  go_simp
  (with_reducible refine (HU.out _ RB0.out).mono ?_)
  rintro e1 y1 ⟨rfl, hb⟩
  have RB1 := hid (RB0.out.trans (hb.mono RB0.out.size))
  clear hb
  refine hKK.out _ _ (RB1.out) (fun hH1 => ?_)
  clear hKK KK
  try simp only [Act.put, sA, s0, s1]
  refine mvA 5 (v := ?hv19) rfl ?hy19 ?hr19
  case hy19 => (intro w hSw; (try dsimp only at hSw); go_simp; (try with_reducible rfl))
  try simp only [Act.put, sA, s0, s1]
  refine mvA 6 (v := ?hv20) rfl ?hy20 ?hr20
  case hy20 => (intro w hSw; (try dsimp only at hSw); go_simp; (try with_reducible rfl))
  try simp only [Act.put, sA, s0, s1]
  refine mvA 7 (v := .slice kA ks.length kC) rfl (fun w0 hw0 => by have q0 := (X1.out.below hw0).cell (i := 1) rfl; go_simp) ?_
  try simp only [Act.put, sA, s0, s1]
  refine mvA 8 (v := ?hv21) rfl ?hy21 ?hr21
  case hy21 => (intro w hSw; (try dsimp only at hSw); go_simp; (try with_reducible rfl))
  try simp only [Act.put, sA, s0, s1]
  refine mvA 9 (v := .slice kA' ks'.length kC') rfl (fun w0 hw0 => by have q0 := (X2.out.below hw0).cell (i := 1) rfl; go_simp) ?_
  try simp only [Act.put, sA, s0, s1]
  refine mvR 10 rfl (fun KK hKK => ?_)
  go_simp
  (with_reducible refine (HK.out _ RB1.out).mono ?_)
  rintro e2 y2 ⟨rfl, hb⟩
  have RB2 := hid (RB1.out.trans (hb.mono RB1.out.size))
  clear hb
  refine hKK.out _ _ (RB2.out) (fun hH2 => ?_)
  clear hKK KK
  try simp only [Act.put, sA, s0, s1]
  refine mvA 11 (v := ?hv22) rfl ?hy22 ?hr22
  case hy22 => (intro w hSw; (try dsimp only at hSw); go_simp; (try with_reducible rfl))
  try simp only [Act.put, sA, s0, s1]
  refine mvA 12 (v := ?hv23) rfl ?hy23 ?hr23
  case hy23 => (intro w hSw; (try dsimp only at hSw); go_simp; (try with_reducible rfl))
  try simp only [Act.put, sA, s0, s1]
  refine mvY 13 (v := .agg #[.slice uA us.length uC, .slice kA ks.length kC, .int .i64 d, .int .i64 x3, .int .i64 x4, .int .i64 x5, .int .i64 x6, .int .i64 x7, .int .i64 x8]) rfl (yieldsIf_load_mid (by rfl) 28 _ rfl w.heap.size 0 rfl [.slice uA us.length uC, .slice kA ks.length kC, .int .i64 d, .int .i64 x3, .int .i64 x4, .int .i64 x5, .int .i64 x6, .int .i64 x7, .int .i64 x8] _ (fun w0 hw0 => (X1.out.below hw0).range) Tryz.underlying28 rfl size27) ?_
  try simp only [Act.put, sA, s0, s1]
  refine mvY 15 (v := .agg #[.slice uA' us'.length uC', .slice kA' ks'.length kC', .int .i64 d', .int .i64 x3', .int .i64 x4', .int .i64 x5', .int .i64 x6', .int .i64 x7', .int .i64 x8']) rfl (yieldsIf_load_mid (by rfl) 28 _ rfl (w.heap.size + 1) 0 rfl [.slice uA' us'.length uC', .slice kA' ks'.length kC', .int .i64 d', .int .i64 x3', .int .i64 x4', .int .i64 x5', .int .i64 x6', .int .i64 x7', .int .i64 x8'] _ (fun w0 hw0 => (X2.out.below hw0).range) Tryz.underlying28 rfl size27) ?_
  try simp only [Act.put, sA, s0, s1]
  refine mvR 14 rfl (fun KK hKK => ?_)
  go_simp
  (with_reducible refine (HN1.out _).mono ?_)
  rintro e3 y3 ⟨rfl, hb⟩
  have RB3 := hid (RB2.out.trans (hb.mono RB2.out.size))
  clear hb
  refine hKK.out _ _ (RB3.out) (fun hH3 => ?_)
  clear hKK KK
  try simp only [Act.put, sA, s0, s1]
  refine mvR 16 rfl (fun KK hKK => ?_)
  go_simp
  (with_reducible refine (HN2.out _).mono ?_)
  rintro e4 y4 ⟨rfl, hb⟩
  have RB4 := hid (RB3.out.trans (hb.mono RB3.out.size))
  clear hb
  refine hKK.out _ _ (RB4.out) (fun hH4 => ?_)
  clear hKK KK
  try simp only [Act.put, sA, s0, s1]
  refine mvA 17 (v := .bool false) rfl (fun w0 hw0 => by have q0 : (Op.equalIn 10000 163 (.agg #[.int .i64 d, .int .i64 x3, .int .i64 x4, .int .i64 x5, .int .i64 x6, .int .i64 x7, .int .i64 x8]) (.agg #[.int .i64 d', .int .i64 x3', .int .i64 x4', .int .i64 x5', .int .i64 x6', .int .i64 x7', .int .i64 x8'])).run Tryz.prog w0 = .ok false w0 := HEq.out w0; go_simp) ?_
  try simp only [Act.put, sA, s0, s1]
  refine mvA 18 (v := ?hv24) rfl ?hy24 ?hr24
  case hy24 => (intro w hSw; (try dsimp only at hSw); go_simp; (try with_reducible rfl))
  try simp only [Act.put, sA, s0, s1]
  refine mvA 19 (v := ?hv25) rfl ?hy25 ?hr25
  case hy25 => (intro w hSw; (try dsimp only at hSw); go_simp; (try with_reducible rfl))
  try simp only [Act.put, sA, s0, s1]
  refine wpAnyH_done (by kernel_rfl) ?_ _
  go_wp2
  go_ret
  exact ⟨ret_b HE.out, BA.out.trans (RB4.out.mono BA.out.size)⟩
 ·have HE := hid (HC.out.trans (by rw [hq1, hq2, hq3, Bool.true_and, Bool.true_and]))
  have HEq := hid (fun y => equal7 y [d, x3, x4, x5, x6, x7, x8] [d', x3', x4', x5', x6', x7', x8'] rfl rfl _ hq3)
  clear HC hq1 hq2 hq3
  go_enter Tryz.func141, Tryz.ntmps141
  go_wp2
  generalize hW : World.alloc (World.alloc _ _) _ = W at BA X1 X2 HU HK ⊢
  clear hW
  refine wp_region_held_drew (S := (fun y => Below W.heap.size W y)) (by kernel_rfl) ((Below.refl W.heap.size W).drew) (fun hH0 => ?_)
  generalize hy0 : World.drew _ = y0 at hH0 ⊢
  have RB0 : Hid (Below W.heap.size W y0) := hid hH0
  clear hy0
  refine mvA 0 (v := ?hv26) rfl ?hy26 ?hr26
  case hy26 => (intro w hSw; (try dsimp only at hSw); go_simp; (try with_reducible rfl))
  try simp only [Act.put, sA, s0, s1]
  refine mvA 1 (v := .slice uA us.length uC) rfl (fun w0 hw0 => by have q0 := (X1.out.below hw0).cell (i := 0) rfl; go_simp) ?_
  try simp only [Act.put, sA, s0, s1]
  refine mvA 2 (v := ?hv27) rfl ?hy27 ?hr27
  case hy27 => (intro w hSw; (try dsimp only at hSw); go_simp; (try with_reducible rfl))
  try simp only [Act.put, sA, s0, s1]
  refine mvA 3 (v := .slice uA' us'.length uC') rfl (fun w0 hw0 => by have q0 := (X2.out.below hw0).cell (i := 0) rfl; go_simp) ?_
  try simp only [Act.put, sA, s0, s1]
  refine mvR 4 rfl (fun KK hKK => ?_)
  go_simp
  (with_reducible refine (HU.out _ RB0.out).mono ?_)
  rintro e1 y1 ⟨rfl, hb⟩
  have RB1 := hid (RB0.out.trans (hb.mono RB0.out.size))
  clear hb
  refine hKK.out _ _ (RB1.out) (fun hH1 => ?_)
  clear hKK KK
  try simp only [Act.put, sA, s0, s1]
  refine mvA 5 (v := ?hv28) rfl ?hy28 ?hr28
  case hy28 => (intro w hSw; (try dsimp only at hSw); go_simp; (try with_reducible rfl))
  try simp only [Act.put, sA, s0, s1]
  refine mvA 6 (v := ?hv29) rfl ?hy29 ?hr29
  case hy29 => (intro w hSw; (try dsimp only at hSw); go_simp; (try with_reducible rfl))
  try simp only [Act.put, sA, s0, s1]
  refine mvA 7 (v := .slice kA ks.length kC) rfl (fun w0 hw0 => by have q0 := (X1.out.below hw0).cell (i := 1) rfl; go_simp) ?_
  try simp only [Act.put, sA, s0, s1]
  refine mvA 8 (v := ?hv30) rfl ?hy30 ?hr30
  case hy30 => (intro w hSw; (try dsimp only at hSw); go_simp; (try with_reducible rfl))
  try simp only [Act.put, sA, s0, s1]
  refine mvA 9 (v := .slice kA' ks'.length kC') rfl (fun w0 hw0 => by have q0 := (X2.out.below hw0).cell (i := 1) rfl; go_simp) ?_
  try simp only [Act.put, sA, s0, s1]
  refine mvR 10 rfl (fun KK hKK => ?_)
  go_simp
  (with_reducible refine (HK.out _ RB1.out).mono ?_)
  rintro e2 y2 ⟨rfl, hb⟩
  have RB2 := hid (RB1.out.trans (hb.mono RB1.out.size))
  clear hb
  refine hKK.out _ _ (RB2.out) (fun hH2 => ?_)
  clear hKK KK
  try simp only [Act.put, sA, s0, s1]
  refine mvA 11 (v := ?hv31) rfl ?hy31 ?hr31
  case hy31 => (intro w hSw; (try dsimp only at hSw); go_simp; (try with_reducible rfl))
  try simp only [Act.put, sA, s0, s1]
  refine mvA 12 (v := ?hv32) rfl ?hy32 ?hr32
  case hy32 => (intro w hSw; (try dsimp only at hSw); go_simp; (try with_reducible rfl))
  try simp only [Act.put, sA, s0, s1]
  refine mvY 13 (v := .agg #[.slice uA us.length uC, .slice kA ks.length kC, .int .i64 d, .int .i64 x3, .int .i64 x4, .int .i64 x5, .int .i64 x6, .int .i64 x7, .int .i64 x8]) rfl (yieldsIf_load_mid (by rfl) 28 _ rfl w.heap.size 0 rfl [.slice uA us.length uC, .slice kA ks.length kC, .int .i64 d, .int .i64 x3, .int .i64 x4, .int .i64 x5, .int .i64 x6, .int .i64 x7, .int .i64 x8] _ (fun w0 hw0 => (X1.out.below hw0).range) Tryz.underlying28 rfl size27) ?_
  try simp only [Act.put, sA, s0, s1]
  refine mvY 15 (v := .agg #[.slice uA' us'.length uC', .slice kA' ks'.length kC', .int .i64 d', .int .i64 x3', .int .i64 x4', .int .i64 x5', .int .i64 x6', .int .i64 x7', .int .i64 x8']) rfl (yieldsIf_load_mid (by rfl) 28 _ rfl (w.heap.size + 1) 0 rfl [.slice uA' us'.length uC', .slice kA' ks'.length kC', .int .i64 d', .int .i64 x3', .int .i64 x4', .int .i64 x5', .int .i64 x6', .int .i64 x7', .int .i64 x8'] _ (fun w0 hw0 => (X2.out.below hw0).range) Tryz.underlying28 rfl size27) ?_
  try simp only [Act.put, sA, s0, s1]
  refine mvR 14 rfl (fun KK hKK => ?_)
  go_simp
  (with_reducible refine (HN1.out _).mono ?_)
  rintro e3 y3 ⟨rfl, hb⟩
  have RB3 := hid (RB2.out.trans (hb.mono RB2.out.size))
  clear hb
  refine hKK.out _ _ (RB3.out) (fun hH3 => ?_)
  clear hKK KK
  try simp only [Act.put, sA, s0, s1]
  refine mvR 16 rfl (fun KK hKK => ?_)
  go_simp
  (with_reducible refine (HN2.out _).mono ?_)
  rintro e4 y4 ⟨rfl, hb⟩
  have RB4 := hid (RB3.out.trans (hb.mono RB3.out.size))
  clear hb
  refine hKK.out _ _ (RB4.out) (fun hH4 => ?_)
  clear hKK KK
  try simp only [Act.put, sA, s0, s1]
  refine mvA 17 (v := .bool true) rfl (fun w0 hw0 => by have q0 : (Op.equalIn 10000 163 (.agg #[.int .i64 d, .int .i64 x3, .int .i64 x4, .int .i64 x5, .int .i64 x6, .int .i64 x7, .int .i64 x8]) (.agg #[.int .i64 d', .int .i64 x3', .int .i64 x4', .int .i64 x5', .int .i64 x6', .int .i64 x7', .int .i64 x8'])).run Tryz.prog w0 = .ok true w0 := HEq.out w0; go_simp) ?_
  try simp only [Act.put, sA, s0, s1]
  refine mvA 18 (v := ?hv33) rfl ?hy33 ?hr33
  case hy33 => (intro w hSw; (try dsimp only at hSw); go_simp; (try with_reducible rfl))
  try simp only [Act.put, sA, s0, s1]
  refine mvA 19 (v := ?hv34) rfl ?hy34 ?hr34
  case hy34 => (intro w hSw; (try dsimp only at hSw); go_simp; (try with_reducible rfl))
  try simp only [Act.put, sA, s0, s1]
  refine wpAnyH_done (by kernel_rfl) ?_ _
  go_wp2
  go_ret
  exact ⟨ret_b HE.out, BA.out.trans (RB4.out.mono BA.out.size)⟩
end Go.Proofs.YtablocpcgknmaaaGreatDoor
