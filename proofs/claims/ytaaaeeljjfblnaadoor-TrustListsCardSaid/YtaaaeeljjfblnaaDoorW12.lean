/- The walk of TrustLists. Condition: the listed table. -/
import Derived.Test.YtaaaeeljjfblnaaDoorW11
namespace Go.Proofs.YtaaaeeljjfblnaaDoor
open Go.RowKit
set_option linter.unusedVariables false
set_option linter.unusedSimpArgs false
set_option maxRecDepth 100000

/-- Keys of which only the master is set. -/
def km (m : Int) : Ks := ⟨⟨#[]⟩, m, 0, none, 0, 0, DS⟩
theorem chg_zero (b : Ks) (w : World) : Calls Tryd.prog 16 #[.agg zK.toArray, .agg (cellsK b).toArray] w fun e w' => e = .returned (.bool false) ∧ Below w.heap.size w w' := changed16 (km 0) b w
theorem same_call (A B : Option Addr) (n c d : Nat) (l : List Int) (w : World) (h1 : Q.Ints w A n c l) (h2 : Q.Ints w B n d l) : Calls Tryd.prog 11 #[.slice A n c, .slice B n d] w fun e w' => e = .returned (.bool true) ∧ Below w.heap.size w w' := by
  have := Q.same_any A n c l B n d l w h1 h2
  rw [decide_eq_true (rfl : l = l)] at this
  exact this
theorem bel14 (A : Option Addr) (n c : Nat) (zs : List Int) (w : World) (h : Q.Ints w A n c zs) : Calls Tryd.prog 14 #[.slice A n c] w fun e w' => e = .returned (.int .i64 (shT zs)) ∧ Below w.heap.size w w' :=
  (shield14 A n c zs w h).mono fun e w' ⟨he, hb⟩ => ⟨he, by rw [← hb]; exact Below.refl _ _⟩
theorem bel15 (A : Option Addr) (n c : Nat) (zs : List Int) (w : World) (h : Q.Ints w A n c zs) : Calls Tryd.prog 15 #[.slice A n c] w fun e w' => e = .returned (.int .i64 (shT zs)) ∧ Below w.heap.size w w' :=
  (rshield15 A n c zs w h).mono fun e w' ⟨he, hb⟩ => ⟨he, by rw [← hb]; exact Below.refl _ _⟩
set_option maxHeartbeats 16000000 in
theorem lists4 (A T : Option Addr) (n c k d : Nat) (m : Int) (zs ts : List Int) (w : World) (hn : n ≤ 9223372036854775807) (hk : k ≤ 9223372036854775807) (h : n ≤ 1000 → Q.Ints w A n c zs) (ht : k ≤ 1000 → Q.Ints w T k d ts) (hT : An w) : Calls Tryd.prog 4 #[.slice A n c, .int .i64 m, .slice T k d] w fun e w' => e = .returned (.bool true) ∧ Below w.heap.size w w' := by
  have LV := Lib.hid (fun u (hu : Below w.heap.size w u) => lives_any u (hT.below hu))
  have H := Lib.hid h
  have HT := Lib.hid ht
  clear h ht hT
  by_cases g1 : 60 < n
  · have h1 : (60 : Int) < (n : Int) := by omega
    go_enter Tryd.func4, Tryd.ntmps4
    go_wp2_with (go_at_call 8; (with_reducible refine (LV.out _ (Below.refl _ _)).mono ?_); rintro e w1 ⟨rfl, hb⟩; have B1 := Lib.hid hb; clear hb)
    go_ret
    exact ⟨rfl, B1.out⟩
  have h1 : ¬ (60 : Int) < (n : Int) := by omega
  by_cases g2 : 60 < k
  · have h2 : (60 : Int) < (k : Int) := by omega
    go_enter Tryd.func4, Tryd.ntmps4
    go_wp2_with (go_at_call 8; (with_reducible refine (LV.out _ (Below.refl _ _)).mono ?_); rintro e w1 ⟨rfl, hb⟩; have B1 := Lib.hid hb; clear hb)
    go_ret
    exact ⟨rfl, B1.out⟩
  have h2 : ¬ (60 : Int) < (k : Int) := by omega
  go_enter Tryd.func4, Tryd.ntmps4
  go_upto_region 4 with (first
    | (refine store_mid_as rfl 24 _ _ rfl w.heap.size 0 (cellsK (km m)).toArray rfl rfl (Blk.there (n := 4) ((blk_new w zK 24).alloc (.cells zK.toArray 24)) (by decide)) size24 (by simp [Value.oneCell']) ?_; intro w2 e2; have P1 : Hid (Blk w2 w.heap.size (cellsK (km m)) 24) := Lib.hid (by rw [e2]; exact ((blk_new w zK 24).alloc _).setAll _ rfl); have Z2 : Hid (Blk w2 (w.heap.size + 1) zK 24) := Lib.hid (by rw [e2]; refine Blk.otherAll ?_ _ _ _ (by omega); have := blk_new (w.alloc (.cells zK.toArray 24)) zK 24; rwa [show (w.alloc (.cells zK.toArray 24)).heap.size = w.heap.size + 1 by simp] at this); have Q2 : Hid (Below w.heap.size w w2) := Lib.hid (by rw [e2]; exact below_setAll (Nat.le_refl _) _ _ _ (((Below.refl _ w).alloc (Nat.le_refl _) _).alloc (by simp) _)); clear e2)
    | (refine store_mid_as rfl 24 _ _ rfl (w.heap.size + 1) 0 (cellsK (km (n : Int))).toArray rfl rfl (Blk.there (n := 4) Z2.out (by decide)) size24 (by simp [Value.oneCell']) ?_; intro u e3; have P2 : Hid (Blk u (w.heap.size + 1) (cellsK (km (n : Int))) 24) := Lib.hid (by rw [e3]; exact Z2.out.setAll _ rfl); have P1 : Hid (Blk u w.heap.size (cellsK (km m)) 24) := Lib.hid (by rw [e3]; exact P1.out.otherAll _ _ _ (by omega)); have BU : Hid (Below w.heap.size w u) := Lib.hid (by rw [e3]; exact below_setAll (Nat.le_succ _) _ _ _ Q2.out); clear e3))
  have HI := Lib.hid ((H.out (by omega)).below BU.out)
  have HS := Lib.hid ((HT.out (by omega)).below BU.out)
  have CV := Lib.hid (fun y (hy : Below u.heap.size u y) => verify12 A n c zs m y (HI.out.below hy) (by omega))
  have CW := Lib.hid (fun y (hy : Below u.heap.size u y) => rverify13 A n c zs m y (HI.out.below hy) (by omega))
  have S14 := Lib.hid (fun y (hy : Below u.heap.size u y) => bel14 T k d ts y (HS.out.below hy))
  have S15 := Lib.hid (fun y (hy : Below u.heap.size u y) => bel15 T k d ts y (HS.out.below hy))
  have C16 := Lib.hid (fun y => changed16 (km m) (km (n : Int)) y)
  have C17 := Lib.hid (fun y => rchanged17 (km m) (km (n : Int)) y)
  clear H HT HI HS Q2 Z2
  generalize vf zs m = l at *
  generalize shT ts = r at *
  generalize chg (km m) (km (n : Int)) = b at *
  have e0 : (r == r) = true := beq_self_eq_true r
  have e1 : (b == b) = true := beq_self_eq_true b
  refine wp_region_held_drew (S := (fun w0 => Below u.heap.size u w0)) (by kernel_rfl) ((Below.refl _ _).drew) (fun hH0 => ?_)
  generalize u.drew = y0 at hH0 ⊢
  have RB0 : Hid (Below u.heap.size u y0) := Lib.hid hH0
  refine wpAnyH_take (i := 0) (oi := ({ dst := some 23, op := Op.move (Operand.tmp 0), type := 25, pos := "law.go:83", after := #[], guard := none } : Oper)) (v := ?hv1) rfl (by kernel_rfl) (by kernel_rfl) (by kernel_rfl) (fun _ _ _ h => h) (Or.inl ⟨by rfl, ?hy1⟩) (by assumption) ?hr1
  case hy1 => (intro w hSw; (try dsimp only at hSw); go_simp; (try with_reducible rfl))
  try simp only [Act.put, List.setIfInBounds_toArray, List.set_cons_zero, List.set_cons_succ]
  refine wpAnyH_take (i := 1) (oi := ({ dst := some 24, op := Op.move (Operand.tmp 1), type := 3, pos := "law.go:83", after := #[], guard := none } : Oper)) (v := ?hv2) rfl (by kernel_rfl) (by kernel_rfl) (by kernel_rfl) (fun _ _ _ h => h) (Or.inl ⟨by rfl, ?hy2⟩) (by assumption) ?hr2
  case hy2 => (intro w hSw; (try dsimp only at hSw); go_simp; (try with_reducible rfl))
  try simp only [Act.put, List.setIfInBounds_toArray, List.set_cons_zero, List.set_cons_succ]
  refine wpAnyH_take (i := 3) (oi := ({ dst := some 26, op := Op.move (Operand.tmp 0), type := 25, pos := "law.go:83", after := #[], guard := none } : Oper)) (v := ?hv3) rfl (by kernel_rfl) (by kernel_rfl) (by kernel_rfl) (fun _ _ _ h => h) (Or.inl ⟨by rfl, ?hy3⟩) (by assumption) ?hr3
  case hy3 => (intro w hSw; (try dsimp only at hSw); go_simp; (try with_reducible rfl))
  try simp only [Act.put, List.setIfInBounds_toArray, List.set_cons_zero, List.set_cons_succ]
  refine wpAnyH_take (i := 4) (oi := ({ dst := some 27, op := Op.move (Operand.tmp 1), type := 3, pos := "law.go:83", after := #[], guard := none } : Oper)) (v := ?hv4) rfl (by kernel_rfl) (by kernel_rfl) (by kernel_rfl) (fun _ _ _ h => h) (Or.inl ⟨by rfl, ?hy4⟩) (by assumption) ?hr4
  case hy4 => (intro w hSw; (try dsimp only at hSw); go_simp; (try with_reducible rfl))
  try simp only [Act.put, List.setIfInBounds_toArray, List.set_cons_zero, List.set_cons_succ]
  refine wpAnyH_ready (rs := [2]) (by kernel_rfl) (by simp) ?_
  refine AllReadyH.cons (o := ({ dst := some 25, op := Op.call { callee := Callee.value (Operand.func 12), args := #[Operand.tmp 23, Operand.tmp 24], argTypes := #[25, 3] }, type := 25, pos := "law.go:83", after := #[{ on := 0, ground := Ground.data }, { on := 1, ground := Ground.data }], guard := none } : Oper)) rfl (fun KK hKK => ?_) AllReadyH.nil
  go_simp
  (with_reducible refine (CV.out _ RB0.out).mono ?_)
  rintro e0 y1 ⟨A2, c2, rfl, hI, hb⟩
  have RB1 := Lib.hid (RB0.out.trans (hb.mono RB0.out.size))
  have I2 := Lib.hid hI
  clear hI
  clear hb
  refine hKK.out _ _ (RB1.out) (fun hH1 => ?_)
  clear hKK KK
  try simp only [Act.put, List.setIfInBounds_toArray, List.set_cons_zero, List.set_cons_succ]
  refine wpAnyH_ready (rs := [5]) (by kernel_rfl) (by simp) ?_
  refine AllReadyH.cons (o := ({ dst := some 28, op := Op.call { callee := Callee.value (Operand.func 13), args := #[Operand.tmp 26, Operand.tmp 27], argTypes := #[25, 3] }, type := 25, pos := "law.go:83", after := #[{ on := 3, ground := Ground.data }, { on := 4, ground := Ground.data }, { on := 2, ground := Ground.chain }], guard := none } : Oper)) rfl (fun KK hKK => ?_) AllReadyH.nil
  go_simp
  (with_reducible refine (CW.out _ RB1.out).mono ?_)
  rintro e0 y2 ⟨A5, c5, rfl, hI, hb⟩
  have RB2 := Lib.hid (RB1.out.trans (hb.mono RB1.out.size))
  have I5 := Lib.hid hI
  have I2 := Lib.hid (I2.out.below hb)
  clear hI
  clear hb
  refine hKK.out _ _ (RB2.out) (fun hH2 => ?_)
  clear hKK KK
  try simp only [Act.put, List.setIfInBounds_toArray, List.set_cons_zero, List.set_cons_succ]
  refine wpAnyH_ready (rs := [6]) (by kernel_rfl) (by simp) ?_
  refine AllReadyH.cons (o := ({ dst := some 29, op := Op.call { callee := Callee.value (Operand.func 11), args := #[Operand.tmp 25, Operand.tmp 28], argTypes := #[25, 25] }, type := 4, pos := "law.go:83", after := #[{ on := 2, ground := Ground.data }, { on := 5, ground := Ground.data }, { on := 5, ground := Ground.chain }], guard := none } : Oper)) rfl (fun KK hKK => ?_) AllReadyH.nil
  go_simp
  (with_reducible refine (same_call A2 A5 l.length c2 c5 l _ I2.out I5.out).mono ?_)
  rintro e0 y3 ⟨rfl, hb⟩
  have RB3 := Lib.hid (RB2.out.trans (hb.mono RB2.out.size))
  clear hb
  refine hKK.out _ _ (RB3.out) (fun hH3 => ?_)
  clear hKK KK
  try simp only [Act.put, List.setIfInBounds_toArray, List.set_cons_zero, List.set_cons_succ]
  refine wpAnyH_take (i := 7) (oi := ({ dst := some 30, op := Op.move (Operand.tmp 29), type := 4, pos := "law.go:83", after := #[{ on := 6, ground := Ground.data }, { on := 6, ground := Ground.chain }], guard := none } : Oper)) (v := ?hv5) rfl (by kernel_rfl) (by kernel_rfl) (by kernel_rfl) (fun _ _ _ h => h) (Or.inl ⟨by rfl, ?hy5⟩) (by assumption) ?hr5
  case hy5 => (intro w hSw; (try dsimp only at hSw); go_simp; (try with_reducible rfl))
  try simp only [Act.put, List.setIfInBounds_toArray, List.set_cons_zero, List.set_cons_succ]
  refine wpAnyH_take (i := 8) (oi := ({ dst := some 31, op := Op.move (Operand.tmp 2), type := 34, pos := "law.go:83", after := #[{ on := 7, ground := Ground.guard }], guard := some (7, true) } : Oper)) (v := ?hv6) rfl (by kernel_rfl) (by kernel_rfl) (by kernel_rfl) (fun _ _ _ h => h) (Or.inl ⟨by rfl, ?hy6⟩) (by assumption) ?hr6
  case hy6 => (intro w hSw; (try dsimp only at hSw); go_simp; (try with_reducible rfl))
  try simp only [Act.put, List.setIfInBounds_toArray, List.set_cons_zero, List.set_cons_succ]
  refine wpAnyH_take (i := 10) (oi := ({ dst := some 33, op := Op.move (Operand.tmp 2), type := 34, pos := "law.go:83", after := #[{ on := 7, ground := Ground.guard }], guard := some (7, true) } : Oper)) (v := ?hv7) rfl (by kernel_rfl) (by kernel_rfl) (by kernel_rfl) (fun _ _ _ h => h) (Or.inl ⟨by rfl, ?hy7⟩) (by assumption) ?hr7
  case hy7 => (intro w hSw; (try dsimp only at hSw); go_simp; (try with_reducible rfl))
  try simp only [Act.put, List.setIfInBounds_toArray, List.set_cons_zero, List.set_cons_succ]
  refine wpAnyH_ready (rs := [9]) (by kernel_rfl) (by simp) ?_
  refine AllReadyH.cons (o := ({ dst := some 32, op := Op.call { callee := Callee.value (Operand.func 14), args := #[Operand.tmp 31], argTypes := #[34] }, type := 31, pos := "law.go:83", after := #[{ on := 8, ground := Ground.data }, { on := 7, ground := Ground.chain }, { on := 7, ground := Ground.guard }], guard := some (7, true) } : Oper)) rfl (fun KK hKK => ?_) AllReadyH.nil
  go_simp
  (with_reducible refine (S14.out _ RB3.out).mono ?_)
  rintro e0 y4 ⟨rfl, hb⟩
  have RB4 := Lib.hid (RB3.out.trans (hb.mono RB3.out.size))
  clear hb
  refine hKK.out _ _ (RB4.out) (fun hH4 => ?_)
  clear hKK KK
  try simp only [Act.put, List.setIfInBounds_toArray, List.set_cons_zero, List.set_cons_succ]
  refine wpAnyH_ready (rs := [11]) (by kernel_rfl) (by simp) ?_
  refine AllReadyH.cons (o := ({ dst := some 34, op := Op.call { callee := Callee.value (Operand.func 15), args := #[Operand.tmp 33], argTypes := #[34] }, type := 31, pos := "law.go:83", after := #[{ on := 10, ground := Ground.data }, { on := 9, ground := Ground.chain }, { on := 7, ground := Ground.guard }], guard := some (7, true) } : Oper)) rfl (fun KK hKK => ?_) AllReadyH.nil
  go_simp
  (with_reducible refine (S15.out _ RB4.out).mono ?_)
  rintro e0 y5 ⟨rfl, hb⟩
  have RB5 := Lib.hid (RB4.out.trans (hb.mono RB4.out.size))
  clear hb
  refine hKK.out _ _ (RB5.out) (fun hH5 => ?_)
  clear hKK KK
  try simp only [Act.put, List.setIfInBounds_toArray, List.set_cons_zero, List.set_cons_succ]
  refine wpAnyH_take (i := 12) (oi := ({ dst := some 35, op := Op.binOp BinOp.eql 31 (Operand.tmp 32) (Operand.tmp 34) 31, type := 4, pos := "law.go:83", after := #[{ on := 9, ground := Ground.data }, { on := 11, ground := Ground.data }, { on := 7, ground := Ground.guard }], guard := some (7, true) } : Oper)) (v := ?hv8) rfl (by kernel_rfl) (by kernel_rfl) (by kernel_rfl) (fun _ _ _ h => h) (Or.inl ⟨by rfl, ?hy8⟩) (by assumption) ?hr8
  case hy8 => (intro w hSw; (try dsimp only at hSw); go_simp; (try with_reducible rfl))
  try simp only [Act.put, List.setIfInBounds_toArray, List.set_cons_zero, List.set_cons_succ]
  refine wpAnyH_take (i := 13) (oi := ({ dst := some 36, op := Op.pick (Operand.tmp 30) (Operand.tmp 35) (Operand.const (Value.bool false)), type := 4, pos := "law.go:83", after := #[{ on := 7, ground := Ground.data }, { on := 12, ground := Ground.data }], guard := none } : Oper)) (v := ?hv9) rfl (by kernel_rfl) (by kernel_rfl) (by kernel_rfl) (fun _ _ _ h => h) (Or.inl ⟨by rfl, ?hy9⟩) (by assumption) ?hr9
  case hy9 => (intro w hSw; (try dsimp only at hSw); go_simp; (try with_reducible rfl))
  try simp only [Act.put, List.setIfInBounds_toArray, List.set_cons_zero, List.set_cons_succ]
  refine wpAnyH_take (i := 14) (oi := ({ dst := some 37, op := Op.move (Operand.tmp 36), type := 4, pos := "law.go:83", after := #[{ on := 13, ground := Ground.data }, { on := 11, ground := Ground.chain }], guard := none } : Oper)) (v := ?hv10) rfl (by kernel_rfl) (by kernel_rfl) (by kernel_rfl) (fun _ _ _ h => h) (Or.inl ⟨by rfl, ?hy10⟩) (by assumption) ?hr10
  case hy10 => (intro w hSw; (try dsimp only at hSw); go_simp; (try with_reducible rfl))
  try simp only [Act.put, List.setIfInBounds_toArray, List.set_cons_zero, List.set_cons_succ]
  refine wpAnyH_take (i := 15) (oi := ({ dst := some 38, op := Op.load 24 (Operand.tmp 7), type := 24, pos := "law.go:83", after := #[{ on := 14, ground := Ground.guard }], guard := some (14, true) } : Oper)) (v := .agg (cellsK (km m)).toArray) rfl (by kernel_rfl) (by kernel_rfl) (by kernel_rfl) (fun _ _ _ h => h) (yieldsIf_load_mid (by rfl) 24 _ rfl w.heap.size 0 rfl (cellsK (km m)) _ (fun w0 hw0 => (P1.out.below hw0).range) Tryd.underlying24 rfl size24) (by assumption) ?_
  try simp only [Act.put, List.setIfInBounds_toArray, List.set_cons_zero, List.set_cons_succ]
  refine wpAnyH_take (i := 16) (oi := ({ dst := some 39, op := Op.load 24 (Operand.tmp 8), type := 24, pos := "law.go:83", after := #[{ on := 14, ground := Ground.guard }], guard := some (14, true) } : Oper)) (v := .agg (cellsK (km (n : Int))).toArray) rfl (by kernel_rfl) (by kernel_rfl) (by kernel_rfl) (fun _ _ _ h => h) (yieldsIf_load_mid (by rfl) 24 _ rfl (w.heap.size + 1) 0 rfl (cellsK (km (n : Int))) _ (fun w0 hw0 => (P2.out.below hw0).range) Tryd.underlying24 rfl size24) (by assumption) ?_
  try simp only [Act.put, List.setIfInBounds_toArray, List.set_cons_zero, List.set_cons_succ]
  refine wpAnyH_take (i := 18) (oi := ({ dst := some 41, op := Op.load 24 (Operand.tmp 7), type := 24, pos := "law.go:83", after := #[{ on := 14, ground := Ground.guard }], guard := some (14, true) } : Oper)) (v := .agg (cellsK (km m)).toArray) rfl (by kernel_rfl) (by kernel_rfl) (by kernel_rfl) (fun _ _ _ h => h) (yieldsIf_load_mid (by rfl) 24 _ rfl w.heap.size 0 rfl (cellsK (km m)) _ (fun w0 hw0 => (P1.out.below hw0).range) Tryd.underlying24 rfl size24) (by assumption) ?_
  try simp only [Act.put, List.setIfInBounds_toArray, List.set_cons_zero, List.set_cons_succ]
  refine wpAnyH_take (i := 19) (oi := ({ dst := some 42, op := Op.load 24 (Operand.tmp 8), type := 24, pos := "law.go:83", after := #[{ on := 14, ground := Ground.guard }], guard := some (14, true) } : Oper)) (v := .agg (cellsK (km (n : Int))).toArray) rfl (by kernel_rfl) (by kernel_rfl) (by kernel_rfl) (fun _ _ _ h => h) (yieldsIf_load_mid (by rfl) 24 _ rfl (w.heap.size + 1) 0 rfl (cellsK (km (n : Int))) _ (fun w0 hw0 => (P2.out.below hw0).range) Tryd.underlying24 rfl size24) (by assumption) ?_
  try simp only [Act.put, List.setIfInBounds_toArray, List.set_cons_zero, List.set_cons_succ]
  refine wpAnyH_ready (rs := [17]) (by kernel_rfl) (by simp) ?_
  refine AllReadyH.cons (o := ({ dst := some 40, op := Op.call { callee := Callee.value (Operand.func 16), args := #[Operand.tmp 38, Operand.tmp 39], argTypes := #[24, 24] }, type := 4, pos := "law.go:83", after := #[{ on := 15, ground := Ground.data }, { on := 16, ground := Ground.data }, { on := 14, ground := Ground.chain }, { on := 14, ground := Ground.guard }], guard := some (14, true) } : Oper)) rfl (fun KK hKK => ?_) AllReadyH.nil
  go_simp
  (with_reducible refine (C16.out _).mono ?_)
  rintro e0 y6 ⟨rfl, hb⟩
  have RB6 := Lib.hid (RB5.out.trans (hb.mono RB5.out.size))
  clear hb
  refine hKK.out _ _ (RB6.out) (fun hH6 => ?_)
  clear hKK KK
  try simp only [Act.put, List.setIfInBounds_toArray, List.set_cons_zero, List.set_cons_succ]
  refine wpAnyH_ready (rs := [20]) (by kernel_rfl) (by simp) ?_
  refine AllReadyH.cons (o := ({ dst := some 43, op := Op.call { callee := Callee.value (Operand.func 17), args := #[Operand.tmp 41, Operand.tmp 42], argTypes := #[24, 24] }, type := 4, pos := "law.go:83", after := #[{ on := 18, ground := Ground.data }, { on := 19, ground := Ground.data }, { on := 17, ground := Ground.chain }, { on := 14, ground := Ground.guard }], guard := some (14, true) } : Oper)) rfl (fun KK hKK => ?_) AllReadyH.nil
  go_simp
  (with_reducible refine (C17.out _).mono ?_)
  rintro e0 y7 ⟨rfl, hb⟩
  have RB7 := Lib.hid (RB6.out.trans (hb.mono RB6.out.size))
  clear hb
  refine hKK.out _ _ (RB7.out) (fun hH7 => ?_)
  clear hKK KK
  try simp only [Act.put, List.setIfInBounds_toArray, List.set_cons_zero, List.set_cons_succ]
  refine wpAnyH_take (i := 21) (oi := ({ dst := some 44, op := Op.binOp BinOp.eql 4 (Operand.tmp 40) (Operand.tmp 43) 4, type := 4, pos := "law.go:83", after := #[{ on := 17, ground := Ground.data }, { on := 20, ground := Ground.data }, { on := 14, ground := Ground.guard }], guard := some (14, true) } : Oper)) (v := ?hv11) rfl (by kernel_rfl) (by kernel_rfl) (by kernel_rfl) (fun _ _ _ h => h) (Or.inl ⟨by rfl, ?hy11⟩) (by assumption) ?hr11
  case hy11 => (intro w hSw; (try dsimp only at hSw); go_simp; (try with_reducible rfl))
  try simp only [Act.put, List.setIfInBounds_toArray, List.set_cons_zero, List.set_cons_succ]
  refine wpAnyH_take (i := 22) (oi := ({ dst := some 45, op := Op.pick (Operand.tmp 37) (Operand.tmp 44) (Operand.const (Value.bool false)), type := 4, pos := "law.go:83", after := #[{ on := 14, ground := Ground.data }, { on := 21, ground := Ground.data }], guard := none } : Oper)) (v := ?hv12) rfl (by kernel_rfl) (by kernel_rfl) (by kernel_rfl) (fun _ _ _ h => h) (Or.inl ⟨by rfl, ?hy12⟩) (by assumption) ?hr12
  case hy12 => (intro w hSw; (try dsimp only at hSw); go_simp; (try with_reducible rfl))
  try simp only [Act.put, List.setIfInBounds_toArray, List.set_cons_zero, List.set_cons_succ]
  refine wpAnyH_take (i := 23) (oi := ({ dst := some 46, op := Op.move (Operand.tmp 45), type := 4, pos := "law.go:83", after := #[{ on := 22, ground := Ground.data }, { on := 20, ground := Ground.chain }], guard := none } : Oper)) (v := ?hv13) rfl (by kernel_rfl) (by kernel_rfl) (by kernel_rfl) (fun _ _ _ h => h) (Or.inl ⟨by rfl, ?hy13⟩) (by assumption) ?hr13
  case hy13 => (intro w hSw; (try dsimp only at hSw); go_simp; (try with_reducible rfl))
  try simp only [Act.put, List.setIfInBounds_toArray, List.set_cons_zero, List.set_cons_succ]
  refine wpAnyH_take (i := 24) (oi := ({ dst := some 47, op := Op.build 24 #[], type := 24, pos := "law.go:83", after := #[{ on := 23, ground := Ground.guard }], guard := some (23, true) } : Oper)) (v := ?hv14) rfl (by kernel_rfl) (by kernel_rfl) (by kernel_rfl) (fun _ _ _ h => h) (Or.inl ⟨by rfl, ?hy14⟩) (by assumption) ?hr14
  case hy14 => (intro w hSw; (try dsimp only at hSw); go_simp; (try with_reducible rfl))
  try simp only [Act.put, List.setIfInBounds_toArray, List.set_cons_zero, List.set_cons_succ]
  refine wpAnyH_take (i := 25) (oi := ({ dst := some 48, op := Op.load 24 (Operand.tmp 7), type := 24, pos := "law.go:83", after := #[{ on := 23, ground := Ground.guard }], guard := some (23, true) } : Oper)) (v := .agg (cellsK (km m)).toArray) rfl (by kernel_rfl) (by kernel_rfl) (by kernel_rfl) (fun _ _ _ h => h) (yieldsIf_load_mid (by rfl) 24 _ rfl w.heap.size 0 rfl (cellsK (km m)) _ (fun w0 hw0 => (P1.out.below hw0).range) Tryd.underlying24 rfl size24) (by assumption) ?_
  try simp only [Act.put, List.setIfInBounds_toArray, List.set_cons_zero, List.set_cons_succ]
  refine wpAnyH_ready (rs := [26]) (by kernel_rfl) (by simp) ?_
  refine AllReadyH.cons (o := ({ dst := some 49, op := Op.call { callee := Callee.value (Operand.func 16), args := #[Operand.tmp 47, Operand.tmp 48], argTypes := #[24, 24] }, type := 4, pos := "law.go:83", after := #[{ on := 24, ground := Ground.data }, { on := 25, ground := Ground.data }, { on := 23, ground := Ground.chain }, { on := 23, ground := Ground.guard }], guard := some (23, true) } : Oper)) rfl (fun KK hKK => ?_) AllReadyH.nil
  go_simp
  (with_reducible refine (chg_zero _ _).mono ?_)
  rintro e0 y8 ⟨rfl, hb⟩
  have RB8 := Lib.hid (RB7.out.trans (hb.mono RB7.out.size))
  clear hb
  refine hKK.out _ _ (RB8.out) (fun hH8 => ?_)
  clear hKK KK
  try simp only [Act.put, List.setIfInBounds_toArray, List.set_cons_zero, List.set_cons_succ]
  refine wpAnyH_take (i := 27) (oi := ({ dst := some 50, op := Op.unOp UnOp.not 4 (Operand.tmp 49), type := 4, pos := "law.go:83", after := #[{ on := 26, ground := Ground.data }, { on := 23, ground := Ground.guard }], guard := some (23, true) } : Oper)) (v := ?hv15) rfl (by kernel_rfl) (by kernel_rfl) (by kernel_rfl) (fun _ _ _ h => h) (Or.inl ⟨by rfl, ?hy15⟩) (by assumption) ?hr15
  case hy15 => (intro w hSw; (try dsimp only at hSw); go_simp; (try with_reducible rfl))
  try simp only [Act.put, List.setIfInBounds_toArray, List.set_cons_zero, List.set_cons_succ]
  refine wpAnyH_take (i := 28) (oi := ({ dst := some 51, op := Op.pick (Operand.tmp 46) (Operand.tmp 50) (Operand.const (Value.bool false)), type := 4, pos := "law.go:83", after := #[{ on := 23, ground := Ground.data }, { on := 27, ground := Ground.data }], guard := none } : Oper)) (v := ?hv16) rfl (by kernel_rfl) (by kernel_rfl) (by kernel_rfl) (fun _ _ _ h => h) (Or.inl ⟨by rfl, ?hy16⟩) (by assumption) ?hr16
  case hy16 => (intro w hSw; (try dsimp only at hSw); go_simp; (try with_reducible rfl))
  try simp only [Act.put, List.setIfInBounds_toArray, List.set_cons_zero, List.set_cons_succ]
  refine wpAnyH_take (i := 29) (oi := ({ dst := some 52, op := Op.move (Operand.tmp 51), type := 4, pos := "law.go:83", after := #[{ on := 28, ground := Ground.data }, { on := 26, ground := Ground.chain }], guard := none } : Oper)) (v := ?hv17) rfl (by kernel_rfl) (by kernel_rfl) (by kernel_rfl) (fun _ _ _ h => h) (Or.inl ⟨by rfl, ?hy17⟩) (by assumption) ?hr17
  case hy17 => (intro w hSw; (try dsimp only at hSw); go_simp; (try with_reducible rfl))
  try simp only [Act.put, List.setIfInBounds_toArray, List.set_cons_zero, List.set_cons_succ]
  refine wpAnyH_ready (rs := [30]) (by kernel_rfl) (by simp) ?_
  refine AllReadyH.cons (o := ({ dst := some 53, op := Op.call { callee := Callee.value (Operand.func 8), args := #[], argTypes := #[] }, type := 4, pos := "law.go:83", after := #[{ on := 29, ground := Ground.chain }, { on := 29, ground := Ground.guard }], guard := some (29, true) } : Oper)) rfl (fun KK hKK => ?_) AllReadyH.nil
  go_simp
  (with_reducible refine (LV.out _ (BU.out.trans (RB8.out.mono BU.out.size))).mono ?_)
  rintro e0 y9 ⟨rfl, hb⟩
  have RB9 := Lib.hid (RB8.out.trans (hb.mono RB8.out.size))
  clear hb
  refine hKK.out _ _ (RB9.out) (fun hH9 => ?_)
  clear hKK KK
  try simp only [Act.put, List.setIfInBounds_toArray, List.set_cons_zero, List.set_cons_succ]
  refine wpAnyH_take (i := 31) (oi := ({ dst := some 54, op := Op.pick (Operand.tmp 52) (Operand.tmp 53) (Operand.const (Value.bool false)), type := 4, pos := "law.go:83", after := #[{ on := 29, ground := Ground.data }, { on := 30, ground := Ground.data }], guard := none } : Oper)) (v := ?hv18) rfl (by kernel_rfl) (by kernel_rfl) (by kernel_rfl) (fun _ _ _ h => h) (Or.inl ⟨by rfl, ?hy18⟩) (by assumption) ?hr18
  case hy18 => (intro w hSw; (try dsimp only at hSw); go_simp; (try with_reducible rfl))
  try simp only [Act.put, List.setIfInBounds_toArray, List.set_cons_zero, List.set_cons_succ]
  refine wpAnyH_take (i := 32) (oi := ({ dst := some 6, op := Op.assign (Operand.tmp 54), type := 4, pos := "law.go:83", after := #[{ on := 31, ground := Ground.data }, { on := 30, ground := Ground.chain }, { on := 0, ground := Ground.phase }, { on := 1, ground := Ground.phase }, { on := 2, ground := Ground.phase }, { on := 3, ground := Ground.phase }, { on := 4, ground := Ground.phase }, { on := 5, ground := Ground.phase }, { on := 6, ground := Ground.phase }, { on := 7, ground := Ground.phase }, { on := 8, ground := Ground.phase }, { on := 9, ground := Ground.phase }, { on := 10, ground := Ground.phase }, { on := 11, ground := Ground.phase }, { on := 12, ground := Ground.phase }, { on := 13, ground := Ground.phase }, { on := 14, ground := Ground.phase }, { on := 15, ground := Ground.phase }, { on := 16, ground := Ground.phase }, { on := 17, ground := Ground.phase }, { on := 18, ground := Ground.phase }, { on := 19, ground := Ground.phase }, { on := 20, ground := Ground.phase }, { on := 21, ground := Ground.phase }, { on := 22, ground := Ground.phase }, { on := 23, ground := Ground.phase }, { on := 24, ground := Ground.phase }, { on := 25, ground := Ground.phase }, { on := 26, ground := Ground.phase }, { on := 27, ground := Ground.phase }, { on := 28, ground := Ground.phase }, { on := 29, ground := Ground.phase }, { on := 30, ground := Ground.phase }, { on := 31, ground := Ground.phase }], guard := none } : Oper)) (v := ?hv19) rfl (by kernel_rfl) (by kernel_rfl) (by kernel_rfl) (fun _ _ _ h => h) (Or.inl ⟨by rfl, ?hy19⟩) (by assumption) ?hr19
  case hy19 => (intro w hSw; (try dsimp only at hSw); go_simp; (try with_reducible rfl))
  try simp only [Act.put, List.setIfInBounds_toArray, List.set_cons_zero, List.set_cons_succ]
  refine wpAnyH_done (by kernel_rfl) ?_ _
  go_wp2
  go_ret
  exact ⟨rfl, BU.out.trans (RB9.out.mono BU.out.size)⟩
end Go.Proofs.YtaaaeeljjfblnaaDoor
