/- The reference's check that a kind does not have what it does not use. No condition. -/
import Derived.Test.YtablocpcgknmaaaGreatDoorQPh
import Derived.Test.YtablocpcgknmaaaGreatDoorQK12
namespace Go.Proofs.YtablocpcgknmaaaGreatDoor
open Go.Lib (hid)
open Go Go.RowKit
set_option linter.unusedVariables false
set_option linter.unusedSimpArgs false
set_option maxRecDepth 100000

/-- `z || f(..)` inside a longer expression: both ways joined. -/
theorem or_join {P : Program} {ops : Array Oper} {rest : List Oper} {o1 o2 o3 : Oper} {a : Act} {w : World} {Q : Exit → Act → World → Prop} (f : FuncId) (args : Array Value) (z u s : Bool) (hs : (z || u) = s) (v1 : Value)
  (hw1 : Region.wanted o1 (yielded ops a.tmps) = !z)
  (hr1 : ∀ w : World, (execOp a.eval o1).run P w = .ok (.value v1) w)
  (hw2 : ∀ x, Region.wanted o2 (yielded ops (a.put o1.dst x).tmps) = !z)
  (hr2 : ∀ w : World, (execOp (a.put o1.dst v1).eval o2).run P w = .ok (.enter f args) w)
  (hw3 : ∀ x y, Region.wanted o3 (yielded ops ((a.put o1.dst x).put o2.dst y).tmps) = true)
  (hr3t : z = true → ∀ x y (w : World), (execOp ((a.put o1.dst x).put o2.dst y).eval o3).run P w = .ok (.value (.bool true)) w)
  (hr3f : z = false → ∀ x b (w : World), (execOp ((a.put o1.dst x).put o2.dst (.bool b)).eval o3).run P w = .ok (.value (.bool b)) w)
  (hc : Calls P f args w fun e w' => e = .returned (.bool u) ∧ Below w.heap.size w w')
  (H : ∀ x y w', Below w.heap.size w w' → wpList P ops Q rest (((a.put o1.dst x).put o2.dst y).put o3.dst (.bool s)) w') :
  wpList P ops Q (o1 :: o2 :: o3 :: rest) a w := by
 subst hs
 cases z with
 | false =>
  refine wpList_step fun K hK => ?_
  rw [if_pos (by rw [hw1]; rfl)]
  unfold Oper.wp
  rw [hr1, Oper.upon_value]
  refine hK _ _ (wpList_step fun K2 hK2 => ?_)
  rw [if_pos (by rw [hw2]; rfl)]
  unfold Oper.wp
  rw [hr2, Oper.upon_enter]
  refine hc.mono fun e w' hh => ?_
  obtain ⟨rfl, hb⟩ := hh
  refine hK2 _ _ (wpList_step fun K3 hK3 => ?_)
  rw [if_pos (hw3 _ _)]
  unfold Oper.wp
  rw [hr3f rfl, Oper.upon_value]
  exact hK3 _ _ (H _ _ _ hb)
 | true =>
  refine wpList_step fun K hK => ?_
  rw [if_neg (by rw [hw1]; simp)]
  refine hK _ _ (wpList_step fun K2 hK2 => ?_)
  rw [if_neg (by rw [hw2]; simp)]
  refine hK2 _ _ (wpList_step fun K3 hK3 => ?_)
  rw [if_pos (hw3 _ _)]
  unfold Oper.wp
  rw [hr3t rfl, Oper.upon_value]
  exact hK3 _ _ (H _ _ _ (Below.refl _ _))
theorem st_val {P : Program} {ops : Array Oper} {rest : List Oper} {o : Oper} {a : Act} {w : World} {Q : Exit → Act → World → Prop} {v : Value} (hw : Region.wanted o (yielded ops a.tmps) = true)
  (hr : (execOp a.eval o).run P w = .ok (.value v) w) (H : wpList P ops Q rest (a.put o.dst v) w) : wpList P ops Q (o :: rest) a w := by
 refine wpList_step fun K hK => ?_
 rw [if_pos hw]
 unfold Oper.wp
 rw [hr, Oper.upon_value]
 exact hK _ _ H
theorem st_call {P : Program} {ops : Array Oper} {rest : List Oper} {o : Oper} {a : Act} {w : World} {Q : Exit → Act → World → Prop} (f : FuncId) (args : Array Value) (hw : Region.wanted o (yielded ops a.tmps) = true)
  (hr : ∀ w, (execOp a.eval o).run P w = .ok (.enter f args) w) (H : Calls P f args w fun e w' => ∃ v, e = .returned v ∧ wpList P ops Q rest (a.put o.dst v) w') : wpList P ops Q (o :: rest) a w := by
 refine wpList_step fun K hK => ?_
 rw [if_pos hw]
 unfold Oper.wp
 rw [hr, Oper.upon_enter]
 refine H.mono fun e w' hh => ?_
 obtain ⟨v, rfl, h⟩ := hh
 exact hK _ _ h
theorem uses_q (k : Int) (f : ByteArray) (u : Bool) (hu : hasF (unL k) f = u) (w : World) : Calls Tryz.prog 174 #[.int .i64 k, .string f] w fun e w' => e = .returned (.bool u) ∧ Below w.heap.size w w' := by
 have := ruses109 k f w
 rwa [hu] at this
theorem zero_isL (w : World) : IsL w ⟨[], [], 0, 0, 0, 0, 0, 0, 0⟩ none 0 none 0 :=
 ⟨Rws.zero _ _ _ _ _ (fun _ => rfl), Rws.zero _ _ _ _ _ (fun _ => rfl), (fun p hp => by cases hp), (fun p hp => by cases hp), by unfold i64B; decide⟩
set_option maxHeartbeats 4000000 in
theorem plain110 (us : List (ByteArray × Int)) (ks : List (Int × Int)) (d x3 x4 x5 x6 x7 x8 : Int) (uA : Option Addr) (uC : Nat) (kA : Option Addr) (kC : Nat) (z : Bool) (hz : sameL us [] ks [] [d, x3, x4, x5, x6, x7, x8] [0, 0, 0, 0, 0, 0, 0] = z) (w : World) (h : IsL w ⟨us, ks, d, x3, x4, x5, x6, x7, x8⟩ uA uC kA kC) : Calls Tryz.prog 175 #[.agg #[.slice uA us.length uC, .slice kA ks.length kC, .int .i64 d, .int .i64 x3, .int .i64 x4, .int .i64 x5, .int .i64 x6, .int .i64 x7, .int .i64 x8]] w fun e w' => e = .returned (.bool z) ∧ Below w.heap.size w w' := by
 have BA := hid ((Below.refl w.heap.size w).alloc (Nat.le_refl _) (.cells #[.slice uA us.length uC, .slice kA ks.length kC, .int .i64 d, .int .i64 x3, .int .i64 x4, .int .i64 x5, .int .i64 x6, .int .i64 x7, .int .i64 x8] 28))
 have X0 := hid (blk_new w [.slice uA us.length uC, .slice kA ks.length kC, .int .i64 d, .int .i64 x3, .int .i64 x4, .int .i64 x5, .int .i64 x6, .int .i64 x7, .int .i64 x8] 28)
 have HS := hid (rsame57 us ks d x3 x4 x5 x6 x7 x8 uA uC kA kC [] [] 0 0 0 0 0 0 0 none 0 none 0 _ (h.below BA.out) (zero_isL _))
 rw [hz] at HS
 clear h hz
 go_enter Tryz.func175, Tryz.ntmps175
 go_wp2_with (first
  | (refine wpList_load_mid rfl 28 _ rfl w.heap.size 0 rfl [.slice uA us.length uC, .slice kA ks.length kC, .int .i64 d, .int .i64 x3, .int .i64 x4, .int .i64 x5, .int .i64 x6, .int .i64 x7, .int .i64 x8] _ X0.out.range Tryz.underlying28 rfl size27 ?_)
  | (go_at_call 60; refine HS.out.mono ?_; rintro e w1 ⟨rfl, hb⟩; have B1 := hid (BA.out.trans (hb.mono BA.out.size)); clear hb)
  | fail)
 go_ret
 exact ⟨rfl, B1.out⟩
/-- No field is set that the kind does not use. -/
def onB (k : Int) (C : Cn) : Bool := ((C.tx.toList == []) || hasF (unL k) nText) && (((C.n == 0) || hasF (unL k) nN) && (((C.tg == 0) || hasF (unL k) nTarget) && (((!C.th) || hasF (unL k) nThread) && (((C.via.toList == []) || hasF (unL k) nVia) && ((((C.al.length : Int) == 0) || hasF (unL k) nAllow) && ((((C.dn.length : Int) == 0) || hasF (unL k) nDeny) && ((sameL C.us [] C.ks [] [C.d, C.x3, C.x4, C.x5, C.x6, C.x7, C.x8] [0, 0, 0, 0, 0, 0, 0] || hasF (unL k) nLevels))))))))
set_option maxHeartbeats 32000000 in
theorem only40 (k : Int) (C : Cn) (a : Ads) (w : World) (h : IsC w C a) : Calls Tryz.prog 104 #[.int .i64 k, .agg (ccs C a).toArray] w fun e w' => e = .returned (.bool (onB k C)) ∧ Below w.heap.size w w' := by
 obtain ⟨tx, n, tg, th, via, al, dn, us, ks, d, x3, x4, x5, x6, x7, x8⟩ := C
 obtain ⟨aA, aC, dA, dC, uA, uC, kA, kC⟩ := a
 have HLv := hid h.lv
 have b1 := h.al.rws.big
 have b2 := h.dn.rws.big
 unfold maxLen at b1 b2
 dsimp only at HLv b1 b2
 clear h
 have B0 := hid ((Below.refl w.heap.size w).alloc (Nat.le_refl _) (.cells #[.string tx, .int .i64 n, .int .i64 tg, .bool th, .string via, .slice aA al.length aC, .slice dA dn.length dC, .slice uA us.length uC, .slice kA ks.length kC, .int .i64 d, .int .i64 x3, .int .i64 x4, .int .i64 x5, .int .i64 x6, .int .i64 x7, .int .i64 x8] 30))
 have X0 := hid (blk_new w [.string tx, .int .i64 n, .int .i64 tg, .bool th, .string via, .slice aA al.length aC, .slice dA dn.length dC, .slice uA us.length uC, .slice kA ks.length kC, .int .i64 d, .int .i64 x3, .int .i64 x4, .int .i64 x5, .int .i64 x6, .int .i64 x7, .int .i64 x8] 30)
 have HC := hid (show onB k ⟨tx, n, tg, th, via, al, dn, us, ks, d, x3, x4, x5, x6, x7, x8⟩ = (((tx.toList == []) || hasF (unL k) nText) && (((n == 0) || hasF (unL k) nN) && (((tg == 0) || hasF (unL k) nTarget) && (((!th) || hasF (unL k) nThread) && (((via.toList == []) || hasF (unL k) nVia) && ((((al.length : Int) == 0) || hasF (unL k) nAllow) && ((((dn.length : Int) == 0) || hasF (unL k) nDeny) && ((sameL us [] ks [] [d, x3, x4, x5, x6, x7, x8] [0, 0, 0, 0, 0, 0, 0] || hasF (unL k) nLevels))))))))) from rfl)
 generalize onB k ⟨tx, n, tg, th, via, al, dn, us, ks, d, x3, x4, x5, x6, x7, x8⟩ = r at HC ⊢
 show Calls Tryz.prog 104 #[.int .i64 k, .agg #[.string tx, .int .i64 n, .int .i64 tg, .bool th, .string via, .slice aA al.length aC, .slice dA dn.length dC, .slice uA us.length uC, .slice kA ks.length kC, .int .i64 d, .int .i64 x3, .int .i64 x4, .int .i64 x5, .int .i64 x6, .int .i64 x7, .int .i64 x8]] w _
 generalize hz0 : (tx.toList == []) = z0 at HC
 generalize hu0 : hasF (unL k) nText = u0 at HC
 have HU0 := hid (fun y => uses_q k nText u0 hu0 y)
 clear hu0
 obtain ⟨s0, hs0'⟩ : ∃ s, (z0 || u0) = s := ⟨_, rfl⟩
 have hs0 := hid hs0'
 clear hs0'
 generalize hz1 : (n == 0) = z1 at HC
 generalize hu1 : hasF (unL k) nN = u1 at HC
 have HU1 := hid (fun y => uses_q k nN u1 hu1 y)
 clear hu1
 obtain ⟨s1, hs1'⟩ : ∃ s, (z1 || u1) = s := ⟨_, rfl⟩
 have hs1 := hid hs1'
 clear hs1'
 generalize hz2 : (tg == 0) = z2 at HC
 generalize hu2 : hasF (unL k) nTarget = u2 at HC
 have HU2 := hid (fun y => uses_q k nTarget u2 hu2 y)
 clear hu2
 obtain ⟨s2, hs2'⟩ : ∃ s, (z2 || u2) = s := ⟨_, rfl⟩
 have hs2 := hid hs2'
 clear hs2'
 generalize hz3 : (!th) = z3 at HC
 generalize hu3 : hasF (unL k) nThread = u3 at HC
 have HU3 := hid (fun y => uses_q k nThread u3 hu3 y)
 clear hu3
 obtain ⟨s3, hs3'⟩ : ∃ s, (z3 || u3) = s := ⟨_, rfl⟩
 have hs3 := hid hs3'
 clear hs3'
 generalize hz4 : (via.toList == []) = z4 at HC
 generalize hu4 : hasF (unL k) nVia = u4 at HC
 have HU4 := hid (fun y => uses_q k nVia u4 hu4 y)
 clear hu4
 obtain ⟨s4, hs4'⟩ : ∃ s, (z4 || u4) = s := ⟨_, rfl⟩
 have hs4 := hid hs4'
 clear hs4'
 generalize hz5 : ((al.length : Int) == 0) = z5 at HC
 generalize hu5 : hasF (unL k) nAllow = u5 at HC
 have HU5 := hid (fun y => uses_q k nAllow u5 hu5 y)
 clear hu5
 obtain ⟨s5, hs5'⟩ : ∃ s, (z5 || u5) = s := ⟨_, rfl⟩
 have hs5 := hid hs5'
 clear hs5'
 generalize hz6 : ((dn.length : Int) == 0) = z6 at HC
 generalize hu6 : hasF (unL k) nDeny = u6 at HC
 have HU6 := hid (fun y => uses_q k nDeny u6 hu6 y)
 clear hu6
 obtain ⟨s6, hs6'⟩ : ∃ s, (z6 || u6) = s := ⟨_, rfl⟩
 have hs6 := hid hs6'
 clear hs6'
 generalize hz7 : sameL us [] ks [] [d, x3, x4, x5, x6, x7, x8] [0, 0, 0, 0, 0, 0, 0] = z7 at HC
 generalize hu7 : hasF (unL k) nLevels = u7 at HC
 have HU7 := hid (fun y => uses_q k nLevels u7 hu7 y)
 clear hu7
 obtain ⟨s7, hs7'⟩ : ∃ s, (z7 || u7) = s := ⟨_, rfl⟩
 have hs7 := hid hs7'
 clear hs7'
 have HPl := hid (fun y (hb : Below w.heap.size w y) => plain110 us ks d x3 x4 x5 x6 x7 x8 uA uC kA kC z7 hz7 y (HLv.out.below hb))
 clear hz7 HLv
 go_enter Tryz.func104, Tryz.ntmps104
 go_upto_region 1 with (fail)
 simp only [List.append_eq, List.cons_append, List.nil_append]
 refine wp_region_lit ?_
 refine st_val (v := .pointer (some ⟨w.heap.size, 0, none⟩)) (by rfl) (by go_simp) ?_
 try simp only [Act.put, lsA, ls0, ls1]
 have q0 := X0.out.cell (i := 0) rfl
 refine st_val (v := .string tx) (by rfl) (by go_simp) ?_
 try simp only [Act.put, lsA, ls0, ls1]
 refine st_val (v := .bool z0) (by rfl) (by go_simp) ?_
 try simp only [Act.put, lsA, ls0, ls1]
 refine st_val (v := .bool z0) (by rfl) (by rfl) ?_
 try simp only [Act.put, lsA, ls0, ls1]
 refine or_join 174 #[.int .i64 k, .string nText] z0 u0 _ hs0.out (.int .i64 k) ?_ ?_ ?_ ?_ ?_ ?_ ?_ (HU0.out _) ?_
 ·cases z0 <;> rfl
 ·intro _; rfl
 ·intro _; cases z0 <;> rfl
 ·intro _; kernel_rfl
 ·intro _ _; rfl
 ·intro hz _ _ _; subst hz; rfl
 ·intro hz _ _ _; subst hz; rfl
 intro x0' y0' w1 hb
 have B1 := hid (B0.out.trans (hb.mono B0.out.size)); have X1 := hid (X0.out.below hb); clear hb
 try simp only [Act.put, lsA, ls0, ls1]
 clear HU0
 cases s0 with
 | false =>
  have HE : Hid (r = false) := hid (HC.out.trans (by simp only [hs0.out, Bool.false_and, Bool.and_false]))
  clear HC
  go_wp2
  go_ret
  exact ⟨ret_b HE.out, B1.out⟩
 | true =>
  refine st_val (v := .bool true) (by rfl) (by rfl) ?_
  try simp only [Act.put, lsA, ls0, ls1]
  refine st_val (v := .pointer (some ⟨w.heap.size, 1, none⟩)) (by rfl) (by go_simp) ?_
  try simp only [Act.put, lsA, ls0, ls1]
  have q1 := X1.out.cell (i := 1) rfl
  refine st_val (v := .int .i64 n) (by rfl) (by go_simp) ?_
  try simp only [Act.put, lsA, ls0, ls1]
  refine st_val (v := .bool z1) (by rfl) (by go_simp) ?_
  try simp only [Act.put, lsA, ls0, ls1]
  refine st_val (v := .bool z1) (by rfl) (by rfl) ?_
  try simp only [Act.put, lsA, ls0, ls1]
  refine or_join 174 #[.int .i64 k, .string nN] z1 u1 _ hs1.out (.int .i64 k) ?_ ?_ ?_ ?_ ?_ ?_ ?_ (HU1.out _) ?_
  ·cases z1 <;> rfl
  ·intro _; rfl
  ·intro _; cases z1 <;> rfl
  ·intro _; kernel_rfl
  ·intro _ _; rfl
  ·intro hz _ _ _; subst hz; rfl
  ·intro hz _ _ _; subst hz; rfl
  intro x1' y1' w2 hb
  have B2 := hid (B1.out.trans (hb.mono B1.out.size)); have X2 := hid (X1.out.below hb); clear hb
  try simp only [Act.put, lsA, ls0, ls1]
  clear HU1
  cases s1 with
  | false =>
   have HE : Hid (r = false) := hid (HC.out.trans (by simp only [hs1.out, Bool.false_and, Bool.and_false]))
   clear HC
   go_wp2
   go_ret
   exact ⟨ret_b HE.out, B2.out⟩
  | true =>
   refine st_val (v := .bool true) (by rfl) (by rfl) ?_
   try simp only [Act.put, lsA, ls0, ls1]
   refine st_val (v := .bool true) (by rfl) (by rfl) ?_
   try simp only [Act.put, lsA, ls0, ls1]
   refine st_val (v := .pointer (some ⟨w.heap.size, 2, none⟩)) (by rfl) (by go_simp) ?_
   try simp only [Act.put, lsA, ls0, ls1]
   have q2 := X2.out.cell (i := 2) rfl
   refine st_val (v := .int .i64 tg) (by rfl) (by go_simp) ?_
   try simp only [Act.put, lsA, ls0, ls1]
   refine st_val (v := .bool z2) (by rfl) (by go_simp) ?_
   try simp only [Act.put, lsA, ls0, ls1]
   refine st_val (v := .bool z2) (by rfl) (by rfl) ?_
   try simp only [Act.put, lsA, ls0, ls1]
   refine or_join 174 #[.int .i64 k, .string nTarget] z2 u2 _ hs2.out (.int .i64 k) ?_ ?_ ?_ ?_ ?_ ?_ ?_ (HU2.out _) ?_
   ·cases z2 <;> rfl
   ·intro _; rfl
   ·intro _; cases z2 <;> rfl
   ·intro _; kernel_rfl
   ·intro _ _; rfl
   ·intro hz _ _ _; subst hz; rfl
   ·intro hz _ _ _; subst hz; rfl
   intro x2' y2' w3 hb
   have B3 := hid (B2.out.trans (hb.mono B2.out.size)); have X3 := hid (X2.out.below hb); clear hb
   try simp only [Act.put, lsA, ls0, ls1]
   clear HU2
   cases s2 with
   | false =>
    have HE : Hid (r = false) := hid (HC.out.trans (by simp only [hs2.out, Bool.false_and, Bool.and_false]))
    clear HC
    go_wp2
    go_ret
    exact ⟨ret_b HE.out, B3.out⟩
   | true =>
    refine st_val (v := .bool true) (by rfl) (by rfl) ?_
    try simp only [Act.put, lsA, ls0, ls1]
    refine st_val (v := .bool true) (by rfl) (by rfl) ?_
    try simp only [Act.put, lsA, ls0, ls1]
    refine st_val (v := .pointer (some ⟨w.heap.size, 3, none⟩)) (by rfl) (by go_simp) ?_
    try simp only [Act.put, lsA, ls0, ls1]
    have q3 := X3.out.cell (i := 3) rfl
    refine st_val (v := .bool th) (by rfl) (by go_simp) ?_
    try simp only [Act.put, lsA, ls0, ls1]
    refine st_val (v := .bool z3) (by rfl) (by go_simp) ?_
    try simp only [Act.put, lsA, ls0, ls1]
    refine st_val (v := .bool z3) (by rfl) (by rfl) ?_
    try simp only [Act.put, lsA, ls0, ls1]
    refine or_join 174 #[.int .i64 k, .string nThread] z3 u3 _ hs3.out (.int .i64 k) ?_ ?_ ?_ ?_ ?_ ?_ ?_ (HU3.out _) ?_
    ·cases z3 <;> rfl
    ·intro _; rfl
    ·intro _; cases z3 <;> rfl
    ·intro _; kernel_rfl
    ·intro _ _; rfl
    ·intro hz _ _ _; subst hz; rfl
    ·intro hz _ _ _; subst hz; rfl
    intro x3' y3' w4 hb
    have B4 := hid (B3.out.trans (hb.mono B3.out.size)); have X4 := hid (X3.out.below hb); clear hb
    try simp only [Act.put, lsA, ls0, ls1]
    clear HU3
    cases s3 with
    | false =>
     have HE : Hid (r = false) := hid (HC.out.trans (by simp only [hs3.out, Bool.false_and, Bool.and_false]))
     clear HC
     go_wp2
     go_ret
     exact ⟨ret_b HE.out, B4.out⟩
    | true =>
     refine st_val (v := .bool true) (by rfl) (by rfl) ?_
     try simp only [Act.put, lsA, ls0, ls1]
     refine st_val (v := .bool true) (by rfl) (by rfl) ?_
     try simp only [Act.put, lsA, ls0, ls1]
     refine st_val (v := .pointer (some ⟨w.heap.size, 4, none⟩)) (by rfl) (by go_simp) ?_
     try simp only [Act.put, lsA, ls0, ls1]
     have q4 := X4.out.cell (i := 4) rfl
     refine st_val (v := .string via) (by rfl) (by go_simp) ?_
     try simp only [Act.put, lsA, ls0, ls1]
     refine st_val (v := .bool z4) (by rfl) (by go_simp) ?_
     try simp only [Act.put, lsA, ls0, ls1]
     refine st_val (v := .bool z4) (by rfl) (by rfl) ?_
     try simp only [Act.put, lsA, ls0, ls1]
     refine or_join 174 #[.int .i64 k, .string nVia] z4 u4 _ hs4.out (.int .i64 k) ?_ ?_ ?_ ?_ ?_ ?_ ?_ (HU4.out _) ?_
     ·cases z4 <;> rfl
     ·intro _; rfl
     ·intro _; cases z4 <;> rfl
     ·intro _; kernel_rfl
     ·intro _ _; rfl
     ·intro hz _ _ _; subst hz; rfl
     ·intro hz _ _ _; subst hz; rfl
     intro x4' y4' w5 hb
     have B5 := hid (B4.out.trans (hb.mono B4.out.size)); have X5 := hid (X4.out.below hb); clear hb
     try simp only [Act.put, lsA, ls0, ls1]
     clear HU4
     cases s4 with
     | false =>
      have HE : Hid (r = false) := hid (HC.out.trans (by simp only [hs4.out, Bool.false_and, Bool.and_false]))
      clear HC
      go_wp2
      go_ret
      exact ⟨ret_b HE.out, B5.out⟩
     | true =>
      refine st_val (v := .bool true) (by rfl) (by rfl) ?_
      try simp only [Act.put, lsA, ls0, ls1]
      refine st_val (v := .bool true) (by rfl) (by rfl) ?_
      try simp only [Act.put, lsA, ls0, ls1]
      refine st_val (v := .pointer (some ⟨w.heap.size, 5, none⟩)) (by rfl) (by go_simp) ?_
      try simp only [Act.put, lsA, ls0, ls1]
      have q5 := X5.out.cell (i := 5) rfl
      refine st_val (v := .slice aA al.length aC) (by rfl) (by go_simp) ?_
      try simp only [Act.put, lsA, ls0, ls1]
      refine st_val (v := .int .i64 (al.length : Int)) (by rfl) (by go_simp) ?_
      try simp only [Act.put, lsA, ls0, ls1]
      refine st_val (v := .bool z5) (by rfl) (by go_simp) ?_
      try simp only [Act.put, lsA, ls0, ls1]
      refine st_val (v := .bool z5) (by rfl) (by rfl) ?_
      try simp only [Act.put, lsA, ls0, ls1]
      refine or_join 174 #[.int .i64 k, .string nAllow] z5 u5 _ hs5.out (.int .i64 k) ?_ ?_ ?_ ?_ ?_ ?_ ?_ (HU5.out _) ?_
      ·cases z5 <;> rfl
      ·intro _; rfl
      ·intro _; cases z5 <;> rfl
      ·intro _; kernel_rfl
      ·intro _ _; rfl
      ·intro hz _ _ _; subst hz; rfl
      ·intro hz _ _ _; subst hz; rfl
      intro x5' y5' w6 hb
      have B6 := hid (B5.out.trans (hb.mono B5.out.size)); have X6 := hid (X5.out.below hb); clear hb
      try simp only [Act.put, lsA, ls0, ls1]
      clear HU5
      cases s5 with
      | false =>
       have HE : Hid (r = false) := hid (HC.out.trans (by simp only [hs5.out, Bool.false_and, Bool.and_false]))
       clear HC
       go_wp2
       go_ret
       exact ⟨ret_b HE.out, B6.out⟩
      | true =>
       refine st_val (v := .bool true) (by rfl) (by rfl) ?_
       try simp only [Act.put, lsA, ls0, ls1]
       refine st_val (v := .bool true) (by rfl) (by rfl) ?_
       try simp only [Act.put, lsA, ls0, ls1]
       refine st_val (v := .pointer (some ⟨w.heap.size, 6, none⟩)) (by rfl) (by go_simp) ?_
       try simp only [Act.put, lsA, ls0, ls1]
       have q6 := X6.out.cell (i := 6) rfl
       refine st_val (v := .slice dA dn.length dC) (by rfl) (by go_simp) ?_
       try simp only [Act.put, lsA, ls0, ls1]
       refine st_val (v := .int .i64 (dn.length : Int)) (by rfl) (by go_simp) ?_
       try simp only [Act.put, lsA, ls0, ls1]
       refine st_val (v := .bool z6) (by rfl) (by go_simp) ?_
       try simp only [Act.put, lsA, ls0, ls1]
       refine st_val (v := .bool z6) (by rfl) (by rfl) ?_
       try simp only [Act.put, lsA, ls0, ls1]
       refine or_join 174 #[.int .i64 k, .string nDeny] z6 u6 _ hs6.out (.int .i64 k) ?_ ?_ ?_ ?_ ?_ ?_ ?_ (HU6.out _) ?_
       ·cases z6 <;> rfl
       ·intro _; rfl
       ·intro _; cases z6 <;> rfl
       ·intro _; kernel_rfl
       ·intro _ _; rfl
       ·intro hz _ _ _; subst hz; rfl
       ·intro hz _ _ _; subst hz; rfl
       intro x6' y6' w7 hb
       have B7 := hid (B6.out.trans (hb.mono B6.out.size)); have X7 := hid (X6.out.below hb); clear hb
       try simp only [Act.put, lsA, ls0, ls1]
       clear HU6
       cases s6 with
       | false =>
        have HE : Hid (r = false) := hid (HC.out.trans (by simp only [hs6.out, Bool.false_and, Bool.and_false]))
        clear HC
        go_wp2
        go_ret
        exact ⟨ret_b HE.out, B7.out⟩
       | true =>
        refine st_val (v := .bool true) (by rfl) (by rfl) ?_
        try simp only [Act.put, lsA, ls0, ls1]
        refine st_val (v := .bool true) (by rfl) (by rfl) ?_
        try simp only [Act.put, lsA, ls0, ls1]
        refine st_val (v := .pointer (some ⟨w.heap.size, 7, none⟩)) (by rfl) (by go_simp) ?_
        try simp only [Act.put, lsA, ls0, ls1]
        refine load_mid_g (by rfl) 28 _ rfl w.heap.size 7 rfl [.slice uA us.length uC, .slice kA ks.length kC, .int .i64 d, .int .i64 x3, .int .i64 x4, .int .i64 x5, .int .i64 x6, .int .i64 x7, .int .i64 x8] _ (X7.out.mid 7 9) Tryz.underlying28 rfl size27 ?_
        try simp only [Act.put, lsA, ls0, ls1]
        refine st_call 175 #[.agg #[.slice uA us.length uC, .slice kA ks.length kC, .int .i64 d, .int .i64 x3, .int .i64 x4, .int .i64 x5, .int .i64 x6, .int .i64 x7, .int .i64 x8]] (by rfl) (by intro _; kernel_rfl) ((HPl.out _ B7.out).mono ?_)
        rintro e w7b ⟨rfl, hb⟩
        refine ⟨_, rfl, ?_⟩
        have B7b := hid (B7.out.trans (hb.mono B7.out.size)); have X7b := hid (X7.out.below hb); clear hb B7 X7; have B7 := B7b; have X7 := X7b; clear B7b X7b
        try simp only [Act.put, lsA, ls0, ls1]
        refine st_val (v := .bool z7) (by rfl) (by rfl) ?_
        try simp only [Act.put, lsA, ls0, ls1]
        refine or_join 174 #[.int .i64 k, .string nLevels] z7 u7 _ hs7.out (.int .i64 k) ?_ ?_ ?_ ?_ ?_ ?_ ?_ (HU7.out _) ?_
        ·cases z7 <;> rfl
        ·intro _; rfl
        ·intro _; cases z7 <;> rfl
        ·intro _; kernel_rfl
        ·intro _ _; rfl
        ·intro hz _ _ _; subst hz; rfl
        ·intro hz _ _ _; subst hz; rfl
        intro x7' y7' w8 hb
        have B8 := hid (B7.out.trans (hb.mono B7.out.size)); have X8 := hid (X7.out.below hb); clear hb
        try simp only [Act.put, lsA, ls0, ls1]
        clear HU7
        cases s7 with
        | false =>
         have HE : Hid (r = false) := hid (HC.out.trans (by simp only [hs7.out, Bool.false_and, Bool.and_false]))
         clear HC
         go_wp2
         go_ret
         exact ⟨ret_b HE.out, B8.out⟩
        | true =>
         refine st_val (v := .bool true) (by rfl) (by rfl) ?_
         try simp only [Act.put, lsA, ls0, ls1]
         have HE : Hid (r = true) := hid (HC.out.trans (by simp only [hs0.out, hs1.out, hs2.out, hs3.out, hs4.out, hs5.out, hs6.out, hs7.out, Bool.and_self]))
         clear HC
         go_wp2
         go_ret
         exact ⟨ret_b HE.out, B8.out⟩
end Go.Proofs.YtablocpcgknmaaaGreatDoor
