/- Relations: Of of both, idOf, later. No condition. -/
import Derived.Test.YtefajhfahnhcgaaV1
namespace Go.Proofs.Ytefajhfahnhcgaa
open Go Go.RowKit
set_option linter.unusedVariables false
set_option linter.unusedSimpArgs false

theorem store_mid_as {P : Program} {ops : Array Oper} {rest : List Oper} {op : Oper} {a : Act} {w : World} {Q : Exit → Act → World → Prop} (hgd : op.guard = none) (ty : TypeId) (x y : Operand) (ho : op.op = .store ty x y)
    (b o : Nat) (cells : Array Value) (hx : a.eval x = .pointer (some ⟨b, o, none⟩)) (hy : a.eval y = .agg cells)
    (ht : w.there b o cells.size) (hi : (P.info? ty).map (·.size) = some cells.size) (h1 : cells.all (·.oneCell') = true)
    (h : ∀ w4, w4 = w.setCells b o cells.toList → wpList P ops Q rest (a.put op.dst undef) w4) : wpList P ops Q (op :: rest) a w :=
  wpList_store_mid hgd ty x y ho b o cells hx hy ht hi h1 (h _ rfl)
theorem blk_alloc_set (w : World) (cs vs : List Value) (T : TypeId) (e : vs.length = cs.length) : Blk ((w.alloc (.cells cs.toArray T)).setCells w.heap.size 0 vs) w.heap.size vs T := (blk_new w cs T).setAll vs e
theorem two_ret {k k' i i' : Int} (h1 : k = k') (h2 : i = i') : Ending.returned (.tuple #[.int .i64 k, .int .i64 i]) = .returned (.tuple #[.int .i64 k', .int .i64 i']) := by rw [h1, h2]
set_option maxRecDepth 100000 in
set_option maxHeartbeats 4000000 in
theorem of10 (e : Me) (hf : Fits e) (w : World) : Calls Try.prog 10 #[.agg e.cs.toArray] w fun r w' => r = .returned (.tuple #[.int .i64 (relK e), .int .i64 (relI e)]) ∧ Below w.heap.size w w' := by
  have BA := Lib.hid ((Below.refl w.heap.size w).alloc (Nat.le_refl _) (.cells e.cs.toArray 34))
  have HR := Lib.hid (relationOf26 w.heap.size 0 e (w.alloc (.cells e.cs.toArray 34)) (at_box w e hf))
  generalize e.cs = cs at BA HR ⊢
  generalize relK e = rk at HR ⊢
  generalize relI e = ri at HR ⊢
  clear hf
  go_enter Try.func10, Try.ntmps10
  go_wp2_with (first
    | (go_at_call 26; (with_reducible refine HR.out.mono ?_); rintro r w1 ⟨rfl, hb⟩; have B1 := Lib.hid (BA.out.trans (hb.mono BA.out.size)); clear hb)
    | (refine store_mid_as rfl 60 _ _ rfl w1.heap.size 0 #[.int .i64 rk, .int .i64 ri] rfl rfl (Blk.there (n := 2) (blk_new w1 (relC 0 0) 60) (by decide)) size60 (by simp [Value.oneCell']) ?_; intro w4 hw4; have X4 := Lib.hid (show Blk w4 w1.heap.size (relC rk ri) 60 by rw [hw4]; exact blk_alloc_set w1 (relC 0 0) (relC rk ri) 60 rfl); have B4 := Lib.hid (show Below w.heap.size w w4 by rw [hw4]; exact below_setRow (B1.out.alloc B1.out.size _) B1.out.size _ _); clear hw4)
    | go_in)
  have q0 := X4.out.cell (i := 0) rfl
  have q1 := X4.out.cell (i := 1) rfl
  go_quiet (fail)
  go_wp2
  go_ret2
  exact ⟨rfl, below_drewN B4.out _⟩
set_option maxRecDepth 100000 in
set_option maxHeartbeats 4000000 in
theorem rof11 (e : Me) (hf : Fits e) (w : World) : Calls Try.prog 11 #[.agg e.cs.toArray] w fun r w' => r = .returned (.tuple #[.int .i64 (relK e), .int .i64 (relI e)]) ∧ Below w.heap.size w w' := by
  have BA := Lib.hid ((Below.refl w.heap.size w).alloc (Nat.le_refl _) (.cells e.cs.toArray 34))
  have HA := Lib.hid (at_box w e hf)
  have HK := Lib.hid (show relK e = if e.tg ≤ 0 then 0 else if e.kd = 12 then 4 else if e.kd = 13 then 3 else if e.kd = 11 then (if e.th = true then 2 else 1) else 0 from rfl)
  have HI := Lib.hid (show relI e = if e.tg ≤ 0 then 0 else if e.kd = 12 then e.tg else if e.kd = 13 then e.tg else if e.kd = 11 then e.tg else 0 from rfl)
  generalize relK e = rk at HK ⊢
  generalize relI e = ri at HI ⊢
  clear hf
  go_enter Try.func11, Try.ntmps11
  go_upto_region 1 with (fail)
  generalize hwa : w.alloc _ = wa at BA HA ⊢
  clear hwa
  have k12 : wa.cell? ⟨w.heap.size, 12, none⟩ = some (.int .i64 e.tg) := by simpa using HA.out.k12
  have k3 : wa.cell? ⟨w.heap.size, 3, none⟩ = some (.int .i64 e.kd) := by simpa using HA.out.k3
  have k13 : wa.cell? ⟨w.heap.size, 13, none⟩ = some (.bool e.th) := by simpa using HA.out.k13
  generalize e.tg = tg at k12 HK HI
  generalize e.kd = kd at k3 HK HI
  generalize e.th = th at k13 HK HI
  clear HA
  by_cases h0 : tg ≤ 0
  · have HK1 := Lib.hid (HK.out.trans (if_pos h0)); have HI1 := Lib.hid (HI.out.trans (if_pos h0))
    clear HK HI k3 k13
    go_wp2
    go_ret2
    exact ⟨two_ret HK1.out.symm HI1.out.symm, BA.out⟩
  · have h0z : 0 < tg := by omega
    by_cases h1 : kd = 12
    · have HK1 := Lib.hid (HK.out.trans ((if_neg h0).trans (if_pos h1))); have HI1 := Lib.hid (HI.out.trans ((if_neg h0).trans (if_pos h1)))
      clear HK HI
      go_wp2
      go_quiet (fail)
      go_wp2
      go_ret2
      exact ⟨two_ret (by rw [HK1.out]) (by rw [HI1.out]), below_drewN BA.out _⟩
    · by_cases h2 : kd = 13
      · have HK1 := Lib.hid (HK.out.trans ((if_neg h0).trans ((if_neg h1).trans (if_pos h2)))); have HI1 := Lib.hid (HI.out.trans ((if_neg h0).trans ((if_neg h1).trans (if_pos h2))))
        clear HK HI
        go_wp2
        go_quiet (fail)
        go_wp2
        go_ret2
        exact ⟨two_ret (by rw [HK1.out]) (by rw [HI1.out]), below_drewN BA.out _⟩
      · by_cases h3 : kd = 11
        · cases th
          · have ht : ¬ (false = true) := by decide
            have HK1 := Lib.hid (HK.out.trans ((if_neg h0).trans ((if_neg h1).trans ((if_neg h2).trans ((if_pos h3).trans (if_neg ht)))))); have HI1 := Lib.hid (HI.out.trans ((if_neg h0).trans ((if_neg h1).trans ((if_neg h2).trans (if_pos h3)))))
            clear HK HI
            go_wp2
            go_quiet (fail)
            go_wp2
            go_ret2
            exact ⟨two_ret (by rw [HK1.out]) (by rw [HI1.out]), below_drewN BA.out _⟩
          · have ht : true = true := rfl
            have HK1 := Lib.hid (HK.out.trans ((if_neg h0).trans ((if_neg h1).trans ((if_neg h2).trans ((if_pos h3).trans (if_pos ht)))))); have HI1 := Lib.hid (HI.out.trans ((if_neg h0).trans ((if_neg h1).trans ((if_neg h2).trans (if_pos h3)))))
            clear HK HI
            go_wp2
            go_quiet (fail)
            go_wp2
            go_ret2
            exact ⟨two_ret (by rw [HK1.out]) (by rw [HI1.out]), below_drewN BA.out _⟩
        · have HK1 := Lib.hid (HK.out.trans ((if_neg h0).trans ((if_neg h1).trans ((if_neg h2).trans (if_neg h3))))); have HI1 := Lib.hid (HI.out.trans ((if_neg h0).trans ((if_neg h1).trans ((if_neg h2).trans (if_neg h3)))))
          clear HK HI
          go_wp2
          go_ret2
          exact ⟨two_ret (by rw [HK1.out]) (by rw [HI1.out]), BA.out⟩

set_option maxRecDepth 100000 in
set_option maxHeartbeats 4000000 in
theorem idOf_nil (w : World) : Calls Try.prog 32 #[.pointer none] w fun r w' => r = .returned (.int .i64 0) ∧ w' = w := by
  go_enter Try.func32, Try.ntmps32
  go_wp2
  go_ret
  exact ⟨rfl, rfl⟩
set_option maxRecDepth 100000 in
set_option maxHeartbeats 4000000 in
theorem idOf_at (b o : Nat) (e : Me) (w : World) (h : At w b o e) : Calls Try.prog 32 #[.pointer (some ⟨b, o, none⟩)] w fun r w' => r = .returned (.int .i64 e.id) ∧ w' = w := by
  have k0 := h.k0
  clear h
  go_enter Try.func32, Try.ntmps32
  go_wp2
  go_ret
  exact ⟨rfl, rfl⟩
/-- The second one is later. -/
def beats (x y : Me) : Bool := decide (x.tm < y.tm ∨ (y.tm = x.tm ∧ x.id < y.id))
set_option maxRecDepth 100000 in
set_option maxHeartbeats 4000000 in
theorem later_nil (p : Option Addr) (w : World) : Calls Try.prog 31 #[.pointer none, .pointer p] w fun r w' => r = .returned (.pointer p) ∧ Below w.heap.size w w' := by
  go_enter Try.func31, Try.ntmps31
  go_wp2
  go_quiet (fail)
  go_wp2
  go_ret
  exact ⟨rfl, below_drewN (Below.refl _ _) _⟩
theorem ret_p {p q : Option Addr} (h : p = q) : Ending.returned (.pointer p) = .returned (.pointer q) := by rw [h]
set_option maxRecDepth 100000 in
set_option maxHeartbeats 4000000 in
theorem later_at (b o b1 o1 : Nat) (x y : Me) (w : World) (h : At w b o x) (h1 : At w b1 o1 y) : Calls Try.prog 31 #[.pointer (some ⟨b, o, none⟩), .pointer (some ⟨b1, o1, none⟩)] w fun r w' => r = .returned (.pointer (if beats x y = true then some ⟨b1, o1, none⟩ else some ⟨b, o, none⟩)) ∧ Below w.heap.size w w' := by
  have x0 := h.k0
  have x6 := h.k6
  have y0 := h1.k0
  have y6 := h1.k6
  have HB := Lib.hid (show beats x y = decide (x.tm < y.tm ∨ (y.tm = x.tm ∧ x.id < y.id)) from rfl)
  generalize beats x y = bt at HB ⊢
  generalize x.id = xi at x0 HB
  generalize x.tm = xt at x6 HB
  generalize y.id = yi at y0 HB
  generalize y.tm = yt at y6 HB
  clear h h1
  by_cases c1 : xt < yt
  · have c2 : decide (xt < yt) = true := decide_eq_true c1
    have HB1 := Lib.hid (HB.out.trans (decide_eq_true (Or.inl c1)))
    rw [HB1.out, if_pos rfl]
    clear HB HB1
    go_enter Try.func31, Try.ntmps31
    go_wp2
    go_quiet (fail)
    go_wp2
    go_ret
    exact ⟨rfl, below_drewN (Below.refl _ _) _⟩
  · have c2 : decide (xt < yt) = false := decide_eq_false c1
    by_cases c3 : yt = xt
    · subst c3
      by_cases c5 : xi < yi
      · have c6 : decide (xi < yi) = true := decide_eq_true c5
        have HB1 := Lib.hid (HB.out.trans (decide_eq_true (Or.inr ⟨rfl, c5⟩)))
        rw [HB1.out, if_pos rfl]
        clear HB HB1
        go_enter Try.func31, Try.ntmps31
        go_wp2
        go_quiet (fail)
        go_wp2
        go_ret
        exact ⟨rfl, below_drewN (Below.refl _ _) _⟩
      · have c6 : decide (xi < yi) = false := decide_eq_false c5
        have HB1 := Lib.hid (HB.out.trans (decide_eq_false (fun h => h.elim c1 (fun h => c5 h.2))))
        rw [HB1.out, if_neg (by decide)]
        clear HB HB1
        go_enter Try.func31, Try.ntmps31
        go_wp2
        go_quiet (fail)
        go_wp2
        go_ret
        exact ⟨rfl, below_drewN (Below.refl _ _) _⟩
    · have HB1 := Lib.hid (HB.out.trans (decide_eq_false (fun h => h.elim c1 (fun h => c3 h.1))))
      have c4 : (yt == xt) = false := by simpa using c3
      rw [HB1.out, if_neg (by decide)]
      clear HB HB1
      go_enter Try.func31, Try.ntmps31
      go_wp2
      go_quiet (fail)
      go_wp2
      go_ret
      exact ⟨rfl, below_drewN (Below.refl _ _) _⟩
end Go.Proofs.Ytefajhfahnhcgaa
