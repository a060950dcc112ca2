/- The checks of a content's fields. No condition. -/
import Derived.Test.YtablocpcgknmaaaGreatDoorRK4
import Derived.Test.YtablocpcgknmaaaGreatDoorRPm
namespace Go.Proofs.YtablocpcgknmaaaGreatDoor
open Go.Lib (hid)
open Go Go.RowKit
set_option linter.unusedVariables false
set_option linter.unusedSimpArgs false
set_option maxRecDepth 100000

def txE (k : Int) (tx : ByteArray) : Int := if k = 9 then (if tx.size = 0 then 0 else Gl.chk (Gl.bys tx)) else if k = 12 then (if tx.size = 0 then 9 else if 32 < tx.size then 7 else 0) else if 400 < tx.size then 7 else 0
def thE (th : Bool) (tg : Int) : Int := if th = true ∧ tg = 0 then 1 else 0
def viE (n : Int) (via : ByteArray) : Int := if via.size = 0 then 0 else if n = 3 then (if I.mkd 64 (bys via) = true then 0 else 3) else 1
def tgE (k tg : Int) : Int := if tg < 0 ∨ (tg = 0 ∧ ¬ k = 11) then 2 else 0
def nmE (k n : Int) : Int := if k = 2 then wiE n 0 4 else if k = 4 then wiE n 0 3 else if k = 5 then wiE n 0 3 else if k = 8 then wiE n 0 1000000000 else if k = 10 then wiE n 1 10000 else if n = 1 ∨ n = 2 ∨ n = 6 then 0 else 2
def alE (k n : Int) (al : List ByteArray) : Int := if k = 4 then chkR n al else chkP al
theorem em_yes {s : ByteArray} (h : s.size = 0) : (s.toList == []) = true := by
 rw [Lib.toList_data]
 have : s.data.toList = [] := List.eq_nil_of_length_eq_zero (by rw [Array.length_toList]; exact h)
 rw [this]
 rfl
theorem em_no {s : ByteArray} (h : ¬ s.size = 0) : (s.toList == []) = false := by
 rw [Lib.toList_data]
 refine beq_eq_false_iff_ne.2 (fun e => h ?_)
 have := congrArg List.length e
 rw [Array.length_toList] at this
 exact this
set_option maxHeartbeats 4000000 in
theorem text85 (k : Int) (C : Cn) (a : Ads) (w : World) (h : IsC w C a) : Calls Tryz.prog 150 #[.int .i64 k, .agg (ccs C a).toArray] w fun e w' => e = .returned (.int .i64 (txE k C.tx)) ∧ Below w.heap.size w w' := by
 obtain ⟨tx, n, tg, th, via, al, dn, us, ks, d, x3, x4, x5, x6, x7, x8⟩ := C
 obtain ⟨aA, aC, dA, dC, uA, uC, kA, kC⟩ := a
 have hs := h.tx
 dsimp only at hs ⊢
 clear h
 have BA := hid ((Below.refl w.heap.size w).alloc (Nat.le_refl _) (.cells #[.string tx, .int .i64 n, .int .i64 tg, .bool th, .string via, .slice aA al.length aC, .slice dA dn.length dC, .slice uA us.length uC, .slice kA ks.length kC, .int .i64 d, .int .i64 x3, .int .i64 x4, .int .i64 x5, .int .i64 x6, .int .i64 x7, .int .i64 x8] 30))
 have X0 := hid (blk_new w [.string tx, .int .i64 n, .int .i64 tg, .bool th, .string via, .slice aA al.length aC, .slice dA dn.length dC, .slice uA us.length uC, .slice kA ks.length kC, .int .i64 d, .int .i64 x3, .int .i64 x4, .int .i64 x5, .int .i64 x6, .int .i64 x7, .int .i64 x8] 30)
 have HC := hid (show txE k tx = if k = 9 then (if tx.size = 0 then 0 else Gl.chk (Gl.bys tx)) else if k = 12 then (if tx.size = 0 then 9 else if 32 < tx.size then 7 else 0) else if 400 < tx.size then 7 else 0 from rfl)
 have CG := hid (Gl.check_any tx hs (w.alloc (.cells #[.string tx, .int .i64 n, .int .i64 tg, .bool th, .string via, .slice aA al.length aC, .slice dA dn.length dC, .slice uA us.length uC, .slice kA ks.length kC, .int .i64 d, .int .i64 x3, .int .i64 x4, .int .i64 x5, .int .i64 x6, .int .i64 x7, .int .i64 x8] 30)))
 generalize Gl.chk (Gl.bys tx) = v at HC CG
 generalize txE k tx = r at HC ⊢
 have y0 := X0.out.cell (i := 0) rfl
 show Calls Tryz.prog 150 #[.int .i64 k, .agg #[.string tx, .int .i64 n, .int .i64 tg, .bool th, .string via, .slice aA al.length aC, .slice dA dn.length dC, .slice uA us.length uC, .slice kA ks.length kC, .int .i64 d, .int .i64 x3, .int .i64 x4, .int .i64 x5, .int .i64 x6, .int .i64 x7, .int .i64 x8]] w _
 by_cases hk : k = 9
 ·have hkq : (k == 9) = true := by simpa using hk
  by_cases h0 : tx.size = 0
  ·have z1 := em_yes h0
   have HE := hid (HC.out.trans ((if_pos hk).trans (if_pos h0)))
   clear HC
   (try clear ht); (try clear h0); (try clear h2); (try clear h3); (try clear m1); (try clear m2); (try clear m6); (try clear hk); (try clear hk2)
   go_enter Tryz.func150, Tryz.ntmps150
   go_wp2_with (first | (go_at_call 197; (with_reducible refine CG.out.mono ?_); rintro e w1 ⟨rfl, rfl⟩) | go_in | fail)
   all_goals go_ret
   all_goals exact ⟨ret_i HE.out, BA.out⟩
  ·have z1 := em_no h0
   have HE := hid (HC.out.trans ((if_pos hk).trans (if_neg h0)))
   clear HC
   (try clear ht); (try clear h0); (try clear h2); (try clear h3); (try clear m1); (try clear m2); (try clear m6); (try clear hk); (try clear hk2)
   go_enter Tryz.func150, Tryz.ntmps150
   go_wp2_with (first | (go_at_call 197; (with_reducible refine CG.out.mono ?_); rintro e w1 ⟨rfl, rfl⟩) | go_in | fail)
   all_goals go_ret
   all_goals exact ⟨ret_i HE.out, BA.out⟩
 ·have hkq : (k == 9) = false := by simpa using hk
  by_cases hk2 : k = 12
  ·have hkq : (k == 12) = true := by simpa using hk2
   by_cases h0 : tx.size = 0
   ·have z1 := em_yes h0
    have HE := hid (HC.out.trans ((if_neg hk).trans ((if_pos hk2).trans (if_pos h0))))
    clear HC
    (try clear ht); (try clear h0); (try clear h2); (try clear h3); (try clear m1); (try clear m2); (try clear m6); (try clear hk); (try clear hk2)
    go_enter Tryz.func150, Tryz.ntmps150
    go_wp2_with (first | (go_at_call 197; (with_reducible refine CG.out.mono ?_); rintro e w1 ⟨rfl, rfl⟩) | go_in | fail)
    all_goals go_ret
    all_goals exact ⟨ret_i HE.out, BA.out⟩
   ·have z1 := em_no h0
    by_cases h1 : 32 < tx.size
    ·have h1z : (32 : Int) < (tx.size : Int) := by omega
     have HE := hid (HC.out.trans ((if_neg hk).trans ((if_pos hk2).trans ((if_neg h0).trans (if_pos h1)))))
     clear HC
     (try clear ht); (try clear h0); (try clear h2); (try clear h3); (try clear m1); (try clear m2); (try clear m6); (try clear hk); (try clear hk2)
     go_enter Tryz.func150, Tryz.ntmps150
     go_wp2_with (first | (go_at_call 197; (with_reducible refine CG.out.mono ?_); rintro e w1 ⟨rfl, rfl⟩) | go_in | fail)
     all_goals go_ret
     all_goals exact ⟨ret_i HE.out, BA.out⟩
    ·have h1z : ¬ (32 : Int) < (tx.size : Int) := by omega
     have h1y : ¬ (400 : Int) < (tx.size : Int) := by omega
     have HE := hid (HC.out.trans ((if_neg hk).trans ((if_pos hk2).trans ((if_neg h0).trans (if_neg h1)))))
     clear HC
     (try clear ht); (try clear h0); (try clear h2); (try clear h3); (try clear m1); (try clear m2); (try clear m6); (try clear hk); (try clear hk2)
     go_enter Tryz.func150, Tryz.ntmps150
     go_wp2_with (first | (go_at_call 197; (with_reducible refine CG.out.mono ?_); rintro e w1 ⟨rfl, rfl⟩) | go_in | fail)
     all_goals go_ret
     all_goals exact ⟨ret_i HE.out, BA.out⟩
  ·have hkq2 : (k == 12) = false := by simpa using hk2
   by_cases h1 : 400 < tx.size
   ·have h1z : (400 : Int) < (tx.size : Int) := by omega
    have HE := hid (HC.out.trans ((if_neg hk).trans ((if_neg hk2).trans (if_pos h1))))
    clear HC
    (try clear ht); (try clear h0); (try clear h2); (try clear h3); (try clear m1); (try clear m2); (try clear m6); (try clear hk); (try clear hk2)
    go_enter Tryz.func150, Tryz.ntmps150
    go_wp2_with (first | (go_at_call 197; (with_reducible refine CG.out.mono ?_); rintro e w1 ⟨rfl, rfl⟩) | go_in | fail)
    all_goals go_ret
    all_goals exact ⟨ret_i HE.out, BA.out⟩
   ·have h1z : ¬ (400 : Int) < (tx.size : Int) := by omega
    have HE := hid (HC.out.trans ((if_neg hk).trans ((if_neg hk2).trans (if_neg h1))))
    clear HC
    (try clear ht); (try clear h0); (try clear h2); (try clear h3); (try clear m1); (try clear m2); (try clear m6); (try clear hk); (try clear hk2)
    go_enter Tryz.func150, Tryz.ntmps150
    go_wp2_with (first | (go_at_call 197; (with_reducible refine CG.out.mono ?_); rintro e w1 ⟨rfl, rfl⟩) | go_in | fail)
    all_goals go_ret
    all_goals exact ⟨ret_i HE.out, BA.out⟩
set_option maxHeartbeats 4000000 in
theorem thread94 (k : Int) (C : Cn) (a : Ads) (w : World) (h : IsC w C a) : Calls Tryz.prog 159 #[.int .i64 k, .agg (ccs C a).toArray] w fun e w' => e = .returned (.int .i64 (thE C.th C.tg)) ∧ Below w.heap.size w w' := by
 obtain ⟨tx, n, tg, th, via, al, dn, us, ks, d, x3, x4, x5, x6, x7, x8⟩ := C
 obtain ⟨aA, aC, dA, dC, uA, uC, kA, kC⟩ := a
 dsimp only
 clear h
 have BA := hid ((Below.refl w.heap.size w).alloc (Nat.le_refl _) (.cells #[.string tx, .int .i64 n, .int .i64 tg, .bool th, .string via, .slice aA al.length aC, .slice dA dn.length dC, .slice uA us.length uC, .slice kA ks.length kC, .int .i64 d, .int .i64 x3, .int .i64 x4, .int .i64 x5, .int .i64 x6, .int .i64 x7, .int .i64 x8] 30))
 have X0 := hid (blk_new w [.string tx, .int .i64 n, .int .i64 tg, .bool th, .string via, .slice aA al.length aC, .slice dA dn.length dC, .slice uA us.length uC, .slice kA ks.length kC, .int .i64 d, .int .i64 x3, .int .i64 x4, .int .i64 x5, .int .i64 x6, .int .i64 x7, .int .i64 x8] 30)
 have HC := hid (show thE th tg = if th = true ∧ tg = 0 then 1 else 0 from rfl)
 generalize thE th tg = r at HC ⊢
 have y2 := X0.out.cell (i := 2) rfl
 have y3 := X0.out.cell (i := 3) rfl
 show Calls Tryz.prog 159 #[.int .i64 k, .agg #[.string tx, .int .i64 n, .int .i64 tg, .bool th, .string via, .slice aA al.length aC, .slice dA dn.length dC, .slice uA us.length uC, .slice kA ks.length kC, .int .i64 d, .int .i64 x3, .int .i64 x4, .int .i64 x5, .int .i64 x6, .int .i64 x7, .int .i64 x8]] w _
 cases th
 ·have HE := hid (HC.out.trans (if_neg (fun q => by cases q.1)))
  clear HC
  (try clear ht); (try clear h0); (try clear h2); (try clear h3); (try clear m1); (try clear m2); (try clear m6); (try clear hk); (try clear hk2)
  go_enter Tryz.func159, Tryz.ntmps159
  go_wp2
  all_goals go_ret
  all_goals exact ⟨ret_i HE.out, BA.out⟩
 ·by_cases ht : tg = 0
  ·have HE := hid (HC.out.trans (if_pos ⟨rfl, ht⟩))
   have hq : (tg == 0) = true := by simpa using ht
   clear HC
   (try clear ht); (try clear h0); (try clear h2); (try clear h3); (try clear m1); (try clear m2); (try clear m6); (try clear hk); (try clear hk2)
   go_enter Tryz.func159, Tryz.ntmps159
   go_wp2
   all_goals go_ret
   all_goals exact ⟨ret_i HE.out, BA.out⟩
  ·have HE := hid (HC.out.trans (if_neg (fun q => ht q.2)))
   have hq : (tg == 0) = false := by simpa using ht
   clear HC
   (try clear ht); (try clear h0); (try clear h2); (try clear h3); (try clear m1); (try clear m2); (try clear m6); (try clear hk); (try clear hk2)
   go_enter Tryz.func159, Tryz.ntmps159
   go_wp2
   all_goals go_ret
   all_goals exact ⟨ret_i HE.out, BA.out⟩
set_option maxHeartbeats 4000000 in
theorem via97 (k : Int) (C : Cn) (a : Ads) (w : World) (h : IsC w C a) : Calls Tryz.prog 162 #[.int .i64 k, .agg (ccs C a).toArray] w fun e w' => e = .returned (.int .i64 (viE C.n C.via)) ∧ Below w.heap.size w w' := by
 obtain ⟨tx, n, tg, th, via, al, dn, us, ks, d, x3, x4, x5, x6, x7, x8⟩ := C
 obtain ⟨aA, aC, dA, dC, uA, uC, kA, kC⟩ := a
 have hs := h.via
 dsimp only at hs ⊢
 clear h
 have BA := hid ((Below.refl w.heap.size w).alloc (Nat.le_refl _) (.cells #[.string tx, .int .i64 n, .int .i64 tg, .bool th, .string via, .slice aA al.length aC, .slice dA dn.length dC, .slice uA us.length uC, .slice kA ks.length kC, .int .i64 d, .int .i64 x3, .int .i64 x4, .int .i64 x5, .int .i64 x6, .int .i64 x7, .int .i64 x8] 30))
 have X0 := hid (blk_new w [.string tx, .int .i64 n, .int .i64 tg, .bool th, .string via, .slice aA al.length aC, .slice dA dn.length dC, .slice uA us.length uC, .slice kA ks.length kC, .int .i64 d, .int .i64 x3, .int .i64 x4, .int .i64 x5, .int .i64 x6, .int .i64 x7, .int .i64 x8] 30)
 have HC := hid (show viE n via = if via.size = 0 then 0 else if n = 3 then (if I.mkd 64 (bys via) = true then 0 else 3) else 1 from rfl)
 have HS := hid hs
 generalize viE n via = r at HC ⊢
 clear hs
 have y1 := X0.out.cell (i := 1) rfl
 have y4 := X0.out.cell (i := 4) rfl
 show Calls Tryz.prog 162 #[.int .i64 k, .agg #[.string tx, .int .i64 n, .int .i64 tg, .bool th, .string via, .slice aA al.length aC, .slice dA dn.length dC, .slice uA us.length uC, .slice kA ks.length kC, .int .i64 d, .int .i64 x3, .int .i64 x4, .int .i64 x5, .int .i64 x6, .int .i64 x7, .int .i64 x8]] w _
 by_cases h0 : via.size = 0
 ·have z1 := em_yes h0
  have HE := hid (HC.out.trans (if_pos h0))
  clear HC
  (try clear ht); (try clear h0); (try clear h2); (try clear h3); (try clear m1); (try clear m2); (try clear m6); (try clear hk); (try clear hk2)
  go_enter Tryz.func162, Tryz.ntmps162
  go_wp2
  all_goals go_ret
  all_goals exact ⟨ret_i HE.out, BA.out⟩
 ·have z1 := em_no h0
  by_cases h3 : n = 3
  ·have hq : (n == 3) = true := by simpa using h3
   rcases hm : I.mkd 64 (bys via) with _ | _
   ·have HQ := hid hm
    have HE := hid (HC.out.trans ((if_neg h0).trans ((if_pos h3).trans (if_neg (by rw [hm]; simp)))))
    clear HC hm
    (try clear ht); (try clear h0); (try clear h3)
    go_enter Tryz.func162, Tryz.ntmps162
    go_wp2_with (first | (go_at_call 91; (with_reducible refine (user_no via HS.out HQ.out _).mono ?_); rintro e w1 ⟨rfl, hb⟩; have B1 := hid (BA.out.trans (hb.mono BA.out.size)); clear hb) | fail)
    all_goals go_ret
    all_goals exact ⟨ret_i HE.out, B1.out⟩
   ·have HQ := hid hm
    have HE := hid (HC.out.trans ((if_neg h0).trans ((if_pos h3).trans (if_pos hm))))
    clear HC hm
    (try clear ht); (try clear h0); (try clear h3)
    go_enter Tryz.func162, Tryz.ntmps162
    go_wp2_with (first | (go_at_call 91; (with_reducible refine (user_ok via HS.out HQ.out _).mono ?_); rintro e w1 ⟨rfl, hb⟩; have B1 := hid (BA.out.trans (hb.mono BA.out.size)); clear hb) | fail)
    all_goals go_ret
    all_goals exact ⟨ret_i HE.out, B1.out⟩
  ·have hq : (n == 3) = false := by simpa using h3
   have HE := hid (HC.out.trans ((if_neg h0).trans (if_neg h3)))
   clear HC
   (try clear ht); (try clear h0); (try clear h2); (try clear h3); (try clear m1); (try clear m2); (try clear m6); (try clear hk); (try clear hk2)
   go_enter Tryz.func162, Tryz.ntmps162
   go_wp2
   all_goals go_ret
   all_goals exact ⟨ret_i HE.out, BA.out⟩
set_option maxHeartbeats 4000000 in
theorem target91 (k : Int) (C : Cn) (a : Ads) (w : World) (h : IsC w C a) : Calls Tryz.prog 156 #[.int .i64 k, .agg (ccs C a).toArray] w fun e w' => e = .returned (.int .i64 (tgE k C.tg)) ∧ Below w.heap.size w w' := by
 obtain ⟨tx, n, tg, th, via, al, dn, us, ks, d, x3, x4, x5, x6, x7, x8⟩ := C
 obtain ⟨aA, aC, dA, dC, uA, uC, kA, kC⟩ := a
 have htg := h.tg
 dsimp only at htg ⊢
 clear h
 have BA := hid ((Below.refl w.heap.size w).alloc (Nat.le_refl _) (.cells #[.string tx, .int .i64 n, .int .i64 tg, .bool th, .string via, .slice aA al.length aC, .slice dA dn.length dC, .slice uA us.length uC, .slice kA ks.length kC, .int .i64 d, .int .i64 x3, .int .i64 x4, .int .i64 x5, .int .i64 x6, .int .i64 x7, .int .i64 x8] 30))
 have X0 := hid (blk_new w [.string tx, .int .i64 n, .int .i64 tg, .bool th, .string via, .slice aA al.length aC, .slice dA dn.length dC, .slice uA us.length uC, .slice kA ks.length kC, .int .i64 d, .int .i64 x3, .int .i64 x4, .int .i64 x5, .int .i64 x6, .int .i64 x7, .int .i64 x8] 30)
 have HC := hid (show tgE k tg = if tg < 0 ∨ (tg = 0 ∧ ¬ k = 11) then 2 else 0 from rfl)
 generalize tgE k tg = r at HC ⊢
 have y2 := X0.out.cell (i := 2) rfl
 show Calls Tryz.prog 156 #[.int .i64 k, .agg #[.string tx, .int .i64 n, .int .i64 tg, .bool th, .string via, .slice aA al.length aC, .slice dA dn.length dC, .slice uA us.length uC, .slice kA ks.length kC, .int .i64 d, .int .i64 x3, .int .i64 x4, .int .i64 x5, .int .i64 x6, .int .i64 x7, .int .i64 x8]] w _
 by_cases h1 : tg < 0
 ·have d1 : decide (tg < 0) = true := decide_eq_true h1
  have HE := hid (HC.out.trans (if_pos (.inl h1)))
  clear HC
  (try clear ht); (try clear h0); (try clear h2); (try clear h3); (try clear m1); (try clear m2); (try clear m6); (try clear hk); (try clear hk2)
  go_enter Tryz.func156, Tryz.ntmps156
  go_wp2
  all_goals go_ret
  all_goals exact ⟨ret_i HE.out, BA.out⟩
 ·have d1 : decide (tg < 0) = false := decide_eq_false h1
  by_cases h2 : tg = 0
  ·have hq2 : (tg == 0) = true := by simpa using h2
   by_cases h3 : k = 11
   ·have hq3 : (k == 11) = true := by simpa using h3
    have HE := hid (HC.out.trans (if_neg (fun q => q.elim h1 (fun q => q.2 h3))))
    clear HC
    (try clear ht); (try clear h0); (try clear h2); (try clear h3); (try clear m1); (try clear m2); (try clear m6); (try clear hk); (try clear hk2)
    go_enter Tryz.func156, Tryz.ntmps156
    go_wp2
    all_goals go_ret
    all_goals exact ⟨ret_i HE.out, BA.out⟩
   ·have hq3 : (k == 11) = false := by simpa using h3
    have HE := hid (HC.out.trans (if_pos (.inr ⟨h2, h3⟩)))
    clear HC
    (try clear ht); (try clear h0); (try clear h2); (try clear h3); (try clear m1); (try clear m2); (try clear m6); (try clear hk); (try clear hk2)
    go_enter Tryz.func156, Tryz.ntmps156
    go_wp2
    all_goals go_ret
    all_goals exact ⟨ret_i HE.out, BA.out⟩
  ·have hq2 : (tg == 0) = false := by simpa using h2
   have HE := hid (HC.out.trans (if_neg (fun q => q.elim h1 (fun q => h2 q.1))))
   clear HC
   (try clear ht); (try clear h0); (try clear h2); (try clear h3); (try clear m1); (try clear m2); (try clear m6); (try clear hk); (try clear hk2)
   go_enter Tryz.func156, Tryz.ntmps156
   go_wp2
   all_goals go_ret
   all_goals exact ⟨ret_i HE.out, BA.out⟩
set_option maxHeartbeats 4000000 in
theorem number88 (k : Int) (C : Cn) (a : Ads) (w : World) (h : IsC w C a) : Calls Tryz.prog 153 #[.int .i64 k, .agg (ccs C a).toArray] w fun e w' => e = .returned (.int .i64 (nmE k C.n)) ∧ Below w.heap.size w w' := by
 obtain ⟨tx, n, tg, th, via, al, dn, us, ks, d, x3, x4, x5, x6, x7, x8⟩ := C
 obtain ⟨aA, aC, dA, dC, uA, uC, kA, kC⟩ := a
 dsimp only
 clear h
 have BA := hid ((Below.refl w.heap.size w).alloc (Nat.le_refl _) (.cells #[.string tx, .int .i64 n, .int .i64 tg, .bool th, .string via, .slice aA al.length aC, .slice dA dn.length dC, .slice uA us.length uC, .slice kA ks.length kC, .int .i64 d, .int .i64 x3, .int .i64 x4, .int .i64 x5, .int .i64 x6, .int .i64 x7, .int .i64 x8] 30))
 have X0 := hid (blk_new w [.string tx, .int .i64 n, .int .i64 tg, .bool th, .string via, .slice aA al.length aC, .slice dA dn.length dC, .slice uA us.length uC, .slice kA ks.length kC, .int .i64 d, .int .i64 x3, .int .i64 x4, .int .i64 x5, .int .i64 x6, .int .i64 x7, .int .i64 x8] 30)
 have HC := hid (show nmE k n = if k = 2 then wiE n 0 4 else if k = 4 then wiE n 0 3 else if k = 5 then wiE n 0 3 else if k = 8 then wiE n 0 1000000000 else if k = 10 then wiE n 1 10000 else if n = 1 ∨ n = 2 ∨ n = 6 then 0 else 2 from rfl)
 generalize nmE k n = r at HC ⊢
 have y1 := X0.out.cell (i := 1) rfl
 show Calls Tryz.prog 153 #[.int .i64 k, .agg #[.string tx, .int .i64 n, .int .i64 tg, .bool th, .string via, .slice aA al.length aC, .slice dA dn.length dC, .slice uA us.length uC, .slice kA ks.length kC, .int .i64 d, .int .i64 x3, .int .i64 x4, .int .i64 x5, .int .i64 x6, .int .i64 x7, .int .i64 x8]] w _
 by_cases h2 : k = 2
 ·have e2 : (k == 2) = true := by simpa using h2
  have HE := hid (HC.out.trans (if_pos h2))
  clear HC
  (try clear ht); (try clear h0); (try clear h2); (try clear h3); (try clear m1); (try clear m2); (try clear m6); (try clear hk); (try clear hk2)
  go_enter Tryz.func153, Tryz.ntmps153
  go_wp2_with (first | (go_at_call 199; (with_reducible refine (within115 _ _ _ _).mono ?_); rintro e w1 ⟨rfl, rfl⟩) | fail)
  all_goals go_ret
  all_goals exact ⟨ret_i HE.out, BA.out⟩
 ·have e2 : (k == 2) = false := by simpa using h2
  by_cases h4 : k = 4
  ·have e4 : (k == 4) = true := by simpa using h4
   have HE := hid (HC.out.trans ((if_neg h2).trans (if_pos h4)))
   clear HC
   (try clear ht); (try clear h0); (try clear h2); (try clear h3); (try clear m1); (try clear m2); (try clear m6); (try clear hk); (try clear hk2)
   go_enter Tryz.func153, Tryz.ntmps153
   go_wp2_with (first | (go_at_call 199; (with_reducible refine (within115 _ _ _ _).mono ?_); rintro e w1 ⟨rfl, rfl⟩) | fail)
   all_goals go_ret
   all_goals exact ⟨ret_i HE.out, BA.out⟩
  ·have e4 : (k == 4) = false := by simpa using h4
   by_cases h5 : k = 5
   ·have e5 : (k == 5) = true := by simpa using h5
    have HE := hid (HC.out.trans ((if_neg h2).trans ((if_neg h4).trans (if_pos h5))))
    clear HC
    (try clear ht); (try clear h0); (try clear h2); (try clear h3); (try clear m1); (try clear m2); (try clear m6); (try clear hk); (try clear hk2)
    go_enter Tryz.func153, Tryz.ntmps153
    go_wp2_with (first | (go_at_call 199; (with_reducible refine (within115 _ _ _ _).mono ?_); rintro e w1 ⟨rfl, rfl⟩) | fail)
    all_goals go_ret
    all_goals exact ⟨ret_i HE.out, BA.out⟩
   ·have e5 : (k == 5) = false := by simpa using h5
    by_cases h8 : k = 8
    ·have e8 : (k == 8) = true := by simpa using h8
     have HE := hid (HC.out.trans ((if_neg h2).trans ((if_neg h4).trans ((if_neg h5).trans (if_pos h8)))))
     clear HC
     (try clear ht); (try clear h0); (try clear h2); (try clear h3); (try clear m1); (try clear m2); (try clear m6); (try clear hk); (try clear hk2)
     go_enter Tryz.func153, Tryz.ntmps153
     go_wp2_with (first | (go_at_call 199; (with_reducible refine (within115 _ _ _ _).mono ?_); rintro e w1 ⟨rfl, rfl⟩) | fail)
     all_goals go_ret
     all_goals exact ⟨ret_i HE.out, BA.out⟩
    ·have e8 : (k == 8) = false := by simpa using h8
     by_cases h10 : k = 10
     ·have e10 : (k == 10) = true := by simpa using h10
      have HE := hid (HC.out.trans ((if_neg h2).trans ((if_neg h4).trans ((if_neg h5).trans ((if_neg h8).trans (if_pos h10))))))
      clear HC
      (try clear ht); (try clear h0); (try clear h2); (try clear h3); (try clear m1); (try clear m2); (try clear m6); (try clear hk); (try clear hk2)
      go_enter Tryz.func153, Tryz.ntmps153
      go_wp2_with (first | (go_at_call 199; (with_reducible refine (within115 _ _ _ _).mono ?_); rintro e w1 ⟨rfl, rfl⟩) | fail)
      all_goals go_ret
      all_goals exact ⟨ret_i HE.out, BA.out⟩
     ·have e10 : (k == 10) = false := by simpa using h10
      by_cases m1 : n = 1
      ·have p1 : (n == 1) = true := by simpa using m1
       have HE := hid (HC.out.trans ((if_neg h2).trans ((if_neg h4).trans ((if_neg h5).trans ((if_neg h8).trans ((if_neg h10).trans (if_pos (.inl m1))))))))
       clear HC
       (try clear ht); (try clear h0); (try clear h2); (try clear h3); (try clear m1); (try clear m2); (try clear m6); (try clear hk); (try clear hk2)
       go_enter Tryz.func153, Tryz.ntmps153
       go_wp2_with (first | (go_at_call 199; (with_reducible refine (within115 _ _ _ _).mono ?_); rintro e w1 ⟨rfl, rfl⟩) | fail)
       all_goals go_ret
       all_goals exact ⟨ret_i HE.out, BA.out⟩
      ·have p1 : (n == 1) = false := by simpa using m1
       by_cases m2 : n = 2
       ·have p2 : (n == 2) = true := by simpa using m2
        have HE := hid (HC.out.trans ((if_neg h2).trans ((if_neg h4).trans ((if_neg h5).trans ((if_neg h8).trans ((if_neg h10).trans (if_pos (.inr (.inl m2)))))))))
        clear HC
        (try clear ht); (try clear h0); (try clear h2); (try clear h3); (try clear m1); (try clear m2); (try clear m6); (try clear hk); (try clear hk2)
        go_enter Tryz.func153, Tryz.ntmps153
        go_wp2_with (first | (go_at_call 199; (with_reducible refine (within115 _ _ _ _).mono ?_); rintro e w1 ⟨rfl, rfl⟩) | fail)
        all_goals go_ret
        all_goals exact ⟨ret_i HE.out, BA.out⟩
       ·have p2 : (n == 2) = false := by simpa using m2
        by_cases m6 : n = 6
        ·have p6 : (n == 6) = true := by simpa using m6
         have HE := hid (HC.out.trans ((if_neg h2).trans ((if_neg h4).trans ((if_neg h5).trans ((if_neg h8).trans ((if_neg h10).trans (if_pos (.inr (.inr m6)))))))))
         clear HC
         (try clear ht); (try clear h0); (try clear h2); (try clear h3); (try clear m1); (try clear m2); (try clear m6); (try clear hk); (try clear hk2)
         go_enter Tryz.func153, Tryz.ntmps153
         go_wp2_with (first | (go_at_call 199; (with_reducible refine (within115 _ _ _ _).mono ?_); rintro e w1 ⟨rfl, rfl⟩) | fail)
         all_goals go_ret
         all_goals exact ⟨ret_i HE.out, BA.out⟩
        ·have p6 : (n == 6) = false := by simpa using m6
         have HE := hid (HC.out.trans ((if_neg h2).trans ((if_neg h4).trans ((if_neg h5).trans ((if_neg h8).trans ((if_neg h10).trans (if_neg (fun q => q.elim m1 (fun q => q.elim m2 m6)))))))))
         clear HC
         (try clear ht); (try clear h0); (try clear h2); (try clear h3); (try clear m1); (try clear m2); (try clear m6); (try clear hk); (try clear hk2)
         go_enter Tryz.func153, Tryz.ntmps153
         go_wp2_with (first | (go_at_call 199; (with_reducible refine (within115 _ _ _ _).mono ?_); rintro e w1 ⟨rfl, rfl⟩) | fail)
         all_goals go_ret
         all_goals exact ⟨ret_i HE.out, BA.out⟩
set_option maxHeartbeats 4000000 in
theorem allow101 (k : Int) (C : Cn) (a : Ads) (w : World) (h : IsC w C a) : Calls Tryz.prog 166 #[.int .i64 k, .agg (ccs C a).toArray] w fun e w' => e = .returned (.int .i64 (alE k C.n C.al)) ∧ Below w.heap.size w w' := by
 obtain ⟨tx, n, tg, th, via, al, dn, us, ks, d, x3, x4, x5, x6, x7, x8⟩ := C
 obtain ⟨aA, aC, dA, dC, uA, uC, kA, kC⟩ := a
 have hA := hid h.al
 have HH := hid h
 dsimp only at hA ⊢
 clear h
 have BA := hid ((Below.refl w.heap.size w).alloc (Nat.le_refl _) (.cells #[.string tx, .int .i64 n, .int .i64 tg, .bool th, .string via, .slice aA al.length aC, .slice dA dn.length dC, .slice uA us.length uC, .slice kA ks.length kC, .int .i64 d, .int .i64 x3, .int .i64 x4, .int .i64 x5, .int .i64 x6, .int .i64 x7, .int .i64 x8] 30))
 have X0 := hid (blk_new w [.string tx, .int .i64 n, .int .i64 tg, .bool th, .string via, .slice aA al.length aC, .slice dA dn.length dC, .slice uA us.length uC, .slice kA ks.length kC, .int .i64 d, .int .i64 x3, .int .i64 x4, .int .i64 x5, .int .i64 x6, .int .i64 x7, .int .i64 x8] 30)
 have HC := hid (show alE k n al = if k = 4 then chkR n al else chkP al from rfl)
 have HR := hid (rooms135 ⟨tx, n, tg, th, via, al, dn, us, ks, d, x3, x4, x5, x6, x7, x8⟩ ⟨aA, aC, dA, dC, uA, uC, kA, kC⟩ (w.alloc (.cells #[.string tx, .int .i64 n, .int .i64 tg, .bool th, .string via, .slice aA al.length aC, .slice dA dn.length dC, .slice uA us.length uC, .slice kA ks.length kC, .int .i64 d, .int .i64 x3, .int .i64 x4, .int .i64 x5, .int .i64 x6, .int .i64 x7, .int .i64 x8] 30)) (HH.out.below BA.out))
 have HP := hid (pats136 aA al.length aC al (w.alloc (.cells #[.string tx, .int .i64 n, .int .i64 tg, .bool th, .string via, .slice aA al.length aC, .slice dA dn.length dC, .slice uA us.length uC, .slice kA ks.length kC, .int .i64 d, .int .i64 x3, .int .i64 x4, .int .i64 x5, .int .i64 x6, .int .i64 x7, .int .i64 x8] 30)) (hA.out.below BA.out))
 dsimp only at HR
 generalize chkR n al = v1 at HC HR
 generalize chkP al = v2 at HC HP
 generalize alE k n al = r at HC ⊢
 have y5 := X0.out.cell (i := 5) rfl
 show Calls Tryz.prog 166 #[.int .i64 k, .agg #[.string tx, .int .i64 n, .int .i64 tg, .bool th, .string via, .slice aA al.length aC, .slice dA dn.length dC, .slice uA us.length uC, .slice kA ks.length kC, .int .i64 d, .int .i64 x3, .int .i64 x4, .int .i64 x5, .int .i64 x6, .int .i64 x7, .int .i64 x8]] w _
 by_cases hk : k = 4
 ·have hq : (k == 4) = true := by simpa using hk
  have HE := hid (HC.out.trans (if_pos hk))
  clear HC
  (try clear ht); (try clear h0); (try clear h2); (try clear h3); (try clear m1); (try clear m2); (try clear m6); (try clear hk); (try clear hk2)
  go_enter Tryz.func166, Tryz.ntmps166
  go_wp2_with (first | (refine wpList_load_mid rfl 30 _ rfl w.heap.size 0 rfl [.string tx, .int .i64 n, .int .i64 tg, .bool th, .string via, .slice aA al.length aC, .slice dA dn.length dC, .slice uA us.length uC, .slice kA ks.length kC, .int .i64 d, .int .i64 x3, .int .i64 x4, .int .i64 x5, .int .i64 x6, .int .i64 x7, .int .i64 x8] _ X0.out.range Tryz.underlying30 rfl size29 ?_) | (go_at_call 200; (with_reducible refine HR.out.mono ?_); rintro e w1 ⟨rfl, hb⟩; have B1 := hid (BA.out.trans (hb.mono BA.out.size)); clear hb) | fail)
  all_goals go_ret
  all_goals exact ⟨ret_i HE.out, B1.out⟩
 ·have hq : (k == 4) = false := by simpa using hk
  have HE := hid (HC.out.trans (if_neg hk))
  clear HC
  (try clear ht); (try clear h0); (try clear h2); (try clear h3); (try clear m1); (try clear m2); (try clear m6); (try clear hk); (try clear hk2)
  go_enter Tryz.func166, Tryz.ntmps166
  go_wp2_with (first | (go_at_call 201; (with_reducible refine HP.out.mono ?_); rintro e w1 ⟨rfl, rfl⟩) | fail)
  all_goals go_ret
  all_goals exact ⟨ret_i HE.out, BA.out⟩
set_option maxHeartbeats 4000000 in
theorem deny104 (k : Int) (C : Cn) (a : Ads) (w : World) (h : IsC w C a) : Calls Tryz.prog 169 #[.int .i64 k, .agg (ccs C a).toArray] w fun e w' => e = .returned (.int .i64 (chkP C.dn)) ∧ Below w.heap.size w w' := by
 obtain ⟨tx, n, tg, th, via, al, dn, us, ks, d, x3, x4, x5, x6, x7, x8⟩ := C
 obtain ⟨aA, aC, dA, dC, uA, uC, kA, kC⟩ := a
 have hA := hid h.dn
 dsimp only at hA ⊢
 clear h
 have BA := hid ((Below.refl w.heap.size w).alloc (Nat.le_refl _) (.cells #[.string tx, .int .i64 n, .int .i64 tg, .bool th, .string via, .slice aA al.length aC, .slice dA dn.length dC, .slice uA us.length uC, .slice kA ks.length kC, .int .i64 d, .int .i64 x3, .int .i64 x4, .int .i64 x5, .int .i64 x6, .int .i64 x7, .int .i64 x8] 30))
 have X0 := hid (blk_new w [.string tx, .int .i64 n, .int .i64 tg, .bool th, .string via, .slice aA al.length aC, .slice dA dn.length dC, .slice uA us.length uC, .slice kA ks.length kC, .int .i64 d, .int .i64 x3, .int .i64 x4, .int .i64 x5, .int .i64 x6, .int .i64 x7, .int .i64 x8] 30)
 have HP := hid (pats136 dA dn.length dC dn (w.alloc (.cells #[.string tx, .int .i64 n, .int .i64 tg, .bool th, .string via, .slice aA al.length aC, .slice dA dn.length dC, .slice uA us.length uC, .slice kA ks.length kC, .int .i64 d, .int .i64 x3, .int .i64 x4, .int .i64 x5, .int .i64 x6, .int .i64 x7, .int .i64 x8] 30)) (hA.out.below BA.out))
 generalize chkP dn = v2 at HP ⊢
 have y6 := X0.out.cell (i := 6) rfl
 show Calls Tryz.prog 169 #[.int .i64 k, .agg #[.string tx, .int .i64 n, .int .i64 tg, .bool th, .string via, .slice aA al.length aC, .slice dA dn.length dC, .slice uA us.length uC, .slice kA ks.length kC, .int .i64 d, .int .i64 x3, .int .i64 x4, .int .i64 x5, .int .i64 x6, .int .i64 x7, .int .i64 x8]] w _
 go_enter Tryz.func169, Tryz.ntmps169
 go_wp2_with (first | (go_at_call 201; (with_reducible refine HP.out.mono ?_); rintro e w1 ⟨rfl, rfl⟩) | fail)
 all_goals go_ret
 all_goals exact ⟨rfl, BA.out⟩
set_option maxHeartbeats 4000000 in
theorem levels108 (k : Int) (C : Cn) (a : Ads) (w : World) (h : IsC w C a) : Calls Tryz.prog 173 #[.int .i64 k, .agg (ccs C a).toArray] w fun e w' => e = .returned (.int .i64 (chkL C.us C.ks (nmL C.d C.x3 C.x4 C.x5 C.x6 C.x7 C.x8))) ∧ Below w.heap.size w w' := by
 obtain ⟨tx, n, tg, th, via, al, dn, us, ks, d, x3, x4, x5, x6, x7, x8⟩ := C
 obtain ⟨aA, aC, dA, dC, uA, uC, kA, kC⟩ := a
 have hA := hid h.lv
 dsimp only at hA ⊢
 clear h
 have BA := hid ((Below.refl w.heap.size w).alloc (Nat.le_refl _) (.cells #[.string tx, .int .i64 n, .int .i64 tg, .bool th, .string via, .slice aA al.length aC, .slice dA dn.length dC, .slice uA us.length uC, .slice kA ks.length kC, .int .i64 d, .int .i64 x3, .int .i64 x4, .int .i64 x5, .int .i64 x6, .int .i64 x7, .int .i64 x8] 30))
 have X0 := hid (blk_new w [.string tx, .int .i64 n, .int .i64 tg, .bool th, .string via, .slice aA al.length aC, .slice dA dn.length dC, .slice uA us.length uC, .slice kA ks.length kC, .int .i64 d, .int .i64 x3, .int .i64 x4, .int .i64 x5, .int .i64 x6, .int .i64 x7, .int .i64 x8] 30)
 have HP := hid (levels18 us ks d x3 x4 x5 x6 x7 x8 uA uC kA kC (w.alloc (.cells #[.string tx, .int .i64 n, .int .i64 tg, .bool th, .string via, .slice aA al.length aC, .slice dA dn.length dC, .slice uA us.length uC, .slice kA ks.length kC, .int .i64 d, .int .i64 x3, .int .i64 x4, .int .i64 x5, .int .i64 x6, .int .i64 x7, .int .i64 x8] 30)) (hA.out.below BA.out))
 generalize chkL us ks (nmL d x3 x4 x5 x6 x7 x8) = v2 at HP ⊢
 show Calls Tryz.prog 173 #[.int .i64 k, .agg #[.string tx, .int .i64 n, .int .i64 tg, .bool th, .string via, .slice aA al.length aC, .slice dA dn.length dC, .slice uA us.length uC, .slice kA ks.length kC, .int .i64 d, .int .i64 x3, .int .i64 x4, .int .i64 x5, .int .i64 x6, .int .i64 x7, .int .i64 x8]] w _
 go_enter Tryz.func173, Tryz.ntmps173
 go_wp2_with (first | (refine wpList_load_mid rfl 28 _ rfl w.heap.size 7 rfl [.slice uA us.length uC, .slice kA ks.length kC, .int .i64 d, .int .i64 x3, .int .i64 x4, .int .i64 x5, .int .i64 x6, .int .i64 x7, .int .i64 x8] _ (X0.out.mid 7 9) Tryz.underlying28 rfl size27 ?_) | (go_at_call 204; (with_reducible refine HP.out.mono ?_); rintro e w1 ⟨rfl, hb⟩; have B1 := hid (BA.out.trans (hb.mono BA.out.size)); clear hb) | fail)
 all_goals go_ret
 all_goals exact ⟨rfl, B1.out⟩
end Go.Proofs.YtablocpcgknmaaaGreatDoor
