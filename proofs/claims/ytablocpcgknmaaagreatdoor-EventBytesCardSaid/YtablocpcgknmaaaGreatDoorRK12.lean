/- Equality of contents, program and reference. No condition. -/
import Derived.Test.YtablocpcgknmaaaGreatDoorRK11
namespace Go.Proofs.YtablocpcgknmaaaGreatDoor
open Go.Lib (hid)
open Go Go.RowKit
set_option linter.unusedVariables false
set_option linter.unusedSimpArgs false
set_option maxRecDepth 100000

/-- Equal contents. -/
def sameC (C C' : Cn) : Bool := decide (C.tx = C'.tx) && (decide (C.n = C'.n) && (decide (C.tg = C'.tg) && (decide (C.th = C'.th) && (decide (C.via = C'.via) && (decide (C.al = C'.al) && (decide (C.dn = C'.dn) && (sameL C.us C'.us C.ks C'.ks [C.d, C.x3, C.x4, C.x5, C.x6, C.x7, C.x8] [C'.d, C'.x3, C'.x4, C'.x5, C'.x6, C'.x7, C'.x8])))))))
theorem load_mid_g {P : Program} {ops : Array Oper} {rest : List Oper} {op : Oper} {a : Act} {w : World} {Q : Exit → Act → World → Prop} (hw : Region.wanted op (yielded ops a.tmps) = true) (ty : TypeId) (x : Operand) (ho : op.op = .load ty x)
  (b o : Nat) (hx : a.eval x = .pointer (some ⟨b, o, none⟩)) (cs : List Value) (d : TypeDesc) (hc : w.rangeAt b o cs)
  (hu : P.underlying ty = some d) (hd : d.isRow = true) (hi : (P.info? ty).map (·.size) = some cs.length)
  (h : wpList P ops Q rest (a.put op.dst (.agg cs.toArray)) w) : wpList P ops Q (op :: rest) a w :=
 wpList_step fun K hK => by
  rw [if_pos hw]
  exact wp_load_mid ty x ho b o hx cs d hc hu hd hi (hK _ _ h)
set_option maxHeartbeats 16000000 in
theorem same20 (C C' : Cn) (a a' : Ads) (w : World) (h : IsC w C a) (h' : IsC w C' a') : Calls Tryz.prog 84 #[.agg (ccs C a).toArray, .agg (ccs C' a').toArray] w fun e w' => e = .returned (.bool (sameC C C')) ∧ Below w.heap.size w w' := by
 obtain ⟨tx, n, tg, th, via, al, dn, us, ks, d, x3, x4, x5, x6, x7, x8⟩ := C
 obtain ⟨tx', n', tg', th', via', al', dn', us', ks', d', x3', x4', x5', x6', x7', x8'⟩ := C'
 obtain ⟨aA, aC, dA, dC, uA, uC, kA, kC⟩ := a
 obtain ⟨aA', aC', dA', dC', uA', uC', kA', kC'⟩ := a'
 have BA := hid (((Below.refl w.heap.size w).alloc (Nat.le_refl _) (.cells #[.string tx, .int .i64 n, .int .i64 tg, .bool th, .string via, .slice aA al.length aC, .slice dA dn.length dC, .slice uA us.length uC, .slice kA ks.length kC, .int .i64 d, .int .i64 x3, .int .i64 x4, .int .i64 x5, .int .i64 x6, .int .i64 x7, .int .i64 x8] 30)).alloc (by simp) (.cells #[.string tx', .int .i64 n', .int .i64 tg', .bool th', .string via', .slice aA' al'.length aC', .slice dA' dn'.length dC', .slice uA' us'.length uC', .slice kA' ks'.length kC', .int .i64 d', .int .i64 x3', .int .i64 x4', .int .i64 x5', .int .i64 x6', .int .i64 x7', .int .i64 x8'] 30))
 have X1 := hid ((blk_new w [.string tx, .int .i64 n, .int .i64 tg, .bool th, .string via, .slice aA al.length aC, .slice dA dn.length dC, .slice uA us.length uC, .slice kA ks.length kC, .int .i64 d, .int .i64 x3, .int .i64 x4, .int .i64 x5, .int .i64 x6, .int .i64 x7, .int .i64 x8] 30).alloc (.cells #[.string tx', .int .i64 n', .int .i64 tg', .bool th', .string via', .slice aA' al'.length aC', .slice dA' dn'.length dC', .slice uA' us'.length uC', .slice kA' ks'.length kC', .int .i64 d', .int .i64 x3', .int .i64 x4', .int .i64 x5', .int .i64 x6', .int .i64 x7', .int .i64 x8'] 30))
 have X2 := hid (blk_new2 w (.cells #[.string tx, .int .i64 n, .int .i64 tg, .bool th, .string via, .slice aA al.length aC, .slice dA dn.length dC, .slice uA us.length uC, .slice kA ks.length kC, .int .i64 d, .int .i64 x3, .int .i64 x4, .int .i64 x5, .int .i64 x6, .int .i64 x7, .int .i64 x8] 30) [.string tx', .int .i64 n', .int .i64 tg', .bool th', .string via', .slice aA' al'.length aC', .slice dA' dn'.length dC', .slice uA' us'.length uC', .slice kA' ks'.length kC', .int .i64 d', .int .i64 x3', .int .i64 x4', .int .i64 x5', .int .i64 x6', .int .i64 x7', .int .i64 x8'] 30)
 have HA := hid (fun (q : Bool) (hq : decide (al = al') = q) => equal55 aA al.length aC al aA' al'.length aC' al' _ (h.al.below BA.out) (h'.al.below BA.out) q hq)
 have HD := hid (fun (q : Bool) (hq : decide (dn = dn') = q) y (hb : Below w.heap.size w y) => equal55 dA dn.length dC dn dA' dn'.length dC' dn' y (h.dn.below hb) (h'.dn.below hb) q hq)
 have HLv := hid (fun y (hb : Below w.heap.size w y) => slevels56 us ks d x3 x4 x5 x6 x7 x8 uA uC kA kC us' ks' d' x3' x4' x5' x6' x7' x8' uA' uC' kA' kC' y (h.lv.below hb) (h'.lv.below hb))
 have HC := hid (show sameC ⟨tx, n, tg, th, via, al, dn, us, ks, d, x3, x4, x5, x6, x7, x8⟩ ⟨tx', n', tg', th', via', al', dn', us', ks', d', x3', x4', x5', x6', x7', x8'⟩ = (decide (tx = tx') && (decide (n = n') && (decide (tg = tg') && (decide (th = th') && (decide (via = via') && (decide (al = al') && (decide (dn = dn') && (sameL us us' ks ks' [d, x3, x4, x5, x6, x7, x8] [d', x3', x4', x5', x6', x7', x8'])))))))) from rfl)
 generalize sameC ⟨tx, n, tg, th, via, al, dn, us, ks, d, x3, x4, x5, x6, x7, x8⟩ ⟨tx', n', tg', th', via', al', dn', us', ks', d', x3', x4', x5', x6', x7', x8'⟩ = r at HC ⊢
 clear h h'
 have p0 := X1.out.cell (i := 0) rfl
 have q0 := X2.out.cell (i := 0) rfl
 have p1 := X1.out.cell (i := 1) rfl
 have q1 := X2.out.cell (i := 1) rfl
 have p2 := X1.out.cell (i := 2) rfl
 have q2 := X2.out.cell (i := 2) rfl
 have p3 := X1.out.cell (i := 3) rfl
 have q3 := X2.out.cell (i := 3) rfl
 have p4 := X1.out.cell (i := 4) rfl
 have q4 := X2.out.cell (i := 4) rfl
 have p5 := X1.out.cell (i := 5) rfl
 have q5 := X2.out.cell (i := 5) rfl
 have p6 := X1.out.cell (i := 6) rfl
 have q6 := X2.out.cell (i := 6) rfl
 show Calls Tryz.prog 84 #[.agg #[.string tx, .int .i64 n, .int .i64 tg, .bool th, .string via, .slice aA al.length aC, .slice dA dn.length dC, .slice uA us.length uC, .slice kA ks.length kC, .int .i64 d, .int .i64 x3, .int .i64 x4, .int .i64 x5, .int .i64 x6, .int .i64 x7, .int .i64 x8], .agg #[.string tx', .int .i64 n', .int .i64 tg', .bool th', .string via', .slice aA' al'.length aC', .slice dA' dn'.length dC', .slice uA' us'.length uC', .slice kA' ks'.length kC', .int .i64 d', .int .i64 x3', .int .i64 x4', .int .i64 x5', .int .i64 x6', .int .i64 x7', .int .i64 x8']] w _
 by_cases c0 : tx = tx'
 ·have s0 : (tx.toList == tx'.toList) = true := by rw [c0]; exact beq_self_eq_true _
  have D0 := hid c0
  clear c0
  by_cases c1 : n = n'
  ·subst c1
   by_cases c2 : tg = tg'
   ·subst c2
    by_cases c3 : th = th'
    ·subst c3
     by_cases c4 : via = via'
     ·have s4 : (via.toList == via'.toList) = true := by rw [c4]; exact beq_self_eq_true _
      have D4 := hid c4
      clear c4
      by_cases c5 : al = al'
      ·replace HA := hid (HA.out true (decide_eq_true c5))
       have D5 := hid c5
       clear c5
       by_cases c6 : dn = dn'
       ·replace HD := hid (HD.out true (decide_eq_true c6))
        have D6 := hid c6
        clear c6
        rcases hL : sameL us us' ks ks' [d, x3, x4, x5, x6, x7, x8] [d', x3', x4', x5', x6', x7', x8'] with _ | _
        ·rw [hL] at HLv
         have HE : Hid (r = false) := hid (HC.out.trans (by rw [hL]; simp only [Bool.and_false]))
         clear HC hL
         go_enter Tryz.func84, Tryz.ntmps84
         go_wp2_with (first
          | (go_at_call 140; (with_reducible refine (HA.out).mono ?_); rintro e w1 ⟨rfl, hb⟩; have B1 := hid (BA.out.trans (hb.mono BA.out.size)); have Y1 := hid (X1.out.below hb); have Z1 := hid (X2.out.below hb); clear hb p5 q5 p6 q6; have p6 := Y1.out.cell (i := 6) rfl; have q6 := Z1.out.cell (i := 6) rfl)
          | (go_at_call 140; (with_reducible refine (HD.out _ B1.out).mono ?_); rintro e w2 ⟨rfl, hb⟩; have B2 := hid (B1.out.trans (hb.mono B1.out.size)); have Y2 := hid (Y1.out.below hb); have Z2 := hid (Z1.out.below hb); clear hb p6 q6)
          | (refine load_mid_g (by rfl) 28 _ rfl w.heap.size 7 rfl [.slice uA us.length uC, .slice kA ks.length kC, .int .i64 d, .int .i64 x3, .int .i64 x4, .int .i64 x5, .int .i64 x6, .int .i64 x7, .int .i64 x8] _ (Y2.out.mid 7 9) Tryz.underlying28 rfl size27 ?_)
          | (refine load_mid_g (by rfl) 28 _ rfl (w.heap.size + 1) 7 rfl [.slice uA' us'.length uC', .slice kA' ks'.length kC', .int .i64 d', .int .i64 x3', .int .i64 x4', .int .i64 x5', .int .i64 x6', .int .i64 x7', .int .i64 x8'] _ (Z2.out.mid 7 9) Tryz.underlying28 rfl size27 ?_)
          | (go_at_call 141; (with_reducible refine (HLv.out _ B2.out).mono ?_); rintro e w3 ⟨rfl, hb⟩; have B3 := hid (B2.out.trans (hb.mono B2.out.size)); clear hb)
          | fail)
         go_ret
         exact ⟨ret_b HE.out, B3.out⟩
        ·rw [hL] at HLv
         have HE : Hid (r = true) := hid (HC.out.trans (by rw [hL, decide_eq_true D0.out, decide_eq_true D4.out, decide_eq_true D5.out, decide_eq_true D6.out]; simp only [decide_true, Bool.and_self]))
         clear HC hL
         go_enter Tryz.func84, Tryz.ntmps84
         go_wp2_with (first
          | (go_at_call 140; (with_reducible refine (HA.out).mono ?_); rintro e w1 ⟨rfl, hb⟩; have B1 := hid (BA.out.trans (hb.mono BA.out.size)); have Y1 := hid (X1.out.below hb); have Z1 := hid (X2.out.below hb); clear hb p5 q5 p6 q6; have p6 := Y1.out.cell (i := 6) rfl; have q6 := Z1.out.cell (i := 6) rfl)
          | (go_at_call 140; (with_reducible refine (HD.out _ B1.out).mono ?_); rintro e w2 ⟨rfl, hb⟩; have B2 := hid (B1.out.trans (hb.mono B1.out.size)); have Y2 := hid (Y1.out.below hb); have Z2 := hid (Z1.out.below hb); clear hb p6 q6)
          | (refine load_mid_g (by rfl) 28 _ rfl w.heap.size 7 rfl [.slice uA us.length uC, .slice kA ks.length kC, .int .i64 d, .int .i64 x3, .int .i64 x4, .int .i64 x5, .int .i64 x6, .int .i64 x7, .int .i64 x8] _ (Y2.out.mid 7 9) Tryz.underlying28 rfl size27 ?_)
          | (refine load_mid_g (by rfl) 28 _ rfl (w.heap.size + 1) 7 rfl [.slice uA' us'.length uC', .slice kA' ks'.length kC', .int .i64 d', .int .i64 x3', .int .i64 x4', .int .i64 x5', .int .i64 x6', .int .i64 x7', .int .i64 x8'] _ (Z2.out.mid 7 9) Tryz.underlying28 rfl size27 ?_)
          | (go_at_call 141; (with_reducible refine (HLv.out _ B2.out).mono ?_); rintro e w3 ⟨rfl, hb⟩; have B3 := hid (B2.out.trans (hb.mono B2.out.size)); clear hb)
          | fail)
         go_ret
         exact ⟨ret_b HE.out, B3.out⟩
       ·replace HD := hid (HD.out false (decide_eq_false c6))
        have HE : Hid (r = false) := hid (HC.out.trans (by rw [decide_eq_false c6]; simp only [Bool.false_and, Bool.and_false]))
        clear HC c6
        go_enter Tryz.func84, Tryz.ntmps84
        go_wp2_with (first
         | (go_at_call 140; (with_reducible refine (HA.out).mono ?_); rintro e w1 ⟨rfl, hb⟩; have B1 := hid (BA.out.trans (hb.mono BA.out.size)); have Y1 := hid (X1.out.below hb); have Z1 := hid (X2.out.below hb); clear hb p5 q5 p6 q6; have p6 := Y1.out.cell (i := 6) rfl; have q6 := Z1.out.cell (i := 6) rfl)
         | (go_at_call 140; (with_reducible refine (HD.out _ B1.out).mono ?_); rintro e w2 ⟨rfl, hb⟩; have B2 := hid (B1.out.trans (hb.mono B1.out.size)); have Y2 := hid (Y1.out.below hb); have Z2 := hid (Z1.out.below hb); clear hb p6 q6)
         | fail)
        go_ret
        exact ⟨ret_b HE.out, B2.out⟩
      ·replace HA := hid (HA.out false (decide_eq_false c5))
       have HE : Hid (r = false) := hid (HC.out.trans (by rw [decide_eq_false c5]; simp only [Bool.false_and, Bool.and_false]))
       clear HC c5
       go_enter Tryz.func84, Tryz.ntmps84
       go_wp2_with (first
        | (go_at_call 140; (with_reducible refine (HA.out).mono ?_); rintro e w1 ⟨rfl, hb⟩; have B1 := hid (BA.out.trans (hb.mono BA.out.size)); have Y1 := hid (X1.out.below hb); have Z1 := hid (X2.out.below hb); clear hb p5 q5 p6 q6; have p6 := Y1.out.cell (i := 6) rfl; have q6 := Z1.out.cell (i := 6) rfl)
        | fail)
       go_ret
       exact ⟨ret_b HE.out, B1.out⟩
     ·have s4 : (via.toList == via'.toList) = false := beq_eq_false_iff_ne.2 (fun e => c4 (eq_of_toList e))
      have HE : Hid (r = false) := hid (HC.out.trans (by rw [decide_eq_false c4]; simp only [Bool.false_and, Bool.and_false]))
      clear HC c4
      go_enter Tryz.func84, Tryz.ntmps84
      go_wp2
      go_ret
      exact ⟨ret_b HE.out, BA.out⟩
    ·have s3 : (th == th') = false := by simpa using c3
     have HE : Hid (r = false) := hid (HC.out.trans (by rw [decide_eq_false c3]; simp only [Bool.false_and, Bool.and_false]))
     clear HC c3
     go_enter Tryz.func84, Tryz.ntmps84
     go_wp2
     go_ret
     exact ⟨ret_b HE.out, BA.out⟩
   ·have s2 : (tg == tg') = false := by simpa using c2
    have HE : Hid (r = false) := hid (HC.out.trans (by rw [decide_eq_false c2]; simp only [Bool.false_and, Bool.and_false]))
    clear HC c2
    go_enter Tryz.func84, Tryz.ntmps84
    go_wp2
    go_ret
    exact ⟨ret_b HE.out, BA.out⟩
  ·have s1 : (n == n') = false := by simpa using c1
   have HE : Hid (r = false) := hid (HC.out.trans (by rw [decide_eq_false c1]; simp only [Bool.false_and, Bool.and_false]))
   clear HC c1
   go_enter Tryz.func84, Tryz.ntmps84
   go_wp2
   go_ret
   exact ⟨ret_b HE.out, BA.out⟩
 ·have s0 : (tx.toList == tx'.toList) = false := beq_eq_false_iff_ne.2 (fun e => c0 (eq_of_toList e))
  have HE : Hid (r = false) := hid (HC.out.trans (by rw [decide_eq_false c0]; simp only [Bool.false_and, Bool.and_false]))
  clear HC c0
  go_enter Tryz.func84, Tryz.ntmps84
  go_wp2
  go_ret
  exact ⟨ret_b HE.out, BA.out⟩
set_option maxHeartbeats 16000000 in
theorem same23 (C C' : Cn) (a a' : Ads) (w : World) (h : IsC w C a) (h' : IsC w C' a') : Calls Tryz.prog 35 #[.agg (ccs C a).toArray, .agg (ccs C' a').toArray] w fun e w' => e = .returned (.bool (sameC C C')) ∧ Below w.heap.size w w' := by
 obtain ⟨tx, n, tg, th, via, al, dn, us, ks, d, x3, x4, x5, x6, x7, x8⟩ := C
 obtain ⟨tx', n', tg', th', via', al', dn', us', ks', d', x3', x4', x5', x6', x7', x8'⟩ := C'
 obtain ⟨aA, aC, dA, dC, uA, uC, kA, kC⟩ := a
 obtain ⟨aA', aC', dA', dC', uA', uC', kA', kC'⟩ := a'
 have BA := hid (((Below.refl w.heap.size w).alloc (Nat.le_refl _) (.cells #[.string tx, .int .i64 n, .int .i64 tg, .bool th, .string via, .slice aA al.length aC, .slice dA dn.length dC, .slice uA us.length uC, .slice kA ks.length kC, .int .i64 d, .int .i64 x3, .int .i64 x4, .int .i64 x5, .int .i64 x6, .int .i64 x7, .int .i64 x8] 30)).alloc (by simp) (.cells #[.string tx', .int .i64 n', .int .i64 tg', .bool th', .string via', .slice aA' al'.length aC', .slice dA' dn'.length dC', .slice uA' us'.length uC', .slice kA' ks'.length kC', .int .i64 d', .int .i64 x3', .int .i64 x4', .int .i64 x5', .int .i64 x6', .int .i64 x7', .int .i64 x8'] 30))
 have X1 := hid ((blk_new w [.string tx, .int .i64 n, .int .i64 tg, .bool th, .string via, .slice aA al.length aC, .slice dA dn.length dC, .slice uA us.length uC, .slice kA ks.length kC, .int .i64 d, .int .i64 x3, .int .i64 x4, .int .i64 x5, .int .i64 x6, .int .i64 x7, .int .i64 x8] 30).alloc (.cells #[.string tx', .int .i64 n', .int .i64 tg', .bool th', .string via', .slice aA' al'.length aC', .slice dA' dn'.length dC', .slice uA' us'.length uC', .slice kA' ks'.length kC', .int .i64 d', .int .i64 x3', .int .i64 x4', .int .i64 x5', .int .i64 x6', .int .i64 x7', .int .i64 x8'] 30))
 have X2 := hid (blk_new2 w (.cells #[.string tx, .int .i64 n, .int .i64 tg, .bool th, .string via, .slice aA al.length aC, .slice dA dn.length dC, .slice uA us.length uC, .slice kA ks.length kC, .int .i64 d, .int .i64 x3, .int .i64 x4, .int .i64 x5, .int .i64 x6, .int .i64 x7, .int .i64 x8] 30) [.string tx', .int .i64 n', .int .i64 tg', .bool th', .string via', .slice aA' al'.length aC', .slice dA' dn'.length dC', .slice uA' us'.length uC', .slice kA' ks'.length kC', .int .i64 d', .int .i64 x3', .int .i64 x4', .int .i64 x5', .int .i64 x6', .int .i64 x7', .int .i64 x8'] 30)
 have HA := hid (fun (q : Bool) (hq : decide (al = al') = q) => same24 aA al.length aC al aA' al'.length aC' al' _ (h.al.below BA.out) (h'.al.below BA.out) q hq)
 have HD := hid (fun (q : Bool) (hq : decide (dn = dn') = q) y (hb : Below w.heap.size w y) => same24 dA dn.length dC dn dA' dn'.length dC' dn' y (h.dn.below hb) (h'.dn.below hb) q hq)
 have HLv := hid (fun y (hb : Below w.heap.size w y) => rsame57 us ks d x3 x4 x5 x6 x7 x8 uA uC kA kC us' ks' d' x3' x4' x5' x6' x7' x8' uA' uC' kA' kC' y (h.lv.below hb) (h'.lv.below hb))
 have HC := hid (show sameC ⟨tx, n, tg, th, via, al, dn, us, ks, d, x3, x4, x5, x6, x7, x8⟩ ⟨tx', n', tg', th', via', al', dn', us', ks', d', x3', x4', x5', x6', x7', x8'⟩ = (decide (tx = tx') && (decide (n = n') && (decide (tg = tg') && (decide (th = th') && (decide (via = via') && (decide (al = al') && (decide (dn = dn') && (sameL us us' ks ks' [d, x3, x4, x5, x6, x7, x8] [d', x3', x4', x5', x6', x7', x8'])))))))) from rfl)
 generalize sameC ⟨tx, n, tg, th, via, al, dn, us, ks, d, x3, x4, x5, x6, x7, x8⟩ ⟨tx', n', tg', th', via', al', dn', us', ks', d', x3', x4', x5', x6', x7', x8'⟩ = r at HC ⊢
 clear h h'
 have p0 := X1.out.cell (i := 0) rfl
 have q0 := X2.out.cell (i := 0) rfl
 have p1 := X1.out.cell (i := 1) rfl
 have q1 := X2.out.cell (i := 1) rfl
 have p2 := X1.out.cell (i := 2) rfl
 have q2 := X2.out.cell (i := 2) rfl
 have p3 := X1.out.cell (i := 3) rfl
 have q3 := X2.out.cell (i := 3) rfl
 have p4 := X1.out.cell (i := 4) rfl
 have q4 := X2.out.cell (i := 4) rfl
 have p5 := X1.out.cell (i := 5) rfl
 have q5 := X2.out.cell (i := 5) rfl
 have p6 := X1.out.cell (i := 6) rfl
 have q6 := X2.out.cell (i := 6) rfl
 show Calls Tryz.prog 35 #[.agg #[.string tx, .int .i64 n, .int .i64 tg, .bool th, .string via, .slice aA al.length aC, .slice dA dn.length dC, .slice uA us.length uC, .slice kA ks.length kC, .int .i64 d, .int .i64 x3, .int .i64 x4, .int .i64 x5, .int .i64 x6, .int .i64 x7, .int .i64 x8], .agg #[.string tx', .int .i64 n', .int .i64 tg', .bool th', .string via', .slice aA' al'.length aC', .slice dA' dn'.length dC', .slice uA' us'.length uC', .slice kA' ks'.length kC', .int .i64 d', .int .i64 x3', .int .i64 x4', .int .i64 x5', .int .i64 x6', .int .i64 x7', .int .i64 x8']] w _
 by_cases c0 : tx = tx'
 ·have s0 : (tx.toList == tx'.toList) = true := by rw [c0]; exact beq_self_eq_true _
  have D0 := hid c0
  clear c0
  by_cases c1 : n = n'
  ·subst c1
   by_cases c2 : tg = tg'
   ·subst c2
    by_cases c3 : th = th'
    ·subst c3
     by_cases c4 : via = via'
     ·have s4 : (via.toList == via'.toList) = true := by rw [c4]; exact beq_self_eq_true _
      have D4 := hid c4
      clear c4
      by_cases c5 : al = al'
      ·replace HA := hid (HA.out true (decide_eq_true c5))
       have D5 := hid c5
       clear c5
       by_cases c6 : dn = dn'
       ·replace HD := hid (HD.out true (decide_eq_true c6))
        have D6 := hid c6
        clear c6
        rcases hL : sameL us us' ks ks' [d, x3, x4, x5, x6, x7, x8] [d', x3', x4', x5', x6', x7', x8'] with _ | _
        ·rw [hL] at HLv
         have HE : Hid (r = false) := hid (HC.out.trans (by rw [hL]; simp only [Bool.and_false]))
         clear HC hL
         go_enter Tryz.func35, Tryz.ntmps35
         go_wp2_with (first
          | (go_at_call 59; (with_reducible refine (HA.out).mono ?_); rintro e w1 ⟨rfl, hb⟩; have B1 := hid (BA.out.trans (hb.mono BA.out.size)); have Y1 := hid (X1.out.below hb); have Z1 := hid (X2.out.below hb); clear hb p5 q5 p6 q6; have p6 := Y1.out.cell (i := 6) rfl; have q6 := Z1.out.cell (i := 6) rfl)
          | (go_at_call 59; (with_reducible refine (HD.out _ B1.out).mono ?_); rintro e w2 ⟨rfl, hb⟩; have B2 := hid (B1.out.trans (hb.mono B1.out.size)); have Y2 := hid (Y1.out.below hb); have Z2 := hid (Z1.out.below hb); clear hb p6 q6)
          | (refine load_mid_g (by rfl) 28 _ rfl w.heap.size 7 rfl [.slice uA us.length uC, .slice kA ks.length kC, .int .i64 d, .int .i64 x3, .int .i64 x4, .int .i64 x5, .int .i64 x6, .int .i64 x7, .int .i64 x8] _ (Y2.out.mid 7 9) Tryz.underlying28 rfl size27 ?_)
          | (refine load_mid_g (by rfl) 28 _ rfl (w.heap.size + 1) 7 rfl [.slice uA' us'.length uC', .slice kA' ks'.length kC', .int .i64 d', .int .i64 x3', .int .i64 x4', .int .i64 x5', .int .i64 x6', .int .i64 x7', .int .i64 x8'] _ (Z2.out.mid 7 9) Tryz.underlying28 rfl size27 ?_)
          | (go_at_call 60; (with_reducible refine (HLv.out _ B2.out).mono ?_); rintro e w3 ⟨rfl, hb⟩; have B3 := hid (B2.out.trans (hb.mono B2.out.size)); clear hb)
          | fail)
         go_ret
         exact ⟨ret_b HE.out, B3.out⟩
        ·rw [hL] at HLv
         have HE : Hid (r = true) := hid (HC.out.trans (by rw [hL, decide_eq_true D0.out, decide_eq_true D4.out, decide_eq_true D5.out, decide_eq_true D6.out]; simp only [decide_true, Bool.and_self]))
         clear HC hL
         go_enter Tryz.func35, Tryz.ntmps35
         go_wp2_with (first
          | (go_at_call 59; (with_reducible refine (HA.out).mono ?_); rintro e w1 ⟨rfl, hb⟩; have B1 := hid (BA.out.trans (hb.mono BA.out.size)); have Y1 := hid (X1.out.below hb); have Z1 := hid (X2.out.below hb); clear hb p5 q5 p6 q6; have p6 := Y1.out.cell (i := 6) rfl; have q6 := Z1.out.cell (i := 6) rfl)
          | (go_at_call 59; (with_reducible refine (HD.out _ B1.out).mono ?_); rintro e w2 ⟨rfl, hb⟩; have B2 := hid (B1.out.trans (hb.mono B1.out.size)); have Y2 := hid (Y1.out.below hb); have Z2 := hid (Z1.out.below hb); clear hb p6 q6)
          | (refine load_mid_g (by rfl) 28 _ rfl w.heap.size 7 rfl [.slice uA us.length uC, .slice kA ks.length kC, .int .i64 d, .int .i64 x3, .int .i64 x4, .int .i64 x5, .int .i64 x6, .int .i64 x7, .int .i64 x8] _ (Y2.out.mid 7 9) Tryz.underlying28 rfl size27 ?_)
          | (refine load_mid_g (by rfl) 28 _ rfl (w.heap.size + 1) 7 rfl [.slice uA' us'.length uC', .slice kA' ks'.length kC', .int .i64 d', .int .i64 x3', .int .i64 x4', .int .i64 x5', .int .i64 x6', .int .i64 x7', .int .i64 x8'] _ (Z2.out.mid 7 9) Tryz.underlying28 rfl size27 ?_)
          | (go_at_call 60; (with_reducible refine (HLv.out _ B2.out).mono ?_); rintro e w3 ⟨rfl, hb⟩; have B3 := hid (B2.out.trans (hb.mono B2.out.size)); clear hb)
          | fail)
         go_ret
         exact ⟨ret_b HE.out, B3.out⟩
       ·replace HD := hid (HD.out false (decide_eq_false c6))
        have HE : Hid (r = false) := hid (HC.out.trans (by rw [decide_eq_false c6]; simp only [Bool.false_and, Bool.and_false]))
        clear HC c6
        go_enter Tryz.func35, Tryz.ntmps35
        go_wp2_with (first
         | (go_at_call 59; (with_reducible refine (HA.out).mono ?_); rintro e w1 ⟨rfl, hb⟩; have B1 := hid (BA.out.trans (hb.mono BA.out.size)); have Y1 := hid (X1.out.below hb); have Z1 := hid (X2.out.below hb); clear hb p5 q5 p6 q6; have p6 := Y1.out.cell (i := 6) rfl; have q6 := Z1.out.cell (i := 6) rfl)
         | (go_at_call 59; (with_reducible refine (HD.out _ B1.out).mono ?_); rintro e w2 ⟨rfl, hb⟩; have B2 := hid (B1.out.trans (hb.mono B1.out.size)); have Y2 := hid (Y1.out.below hb); have Z2 := hid (Z1.out.below hb); clear hb p6 q6)
         | fail)
        go_ret
        exact ⟨ret_b HE.out, B2.out⟩
      ·replace HA := hid (HA.out false (decide_eq_false c5))
       have HE : Hid (r = false) := hid (HC.out.trans (by rw [decide_eq_false c5]; simp only [Bool.false_and, Bool.and_false]))
       clear HC c5
       go_enter Tryz.func35, Tryz.ntmps35
       go_wp2_with (first
        | (go_at_call 59; (with_reducible refine (HA.out).mono ?_); rintro e w1 ⟨rfl, hb⟩; have B1 := hid (BA.out.trans (hb.mono BA.out.size)); have Y1 := hid (X1.out.below hb); have Z1 := hid (X2.out.below hb); clear hb p5 q5 p6 q6; have p6 := Y1.out.cell (i := 6) rfl; have q6 := Z1.out.cell (i := 6) rfl)
        | fail)
       go_ret
       exact ⟨ret_b HE.out, B1.out⟩
     ·have s4 : (via.toList == via'.toList) = false := beq_eq_false_iff_ne.2 (fun e => c4 (eq_of_toList e))
      have HE : Hid (r = false) := hid (HC.out.trans (by rw [decide_eq_false c4]; simp only [Bool.false_and, Bool.and_false]))
      clear HC c4
      go_enter Tryz.func35, Tryz.ntmps35
      go_wp2
      go_ret
      exact ⟨ret_b HE.out, BA.out⟩
    ·have s3 : (th == th') = false := by simpa using c3
     have HE : Hid (r = false) := hid (HC.out.trans (by rw [decide_eq_false c3]; simp only [Bool.false_and, Bool.and_false]))
     clear HC c3
     go_enter Tryz.func35, Tryz.ntmps35
     go_wp2
     go_ret
     exact ⟨ret_b HE.out, BA.out⟩
   ·have s2 : (tg == tg') = false := by simpa using c2
    have HE : Hid (r = false) := hid (HC.out.trans (by rw [decide_eq_false c2]; simp only [Bool.false_and, Bool.and_false]))
    clear HC c2
    go_enter Tryz.func35, Tryz.ntmps35
    go_wp2
    go_ret
    exact ⟨ret_b HE.out, BA.out⟩
  ·have s1 : (n == n') = false := by simpa using c1
   have HE : Hid (r = false) := hid (HC.out.trans (by rw [decide_eq_false c1]; simp only [Bool.false_and, Bool.and_false]))
   clear HC c1
   go_enter Tryz.func35, Tryz.ntmps35
   go_wp2
   go_ret
   exact ⟨ret_b HE.out, BA.out⟩
 ·have s0 : (tx.toList == tx'.toList) = false := beq_eq_false_iff_ne.2 (fun e => c0 (eq_of_toList e))
  have HE : Hid (r = false) := hid (HC.out.trans (by rw [decide_eq_false c0]; simp only [Bool.false_and, Bool.and_false]))
  clear HC c0
  go_enter Tryz.func35, Tryz.ntmps35
  go_wp2
  go_ret
  exact ⟨ret_b HE.out, BA.out⟩
end Go.Proofs.YtablocpcgknmaaaGreatDoor
