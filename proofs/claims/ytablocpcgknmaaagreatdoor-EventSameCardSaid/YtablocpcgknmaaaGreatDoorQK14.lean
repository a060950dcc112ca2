/- The reference's check of a content. No condition. -/
import Derived.Test.YtablocpcgknmaaaGreatDoorQK7
import Derived.Test.YtablocpcgknmaaaGreatDoorQK13
namespace Go.Proofs.YtablocpcgknmaaaGreatDoor
open Go.Lib (hid)
open Go Go.RowKit
set_option linter.unusedVariables false
set_option linter.unusedSimpArgs false
set_option maxRecDepth 100000

def tgR (k : Int) (tg : Int) (th : Bool) : Int := if hasF (unL k) nTarget = true ∧ (tg < 0 ∨ (tg = 0 ∧ ¬ k = 11)) then 2 else if th = true ∧ tg = 0 then 1 else 0
def c0 : Cn := ⟨⟨#[]⟩, 0, 0, false, ⟨#[]⟩, [], [], [], [], 0, 0, 0, 0, 0, 0, 0⟩
theorem c0_is (w : World) : IsC w c0 ad0 := ⟨Txs.nil w, Txs.nil w, zero_isL w, by decide, by decide, by unfold i64B; decide, by unfold i64B; decide⟩
/-- What the reference's check gives. -/
def rchk (k : Int) (C : Cn) : Int :=
 if kdB k = false then 1 else if onB k C = false then 1 else if baB k = true ∧ sameC C c0 = true then 0 else
  if ¬ txE k C.tx = 0 then txE k C.tx else if ¬ nmR k C.n = 0 then nmR k C.n else if ¬ tgR k C.tg C.th = 0 then tgR k C.tg C.th else if ¬ viE C.n C.via = 0 then viE C.n C.via else
  if k = 4 then chkR C.n C.al else if ¬ chkP C.al = 0 then chkP C.al else if ¬ chkP C.dn = 0 then chkP C.dn else chkL C.us C.ks (nmL C.d C.x3 C.x4 C.x5 C.x6 C.x7 C.x8)
set_option maxHeartbeats 8000000 in
theorem rtarget44 (k : Int) (C : Cn) (a : Ads) (w : World) (h : IsC w C a) : Calls Tryz.prog 108 #[.int .i64 k, .agg (ccs C a).toArray] w fun e w' => e = .returned (.int .i64 (tgR k C.tg C.th)) ∧ Below w.heap.size w w' := by
 obtain ⟨tx, n, tg, th, via, al, dn, us, ks, d, x3, x4, x5, x6, x7, x8⟩ := C
 obtain ⟨aA, aC, dA, dC, uA, uC, kA, kC⟩ := a
 clear h
 have BA := hid ((Below.refl w.heap.size w).alloc (Nat.le_refl _) (.cells #[.string tx, .int .i64 n, .int .i64 tg, .bool th, .string via, .slice aA al.length aC, .slice dA dn.length dC, .slice uA us.length uC, .slice kA ks.length kC, .int .i64 d, .int .i64 x3, .int .i64 x4, .int .i64 x5, .int .i64 x6, .int .i64 x7, .int .i64 x8] 30))
 have X0 := hid (blk_new w [.string tx, .int .i64 n, .int .i64 tg, .bool th, .string via, .slice aA al.length aC, .slice dA dn.length dC, .slice uA us.length uC, .slice kA ks.length kC, .int .i64 d, .int .i64 x3, .int .i64 x4, .int .i64 x5, .int .i64 x6, .int .i64 x7, .int .i64 x8] 30)
 have HC := hid (show tgR k tg th = if hasF (unL k) nTarget = true ∧ (tg < 0 ∨ (tg = 0 ∧ ¬ k = 11)) then 2 else if th = true ∧ tg = 0 then 1 else 0 from rfl)
 have HU := hid (ruses109 k nTarget (w.alloc (.cells #[.string tx, .int .i64 n, .int .i64 tg, .bool th, .string via, .slice aA al.length aC, .slice dA dn.length dC, .slice uA us.length uC, .slice kA ks.length kC, .int .i64 d, .int .i64 x3, .int .i64 x4, .int .i64 x5, .int .i64 x6, .int .i64 x7, .int .i64 x8] 30)))
 dsimp only
 generalize hasF (unL k) nTarget = u at HC HU
 generalize tgR k tg th = r at HC ⊢
 show Calls Tryz.prog 108 #[.int .i64 k, .agg #[.string tx, .int .i64 n, .int .i64 tg, .bool th, .string via, .slice aA al.length aC, .slice dA dn.length dC, .slice uA us.length uC, .slice kA ks.length kC, .int .i64 d, .int .i64 x3, .int .i64 x4, .int .i64 x5, .int .i64 x6, .int .i64 x7, .int .i64 x8]] w _
 cases u with
 | true =>
  by_cases h1 : tg < 0
  ·have d1 : decide (tg < 0) = true := decide_eq_true h1
   have HE := hid (HC.out.trans (if_pos ⟨rfl, .inl h1⟩))
   clear HC
   (try clear h2); (try clear h3)
   go_enter Tryz.func108, Tryz.ntmps108
   go_wp2_with (first
    | (go_at_call 174; (with_reducible refine HU.out.mono ?_); rintro e w1 ⟨rfl, hb⟩; have B1 := hid (BA.out.trans (hb.mono BA.out.size)); have X1 := hid (X0.out.below hb); clear hb; have y2 := X1.out.cell (i := 2) rfl; have y3 := X1.out.cell (i := 3) rfl)
    | fail)
   all_goals go_ret
   all_goals exact ⟨ret_i HE.out, B1.out⟩
  ·have d1 : decide (tg < 0) = false := decide_eq_false h1
   by_cases h2 : tg = 0
   ·have q2 : (tg == 0) = true := by simpa using h2
    by_cases h3 : k = 11
    ·have q3 : (k == 11) = true := by simpa using h3
     have q3b : (k != 11) = false := by simpa using h3
     cases th with
     | true =>
      have HE := hid (HC.out.trans ((if_neg (fun q => q.2.elim h1 (fun q => q.2 h3))).trans (if_pos ⟨rfl, h2⟩)))
      clear HC
      (try clear h2); (try clear h3)
      go_enter Tryz.func108, Tryz.ntmps108
      go_wp2_with (first
       | (go_at_call 174; (with_reducible refine HU.out.mono ?_); rintro e w1 ⟨rfl, hb⟩; have B1 := hid (BA.out.trans (hb.mono BA.out.size)); have X1 := hid (X0.out.below hb); clear hb; have y2 := X1.out.cell (i := 2) rfl; have y3 := X1.out.cell (i := 3) rfl)
       | fail)
      all_goals go_ret
      all_goals exact ⟨ret_i HE.out, B1.out⟩
     | false =>
      have HE := hid (HC.out.trans ((if_neg (fun q => q.2.elim h1 (fun q => q.2 h3))).trans (if_neg (fun q => by cases q.1))))
      clear HC
      (try clear h2); (try clear h3)
      go_enter Tryz.func108, Tryz.ntmps108
      go_wp2_with (first
       | (go_at_call 174; (with_reducible refine HU.out.mono ?_); rintro e w1 ⟨rfl, hb⟩; have B1 := hid (BA.out.trans (hb.mono BA.out.size)); have X1 := hid (X0.out.below hb); clear hb; have y2 := X1.out.cell (i := 2) rfl; have y3 := X1.out.cell (i := 3) rfl)
       | fail)
      all_goals go_ret
      all_goals exact ⟨ret_i HE.out, B1.out⟩
    ·have q3 : (k == 11) = false := by simpa using h3
     have q3b : (k != 11) = true := by simpa using h3
     have HE := hid (HC.out.trans (if_pos ⟨rfl, .inr ⟨h2, h3⟩⟩))
     clear HC
     (try clear h2); (try clear h3)
     go_enter Tryz.func108, Tryz.ntmps108
     go_wp2_with (first
      | (go_at_call 174; (with_reducible refine HU.out.mono ?_); rintro e w1 ⟨rfl, hb⟩; have B1 := hid (BA.out.trans (hb.mono BA.out.size)); have X1 := hid (X0.out.below hb); clear hb; have y2 := X1.out.cell (i := 2) rfl; have y3 := X1.out.cell (i := 3) rfl)
      | fail)
     all_goals go_ret
     all_goals exact ⟨ret_i HE.out, B1.out⟩
   ·have q2 : (tg == 0) = false := by simpa using h2
    cases th with
    | true =>
     have HE := hid (HC.out.trans ((if_neg (fun q => q.2.elim h1 (fun q => h2 q.1))).trans (if_neg (fun q => h2 q.2))))
     clear HC
     (try clear h2); (try clear h3)
     go_enter Tryz.func108, Tryz.ntmps108
     go_wp2_with (first
      | (go_at_call 174; (with_reducible refine HU.out.mono ?_); rintro e w1 ⟨rfl, hb⟩; have B1 := hid (BA.out.trans (hb.mono BA.out.size)); have X1 := hid (X0.out.below hb); clear hb; have y2 := X1.out.cell (i := 2) rfl; have y3 := X1.out.cell (i := 3) rfl)
      | fail)
     all_goals go_ret
     all_goals exact ⟨ret_i HE.out, B1.out⟩
    | false =>
     have HE := hid (HC.out.trans ((if_neg (fun q => q.2.elim h1 (fun q => h2 q.1))).trans (if_neg (fun q => by cases q.1))))
     clear HC
     (try clear h2); (try clear h3)
     go_enter Tryz.func108, Tryz.ntmps108
     go_wp2_with (first
      | (go_at_call 174; (with_reducible refine HU.out.mono ?_); rintro e w1 ⟨rfl, hb⟩; have B1 := hid (BA.out.trans (hb.mono BA.out.size)); have X1 := hid (X0.out.below hb); clear hb; have y2 := X1.out.cell (i := 2) rfl; have y3 := X1.out.cell (i := 3) rfl)
      | fail)
     all_goals go_ret
     all_goals exact ⟨ret_i HE.out, B1.out⟩
 | false =>
  by_cases h2 : tg = 0
  ·have q2 : (tg == 0) = true := by simpa using h2
   cases th with
   | true =>
    have HE := hid (HC.out.trans ((if_neg (fun q => by cases q.1)).trans (if_pos ⟨rfl, h2⟩)))
    clear HC
    (try clear h2); (try clear h3)
    go_enter Tryz.func108, Tryz.ntmps108
    go_wp2_with (first
     | (go_at_call 174; (with_reducible refine HU.out.mono ?_); rintro e w1 ⟨rfl, hb⟩; have B1 := hid (BA.out.trans (hb.mono BA.out.size)); have X1 := hid (X0.out.below hb); clear hb; have y2 := X1.out.cell (i := 2) rfl; have y3 := X1.out.cell (i := 3) rfl)
     | fail)
    all_goals go_ret
    all_goals exact ⟨ret_i HE.out, B1.out⟩
   | false =>
    have HE := hid (HC.out.trans ((if_neg (fun q => by cases q.1)).trans (if_neg (fun q => by cases q.1))))
    clear HC
    (try clear h2); (try clear h3)
    go_enter Tryz.func108, Tryz.ntmps108
    go_wp2_with (first
     | (go_at_call 174; (with_reducible refine HU.out.mono ?_); rintro e w1 ⟨rfl, hb⟩; have B1 := hid (BA.out.trans (hb.mono BA.out.size)); have X1 := hid (X0.out.below hb); clear hb; have y2 := X1.out.cell (i := 2) rfl; have y3 := X1.out.cell (i := 3) rfl)
     | fail)
    all_goals go_ret
    all_goals exact ⟨ret_i HE.out, B1.out⟩
  ·have q2 : (tg == 0) = false := by simpa using h2
   cases th with
   | true =>
    have HE := hid (HC.out.trans ((if_neg (fun q => by cases q.1)).trans (if_neg (fun q => h2 q.2))))
    clear HC
    (try clear h2); (try clear h3)
    go_enter Tryz.func108, Tryz.ntmps108
    go_wp2_with (first
     | (go_at_call 174; (with_reducible refine HU.out.mono ?_); rintro e w1 ⟨rfl, hb⟩; have B1 := hid (BA.out.trans (hb.mono BA.out.size)); have X1 := hid (X0.out.below hb); clear hb; have y2 := X1.out.cell (i := 2) rfl; have y3 := X1.out.cell (i := 3) rfl)
     | fail)
    all_goals go_ret
    all_goals exact ⟨ret_i HE.out, B1.out⟩
   | false =>
    have HE := hid (HC.out.trans ((if_neg (fun q => by cases q.1)).trans (if_neg (fun q => by cases q.1))))
    clear HC
    (try clear h2); (try clear h3)
    go_enter Tryz.func108, Tryz.ntmps108
    go_wp2_with (first
     | (go_at_call 174; (with_reducible refine HU.out.mono ?_); rintro e w1 ⟨rfl, hb⟩; have B1 := hid (BA.out.trans (hb.mono BA.out.size)); have X1 := hid (X0.out.below hb); clear hb; have y2 := X1.out.cell (i := 2) rfl; have y3 := X1.out.cell (i := 3) rfl)
     | fail)
    all_goals go_ret
    all_goals exact ⟨ret_i HE.out, B1.out⟩
theorem rsame_zero (C : Cn) (a : Ads) (q : Bool) (hq : sameC C c0 = q) (w : World) (h : IsC w C a) : Calls Tryz.prog 35 #[.agg (ccs C a).toArray, .agg #[.string ⟨#[]⟩, .int .i64 0, .int .i64 0, .bool false, .string ⟨#[]⟩, .slice none 0 0, .slice none 0 0, .slice none 0 0, .slice none 0 0, .int .i64 0, .int .i64 0, .int .i64 0, .int .i64 0, .int .i64 0, .int .i64 0, .int .i64 0]] w fun e w' => e = .returned (.bool q) ∧ Below w.heap.size w w' := by
 have := same23 C c0 a ad0 w h (c0_is w)
 rw [hq] at this
 exact this
set_option maxHeartbeats 32000000 in
theorem rcheck15 (k : Int) (C : Cn) (a : Ads) (w : World) (h : IsC w C a) : Calls Tryz.prog 48 #[.int .i64 k, .agg (ccs C a).toArray] w fun e w' => e = .returned (.int .i64 (rchk k C)) ∧ Below w.heap.size w w' := by
 have HH := hid h
 obtain ⟨tx, n, tg, th, via, al, dn, us, ks, d, x3, x4, x5, x6, x7, x8⟩ := C
 obtain ⟨aA, aC, dA, dC, uA, uC, kA, kC⟩ := a
 have B0 := hid ((Below.refl w.heap.size w).alloc (Nat.le_refl _) (.cells #[.string tx, .int .i64 n, .int .i64 tg, .bool th, .string via, .slice aA al.length aC, .slice dA dn.length dC, .slice uA us.length uC, .slice kA ks.length kC, .int .i64 d, .int .i64 x3, .int .i64 x4, .int .i64 x5, .int .i64 x6, .int .i64 x7, .int .i64 x8] 30))
 have X0 := hid (blk_new w [.string tx, .int .i64 n, .int .i64 tg, .bool th, .string via, .slice aA al.length aC, .slice dA dn.length dC, .slice uA us.length uC, .slice kA ks.length kC, .int .i64 d, .int .i64 x3, .int .i64 x4, .int .i64 x5, .int .i64 x6, .int .i64 x7, .int .i64 x8] 30)
 have HOn := hid (only40 k _ _ _ (HH.out.below B0.out))
 have HSm := hid (fun (y : World) (hb : Below w.heap.size w y) => rsame_zero _ _ _ rfl y (HH.out.below hb))
 have HV1 := hid (fun (y : World) (hb : Below w.heap.size w y) => text42 k _ _ y (HH.out.below hb))
 have HV2 := hid (fun (y : World) => rnumber43 k n y)
 have HV3 := hid (fun (y : World) (hb : Below w.heap.size w y) => rtarget44 k _ _ y (HH.out.below hb))
 have HV4 := hid (fun (y : World) (hb : Below w.heap.size w y) => via45 _ _ y (HH.out.below hb))
 have HRm := hid (fun (y : World) (hb : Below w.heap.size w y) => rooms46 _ _ y (HH.out.below hb))
 have HP1 := hid (fun (y : World) (hb : Below w.heap.size w y) => pats47 aA al.length aC al y (HH.out.al.below hb))
 have HP2 := hid (fun (y : World) (hb : Below w.heap.size w y) => pats47 dA dn.length dC dn y (HH.out.dn.below hb))
 have HLv := hid (fun (y : World) (hb : Below w.heap.size w y) => rlevels19 us ks d x3 x4 x5 x6 x7 x8 uA uC kA kC y (HH.out.lv.below hb))
 dsimp only at HOn HSm HV1 HV3 HV4 HRm
 have HC := hid (show rchk k ⟨tx, n, tg, th, via, al, dn, us, ks, d, x3, x4, x5, x6, x7, x8⟩ = if kdB k = false then 1 else if onB k ⟨tx, n, tg, th, via, al, dn, us, ks, d, x3, x4, x5, x6, x7, x8⟩ = false then 1 else if baB k = true ∧ sameC ⟨tx, n, tg, th, via, al, dn, us, ks, d, x3, x4, x5, x6, x7, x8⟩ c0 = true then 0 else if ¬ txE k tx = 0 then txE k tx else if ¬ nmR k n = 0 then nmR k n else if ¬ tgR k tg th = 0 then tgR k tg th else if ¬ viE n via = 0 then viE n via else if k = 4 then chkR n al else if ¬ chkP al = 0 then chkP al else if ¬ chkP dn = 0 then chkP dn else chkL us ks (nmL d x3 x4 x5 x6 x7 x8) from rfl)
 generalize rchk k ⟨tx, n, tg, th, via, al, dn, us, ks, d, x3, x4, x5, x6, x7, x8⟩ = r at HC ⊢
 generalize hkn : kdB k = kn at HC
 generalize onB k ⟨tx, n, tg, th, via, al, dn, us, ks, d, x3, x4, x5, x6, x7, x8⟩ = on at HC HOn
 generalize hba : baB k = ba at HC
 generalize sameC ⟨tx, n, tg, th, via, al, dn, us, ks, d, x3, x4, x5, x6, x7, x8⟩ c0 = sm at HC HSm
 generalize txE k tx = e1 at HC HV1
 generalize nmR k n = e2 at HC HV2
 generalize tgR k tg th = e3 at HC HV3
 generalize viE n via = e4 at HC HV4
 generalize chkR n al = er at HC HRm
 generalize chkP al = e5 at HC HP1
 generalize chkP dn = e6 at HC HP2
 generalize chkL us ks (nmL d x3 x4 x5 x6 x7 x8) = e7 at HC HLv
 have HKn := hid hkn
 have HBa := hid hba
 clear h HH hkn hba
 have y1 := X0.out.cell (i := 1) rfl
 have y5 := X0.out.cell (i := 5) rfl
 have y6 := X0.out.cell (i := 6) rfl
 show Calls Tryz.prog 48 #[.int .i64 k, .agg #[.string tx, .int .i64 n, .int .i64 tg, .bool th, .string via, .slice aA al.length aC, .slice dA dn.length dC, .slice uA us.length uC, .slice kA ks.length kC, .int .i64 d, .int .i64 x3, .int .i64 x4, .int .i64 x5, .int .i64 x6, .int .i64 x7, .int .i64 x8]] w _
 cases kn with
 | false =>
  have HE := hid (HC.out.trans (if_pos rfl))
  go_enter Tryz.func48, Tryz.ntmps48
  go_wp2_with (first | (go_at_call 103; (with_reducible refine (known_q 103 rfl k false HKn.out _).mono ?_); rintro e w1 ⟨rfl, rfl⟩) | fail)
  go_ret
  exact ⟨ret_i HE.out, B0.out⟩
 | true =>
 cases on with
 | false =>
  have HE := hid (HC.out.trans ((if_neg (by decide)).trans (if_pos rfl)))
  go_enter Tryz.func48, Tryz.ntmps48
  go_wp2_with (first
   | (go_at_call 103; (with_reducible refine (known_q 103 rfl k true HKn.out _).mono ?_); rintro e w1 ⟨rfl, rfl⟩)
   | (refine load_mid_g (by rfl) 30 _ rfl w.heap.size 0 rfl [.string tx, .int .i64 n, .int .i64 tg, .bool th, .string via, .slice aA al.length aC, .slice dA dn.length dC, .slice uA us.length uC, .slice kA ks.length kC, .int .i64 d, .int .i64 x3, .int .i64 x4, .int .i64 x5, .int .i64 x6, .int .i64 x7, .int .i64 x8] _ X0.out.range Tryz.underlying30 rfl size29 ?_)
   | (go_at_call 104; (with_reducible refine HOn.out.mono ?_); rintro e w1 ⟨rfl, hb⟩; have B1 := hid (B0.out.trans (hb.mono B0.out.size)); have X1 := hid (X0.out.below hb); clear hb; skip)
   | fail)
  go_ret
  exact ⟨ret_i HE.out, B1.out⟩
 | true =>
 cases ba with
 | true =>
  cases sm with
  | true =>
   have HE := hid (HC.out.trans ((if_neg (by decide)).trans ((if_neg (by decide)).trans (if_pos ⟨rfl, rfl⟩))))
   go_enter Tryz.func48, Tryz.ntmps48
   go_wp2_with (first
    | (go_at_call 103; (with_reducible refine (known_q 103 rfl k true HKn.out _).mono ?_); rintro e w1 ⟨rfl, rfl⟩)
    | (refine load_mid_g (by rfl) 30 _ rfl w.heap.size 0 rfl [.string tx, .int .i64 n, .int .i64 tg, .bool th, .string via, .slice aA al.length aC, .slice dA dn.length dC, .slice uA us.length uC, .slice kA ks.length kC, .int .i64 d, .int .i64 x3, .int .i64 x4, .int .i64 x5, .int .i64 x6, .int .i64 x7, .int .i64 x8] _ X0.out.range Tryz.underlying30 rfl size29 ?_)
    | (go_at_call 104; (with_reducible refine HOn.out.mono ?_); rintro e w1 ⟨rfl, hb⟩; have B1 := hid (B0.out.trans (hb.mono B0.out.size)); have X1 := hid (X0.out.below hb); clear hb; skip)
    | (go_at_call 105; (with_reducible refine (bare41 k _ HBa.out _).mono ?_); rintro e w2 ⟨rfl, rfl⟩)
    | (refine load_mid_g (by rfl) 30 _ rfl w.heap.size 0 rfl [.string tx, .int .i64 n, .int .i64 tg, .bool th, .string via, .slice aA al.length aC, .slice dA dn.length dC, .slice uA us.length uC, .slice kA ks.length kC, .int .i64 d, .int .i64 x3, .int .i64 x4, .int .i64 x5, .int .i64 x6, .int .i64 x7, .int .i64 x8] _ X1.out.range Tryz.underlying30 rfl size29 ?_)
    | (go_at_call 35; refine (HSm.out _ B1.out).mono ?_; rintro e w2 ⟨rfl, hb⟩; have B2 := hid (B1.out.trans (hb.mono B1.out.size)); have X2 := hid (X1.out.below hb); clear hb; (try clear y1); have y1 := X2.out.cell (i := 1) rfl; (try clear y5); have y5 := X2.out.cell (i := 5) rfl; (try clear y6); have y6 := X2.out.cell (i := 6) rfl)
    | fail)
   go_ret
   exact ⟨ret_i HE.out, B2.out⟩
  | false =>
   have HC2 := hid (HC.out.trans ((if_neg (by decide)).trans ((if_neg (by decide)).trans (if_neg (fun q => by cases q.2)))))
   clear HC
   rcases (Decidable.em (e1 = 0)).symm with c1 | c1
   ·have cb1 : (e1 == 0) = false := by simpa using c1
    have HE := hid (HC2.out.trans (if_pos c1))
    go_enter Tryz.func48, Tryz.ntmps48
    go_wp2_with (first
     | (go_at_call 103; (with_reducible refine (known_q 103 rfl k true HKn.out _).mono ?_); rintro e w1 ⟨rfl, rfl⟩)
     | (refine load_mid_g (by rfl) 30 _ rfl w.heap.size 0 rfl [.string tx, .int .i64 n, .int .i64 tg, .bool th, .string via, .slice aA al.length aC, .slice dA dn.length dC, .slice uA us.length uC, .slice kA ks.length kC, .int .i64 d, .int .i64 x3, .int .i64 x4, .int .i64 x5, .int .i64 x6, .int .i64 x7, .int .i64 x8] _ X0.out.range Tryz.underlying30 rfl size29 ?_)
     | (go_at_call 104; (with_reducible refine HOn.out.mono ?_); rintro e w1 ⟨rfl, hb⟩; have B1 := hid (B0.out.trans (hb.mono B0.out.size)); have X1 := hid (X0.out.below hb); clear hb; skip)
     | (go_at_call 105; (with_reducible refine (bare41 k _ HBa.out _).mono ?_); rintro e w2 ⟨rfl, rfl⟩)
     | (refine load_mid_g (by rfl) 30 _ rfl w.heap.size 0 rfl [.string tx, .int .i64 n, .int .i64 tg, .bool th, .string via, .slice aA al.length aC, .slice dA dn.length dC, .slice uA us.length uC, .slice kA ks.length kC, .int .i64 d, .int .i64 x3, .int .i64 x4, .int .i64 x5, .int .i64 x6, .int .i64 x7, .int .i64 x8] _ X1.out.range Tryz.underlying30 rfl size29 ?_)
     | (go_at_call 35; refine (HSm.out _ B1.out).mono ?_; rintro e w2 ⟨rfl, hb⟩; have B2 := hid (B1.out.trans (hb.mono B1.out.size)); have X2 := hid (X1.out.below hb); clear hb; (try clear y1); have y1 := X2.out.cell (i := 1) rfl; (try clear y5); have y5 := X2.out.cell (i := 5) rfl; (try clear y6); have y6 := X2.out.cell (i := 6) rfl)
     | (refine wpList_load_mid rfl 30 _ rfl w.heap.size 0 rfl [.string tx, .int .i64 n, .int .i64 tg, .bool th, .string via, .slice aA al.length aC, .slice dA dn.length dC, .slice uA us.length uC, .slice kA ks.length kC, .int .i64 d, .int .i64 x3, .int .i64 x4, .int .i64 x5, .int .i64 x6, .int .i64 x7, .int .i64 x8] _ X2.out.range Tryz.underlying30 rfl size29 ?_)
     | (go_at_call 106; (with_reducible refine (HV1.out _ B2.out).mono ?_); rintro e w3' ⟨rfl, hb⟩; have B3 := hid (B2.out.trans (hb.mono B2.out.size)); have X3 := hid (X2.out.below hb); clear hb; (try clear y1); have y1 := X3.out.cell (i := 1) rfl; (try clear y5); have y5 := X3.out.cell (i := 5) rfl; (try clear y6); have y6 := X3.out.cell (i := 6) rfl)
     | fail)
    go_ret
    exact ⟨ret_i HE.out, B3.out⟩
   have HD1 := hid (HC2.out.trans (if_neg (fun q => q c1)))
   subst c1
   rcases (Decidable.em (e2 = 0)).symm with c2 | c2
   ·have cb2 : (e2 == 0) = false := by simpa using c2
    have HE := hid (HD1.out.trans (if_pos c2))
    go_enter Tryz.func48, Tryz.ntmps48
    go_wp2_with (first
     | (go_at_call 103; (with_reducible refine (known_q 103 rfl k true HKn.out _).mono ?_); rintro e w1 ⟨rfl, rfl⟩)
     | (refine load_mid_g (by rfl) 30 _ rfl w.heap.size 0 rfl [.string tx, .int .i64 n, .int .i64 tg, .bool th, .string via, .slice aA al.length aC, .slice dA dn.length dC, .slice uA us.length uC, .slice kA ks.length kC, .int .i64 d, .int .i64 x3, .int .i64 x4, .int .i64 x5, .int .i64 x6, .int .i64 x7, .int .i64 x8] _ X0.out.range Tryz.underlying30 rfl size29 ?_)
     | (go_at_call 104; (with_reducible refine HOn.out.mono ?_); rintro e w1 ⟨rfl, hb⟩; have B1 := hid (B0.out.trans (hb.mono B0.out.size)); have X1 := hid (X0.out.below hb); clear hb; skip)
     | (go_at_call 105; (with_reducible refine (bare41 k _ HBa.out _).mono ?_); rintro e w2 ⟨rfl, rfl⟩)
     | (refine load_mid_g (by rfl) 30 _ rfl w.heap.size 0 rfl [.string tx, .int .i64 n, .int .i64 tg, .bool th, .string via, .slice aA al.length aC, .slice dA dn.length dC, .slice uA us.length uC, .slice kA ks.length kC, .int .i64 d, .int .i64 x3, .int .i64 x4, .int .i64 x5, .int .i64 x6, .int .i64 x7, .int .i64 x8] _ X1.out.range Tryz.underlying30 rfl size29 ?_)
     | (go_at_call 35; refine (HSm.out _ B1.out).mono ?_; rintro e w2 ⟨rfl, hb⟩; have B2 := hid (B1.out.trans (hb.mono B1.out.size)); have X2 := hid (X1.out.below hb); clear hb; (try clear y1); have y1 := X2.out.cell (i := 1) rfl; (try clear y5); have y5 := X2.out.cell (i := 5) rfl; (try clear y6); have y6 := X2.out.cell (i := 6) rfl)
     | (refine wpList_load_mid rfl 30 _ rfl w.heap.size 0 rfl [.string tx, .int .i64 n, .int .i64 tg, .bool th, .string via, .slice aA al.length aC, .slice dA dn.length dC, .slice uA us.length uC, .slice kA ks.length kC, .int .i64 d, .int .i64 x3, .int .i64 x4, .int .i64 x5, .int .i64 x6, .int .i64 x7, .int .i64 x8] _ X2.out.range Tryz.underlying30 rfl size29 ?_)
     | (go_at_call 106; (with_reducible refine (HV1.out _ B2.out).mono ?_); rintro e w3' ⟨rfl, hb⟩; have B3 := hid (B2.out.trans (hb.mono B2.out.size)); have X3 := hid (X2.out.below hb); clear hb; (try clear y1); have y1 := X3.out.cell (i := 1) rfl; (try clear y5); have y5 := X3.out.cell (i := 5) rfl; (try clear y6); have y6 := X3.out.cell (i := 6) rfl)
     | (go_at_call 107; (with_reducible refine (HV2.out _).mono ?_); rintro e w9 ⟨rfl, rfl⟩)
     | fail)
    go_ret
    exact ⟨ret_i HE.out, B3.out⟩
   have HD2 := hid (HD1.out.trans (if_neg (fun q => q c2)))
   subst c2
   rcases (Decidable.em (e3 = 0)).symm with c3 | c3
   ·have cb3 : (e3 == 0) = false := by simpa using c3
    have HE := hid (HD2.out.trans (if_pos c3))
    go_enter Tryz.func48, Tryz.ntmps48
    go_wp2_with (first
     | (go_at_call 103; (with_reducible refine (known_q 103 rfl k true HKn.out _).mono ?_); rintro e w1 ⟨rfl, rfl⟩)
     | (refine load_mid_g (by rfl) 30 _ rfl w.heap.size 0 rfl [.string tx, .int .i64 n, .int .i64 tg, .bool th, .string via, .slice aA al.length aC, .slice dA dn.length dC, .slice uA us.length uC, .slice kA ks.length kC, .int .i64 d, .int .i64 x3, .int .i64 x4, .int .i64 x5, .int .i64 x6, .int .i64 x7, .int .i64 x8] _ X0.out.range Tryz.underlying30 rfl size29 ?_)
     | (go_at_call 104; (with_reducible refine HOn.out.mono ?_); rintro e w1 ⟨rfl, hb⟩; have B1 := hid (B0.out.trans (hb.mono B0.out.size)); have X1 := hid (X0.out.below hb); clear hb; skip)
     | (go_at_call 105; (with_reducible refine (bare41 k _ HBa.out _).mono ?_); rintro e w2 ⟨rfl, rfl⟩)
     | (refine load_mid_g (by rfl) 30 _ rfl w.heap.size 0 rfl [.string tx, .int .i64 n, .int .i64 tg, .bool th, .string via, .slice aA al.length aC, .slice dA dn.length dC, .slice uA us.length uC, .slice kA ks.length kC, .int .i64 d, .int .i64 x3, .int .i64 x4, .int .i64 x5, .int .i64 x6, .int .i64 x7, .int .i64 x8] _ X1.out.range Tryz.underlying30 rfl size29 ?_)
     | (go_at_call 35; refine (HSm.out _ B1.out).mono ?_; rintro e w2 ⟨rfl, hb⟩; have B2 := hid (B1.out.trans (hb.mono B1.out.size)); have X2 := hid (X1.out.below hb); clear hb; (try clear y1); have y1 := X2.out.cell (i := 1) rfl; (try clear y5); have y5 := X2.out.cell (i := 5) rfl; (try clear y6); have y6 := X2.out.cell (i := 6) rfl)
     | (refine wpList_load_mid rfl 30 _ rfl w.heap.size 0 rfl [.string tx, .int .i64 n, .int .i64 tg, .bool th, .string via, .slice aA al.length aC, .slice dA dn.length dC, .slice uA us.length uC, .slice kA ks.length kC, .int .i64 d, .int .i64 x3, .int .i64 x4, .int .i64 x5, .int .i64 x6, .int .i64 x7, .int .i64 x8] _ X2.out.range Tryz.underlying30 rfl size29 ?_)
     | (go_at_call 106; (with_reducible refine (HV1.out _ B2.out).mono ?_); rintro e w3' ⟨rfl, hb⟩; have B3 := hid (B2.out.trans (hb.mono B2.out.size)); have X3 := hid (X2.out.below hb); clear hb; (try clear y1); have y1 := X3.out.cell (i := 1) rfl; (try clear y5); have y5 := X3.out.cell (i := 5) rfl; (try clear y6); have y6 := X3.out.cell (i := 6) rfl)
     | (go_at_call 107; (with_reducible refine (HV2.out _).mono ?_); rintro e w9 ⟨rfl, rfl⟩)
     | (refine wpList_load_mid rfl 30 _ rfl w.heap.size 0 rfl [.string tx, .int .i64 n, .int .i64 tg, .bool th, .string via, .slice aA al.length aC, .slice dA dn.length dC, .slice uA us.length uC, .slice kA ks.length kC, .int .i64 d, .int .i64 x3, .int .i64 x4, .int .i64 x5, .int .i64 x6, .int .i64 x7, .int .i64 x8] _ X3.out.range Tryz.underlying30 rfl size29 ?_)
     | (go_at_call 108; (with_reducible refine (HV3.out _ B3.out).mono ?_); rintro e w4' ⟨rfl, hb⟩; have B4 := hid (B3.out.trans (hb.mono B3.out.size)); have X4 := hid (X3.out.below hb); clear hb; (try clear y1); have y1 := X4.out.cell (i := 1) rfl; (try clear y5); have y5 := X4.out.cell (i := 5) rfl; (try clear y6); have y6 := X4.out.cell (i := 6) rfl)
     | fail)
    go_ret
    exact ⟨ret_i HE.out, B4.out⟩
   have HD3 := hid (HD2.out.trans (if_neg (fun q => q c3)))
   subst c3
   rcases (Decidable.em (e4 = 0)).symm with c4 | c4
   ·have cb4 : (e4 == 0) = false := by simpa using c4
    have HE := hid (HD3.out.trans (if_pos c4))
    go_enter Tryz.func48, Tryz.ntmps48
    go_wp2_with (first
     | (go_at_call 103; (with_reducible refine (known_q 103 rfl k true HKn.out _).mono ?_); rintro e w1 ⟨rfl, rfl⟩)
     | (refine load_mid_g (by rfl) 30 _ rfl w.heap.size 0 rfl [.string tx, .int .i64 n, .int .i64 tg, .bool th, .string via, .slice aA al.length aC, .slice dA dn.length dC, .slice uA us.length uC, .slice kA ks.length kC, .int .i64 d, .int .i64 x3, .int .i64 x4, .int .i64 x5, .int .i64 x6, .int .i64 x7, .int .i64 x8] _ X0.out.range Tryz.underlying30 rfl size29 ?_)
     | (go_at_call 104; (with_reducible refine HOn.out.mono ?_); rintro e w1 ⟨rfl, hb⟩; have B1 := hid (B0.out.trans (hb.mono B0.out.size)); have X1 := hid (X0.out.below hb); clear hb; skip)
     | (go_at_call 105; (with_reducible refine (bare41 k _ HBa.out _).mono ?_); rintro e w2 ⟨rfl, rfl⟩)
     | (refine load_mid_g (by rfl) 30 _ rfl w.heap.size 0 rfl [.string tx, .int .i64 n, .int .i64 tg, .bool th, .string via, .slice aA al.length aC, .slice dA dn.length dC, .slice uA us.length uC, .slice kA ks.length kC, .int .i64 d, .int .i64 x3, .int .i64 x4, .int .i64 x5, .int .i64 x6, .int .i64 x7, .int .i64 x8] _ X1.out.range Tryz.underlying30 rfl size29 ?_)
     | (go_at_call 35; refine (HSm.out _ B1.out).mono ?_; rintro e w2 ⟨rfl, hb⟩; have B2 := hid (B1.out.trans (hb.mono B1.out.size)); have X2 := hid (X1.out.below hb); clear hb; (try clear y1); have y1 := X2.out.cell (i := 1) rfl; (try clear y5); have y5 := X2.out.cell (i := 5) rfl; (try clear y6); have y6 := X2.out.cell (i := 6) rfl)
     | (refine wpList_load_mid rfl 30 _ rfl w.heap.size 0 rfl [.string tx, .int .i64 n, .int .i64 tg, .bool th, .string via, .slice aA al.length aC, .slice dA dn.length dC, .slice uA us.length uC, .slice kA ks.length kC, .int .i64 d, .int .i64 x3, .int .i64 x4, .int .i64 x5, .int .i64 x6, .int .i64 x7, .int .i64 x8] _ X2.out.range Tryz.underlying30 rfl size29 ?_)
     | (go_at_call 106; (with_reducible refine (HV1.out _ B2.out).mono ?_); rintro e w3' ⟨rfl, hb⟩; have B3 := hid (B2.out.trans (hb.mono B2.out.size)); have X3 := hid (X2.out.below hb); clear hb; (try clear y1); have y1 := X3.out.cell (i := 1) rfl; (try clear y5); have y5 := X3.out.cell (i := 5) rfl; (try clear y6); have y6 := X3.out.cell (i := 6) rfl)
     | (go_at_call 107; (with_reducible refine (HV2.out _).mono ?_); rintro e w9 ⟨rfl, rfl⟩)
     | (refine wpList_load_mid rfl 30 _ rfl w.heap.size 0 rfl [.string tx, .int .i64 n, .int .i64 tg, .bool th, .string via, .slice aA al.length aC, .slice dA dn.length dC, .slice uA us.length uC, .slice kA ks.length kC, .int .i64 d, .int .i64 x3, .int .i64 x4, .int .i64 x5, .int .i64 x6, .int .i64 x7, .int .i64 x8] _ X3.out.range Tryz.underlying30 rfl size29 ?_)
     | (go_at_call 108; (with_reducible refine (HV3.out _ B3.out).mono ?_); rintro e w4' ⟨rfl, hb⟩; have B4 := hid (B3.out.trans (hb.mono B3.out.size)); have X4 := hid (X3.out.below hb); clear hb; (try clear y1); have y1 := X4.out.cell (i := 1) rfl; (try clear y5); have y5 := X4.out.cell (i := 5) rfl; (try clear y6); have y6 := X4.out.cell (i := 6) rfl)
     | (refine wpList_load_mid rfl 30 _ rfl w.heap.size 0 rfl [.string tx, .int .i64 n, .int .i64 tg, .bool th, .string via, .slice aA al.length aC, .slice dA dn.length dC, .slice uA us.length uC, .slice kA ks.length kC, .int .i64 d, .int .i64 x3, .int .i64 x4, .int .i64 x5, .int .i64 x6, .int .i64 x7, .int .i64 x8] _ X4.out.range Tryz.underlying30 rfl size29 ?_)
     | (go_at_call 109; (with_reducible refine (HV4.out _ B4.out).mono ?_); rintro e w5' ⟨rfl, hb⟩; have B5 := hid (B4.out.trans (hb.mono B4.out.size)); have X5 := hid (X4.out.below hb); clear hb; (try clear y1); have y1 := X5.out.cell (i := 1) rfl; (try clear y5); have y5 := X5.out.cell (i := 5) rfl; (try clear y6); have y6 := X5.out.cell (i := 6) rfl)
     | fail)
    go_ret
    exact ⟨ret_i HE.out, B5.out⟩
   have HD4 := hid (HD3.out.trans (if_neg (fun q => q c4)))
   subst c4
   by_cases hk4 : k = 4
   ·have hkq : (k == 4) = true := by simpa using hk4
    have HE := hid (HD4.out.trans (if_pos hk4))
    clear hk4
    go_enter Tryz.func48, Tryz.ntmps48
    go_wp2_with (first
     | (go_at_call 103; (with_reducible refine (known_q 103 rfl k true HKn.out _).mono ?_); rintro e w1 ⟨rfl, rfl⟩)
     | (refine load_mid_g (by rfl) 30 _ rfl w.heap.size 0 rfl [.string tx, .int .i64 n, .int .i64 tg, .bool th, .string via, .slice aA al.length aC, .slice dA dn.length dC, .slice uA us.length uC, .slice kA ks.length kC, .int .i64 d, .int .i64 x3, .int .i64 x4, .int .i64 x5, .int .i64 x6, .int .i64 x7, .int .i64 x8] _ X0.out.range Tryz.underlying30 rfl size29 ?_)
     | (go_at_call 104; (with_reducible refine HOn.out.mono ?_); rintro e w1 ⟨rfl, hb⟩; have B1 := hid (B0.out.trans (hb.mono B0.out.size)); have X1 := hid (X0.out.below hb); clear hb; skip)
     | (go_at_call 105; (with_reducible refine (bare41 k _ HBa.out _).mono ?_); rintro e w2 ⟨rfl, rfl⟩)
     | (refine load_mid_g (by rfl) 30 _ rfl w.heap.size 0 rfl [.string tx, .int .i64 n, .int .i64 tg, .bool th, .string via, .slice aA al.length aC, .slice dA dn.length dC, .slice uA us.length uC, .slice kA ks.length kC, .int .i64 d, .int .i64 x3, .int .i64 x4, .int .i64 x5, .int .i64 x6, .int .i64 x7, .int .i64 x8] _ X1.out.range Tryz.underlying30 rfl size29 ?_)
     | (go_at_call 35; refine (HSm.out _ B1.out).mono ?_; rintro e w2 ⟨rfl, hb⟩; have B2 := hid (B1.out.trans (hb.mono B1.out.size)); have X2 := hid (X1.out.below hb); clear hb; (try clear y1); have y1 := X2.out.cell (i := 1) rfl; (try clear y5); have y5 := X2.out.cell (i := 5) rfl; (try clear y6); have y6 := X2.out.cell (i := 6) rfl)
     | (refine wpList_load_mid rfl 30 _ rfl w.heap.size 0 rfl [.string tx, .int .i64 n, .int .i64 tg, .bool th, .string via, .slice aA al.length aC, .slice dA dn.length dC, .slice uA us.length uC, .slice kA ks.length kC, .int .i64 d, .int .i64 x3, .int .i64 x4, .int .i64 x5, .int .i64 x6, .int .i64 x7, .int .i64 x8] _ X2.out.range Tryz.underlying30 rfl size29 ?_)
     | (go_at_call 106; (with_reducible refine (HV1.out _ B2.out).mono ?_); rintro e w3' ⟨rfl, hb⟩; have B3 := hid (B2.out.trans (hb.mono B2.out.size)); have X3 := hid (X2.out.below hb); clear hb; (try clear y1); have y1 := X3.out.cell (i := 1) rfl; (try clear y5); have y5 := X3.out.cell (i := 5) rfl; (try clear y6); have y6 := X3.out.cell (i := 6) rfl)
     | (go_at_call 107; (with_reducible refine (HV2.out _).mono ?_); rintro e w9 ⟨rfl, rfl⟩)
     | (refine wpList_load_mid rfl 30 _ rfl w.heap.size 0 rfl [.string tx, .int .i64 n, .int .i64 tg, .bool th, .string via, .slice aA al.length aC, .slice dA dn.length dC, .slice uA us.length uC, .slice kA ks.length kC, .int .i64 d, .int .i64 x3, .int .i64 x4, .int .i64 x5, .int .i64 x6, .int .i64 x7, .int .i64 x8] _ X3.out.range Tryz.underlying30 rfl size29 ?_)
     | (go_at_call 108; (with_reducible refine (HV3.out _ B3.out).mono ?_); rintro e w4' ⟨rfl, hb⟩; have B4 := hid (B3.out.trans (hb.mono B3.out.size)); have X4 := hid (X3.out.below hb); clear hb; (try clear y1); have y1 := X4.out.cell (i := 1) rfl; (try clear y5); have y5 := X4.out.cell (i := 5) rfl; (try clear y6); have y6 := X4.out.cell (i := 6) rfl)
     | (refine wpList_load_mid rfl 30 _ rfl w.heap.size 0 rfl [.string tx, .int .i64 n, .int .i64 tg, .bool th, .string via, .slice aA al.length aC, .slice dA dn.length dC, .slice uA us.length uC, .slice kA ks.length kC, .int .i64 d, .int .i64 x3, .int .i64 x4, .int .i64 x5, .int .i64 x6, .int .i64 x7, .int .i64 x8] _ X4.out.range Tryz.underlying30 rfl size29 ?_)
     | (go_at_call 109; (with_reducible refine (HV4.out _ B4.out).mono ?_); rintro e w5' ⟨rfl, hb⟩; have B5 := hid (B4.out.trans (hb.mono B4.out.size)); have X5 := hid (X4.out.below hb); clear hb; (try clear y1); have y1 := X5.out.cell (i := 1) rfl; (try clear y5); have y5 := X5.out.cell (i := 5) rfl; (try clear y6); have y6 := X5.out.cell (i := 6) rfl)
     | (refine wpList_load_mid rfl 30 _ rfl w.heap.size 0 rfl [.string tx, .int .i64 n, .int .i64 tg, .bool th, .string via, .slice aA al.length aC, .slice dA dn.length dC, .slice uA us.length uC, .slice kA ks.length kC, .int .i64 d, .int .i64 x3, .int .i64 x4, .int .i64 x5, .int .i64 x6, .int .i64 x7, .int .i64 x8] _ X5.out.range Tryz.underlying30 rfl size29 ?_)
     | (go_at_call 110; (with_reducible refine (HRm.out _ B5.out).mono ?_); rintro e wr ⟨rfl, hb⟩; have B6 := hid (B5.out.trans (hb.mono B5.out.size)); have X6 := hid (X5.out.below hb); clear hb; skip)
     | fail)
    go_ret
    exact ⟨ret_i HE.out, B6.out⟩
   have hkq : (k == 4) = false := by simpa using hk4
   have HD5 := hid (HD4.out.trans (if_neg hk4))
   clear hk4
   rcases (Decidable.em (e5 = 0)).symm with c5 | c5
   ·have cb5 : (e5 == 0) = false := by simpa using c5
    have HE := hid (HD5.out.trans (if_pos c5))
    go_enter Tryz.func48, Tryz.ntmps48
    go_wp2_with (first
     | (go_at_call 103; (with_reducible refine (known_q 103 rfl k true HKn.out _).mono ?_); rintro e w1 ⟨rfl, rfl⟩)
     | (refine load_mid_g (by rfl) 30 _ rfl w.heap.size 0 rfl [.string tx, .int .i64 n, .int .i64 tg, .bool th, .string via, .slice aA al.length aC, .slice dA dn.length dC, .slice uA us.length uC, .slice kA ks.length kC, .int .i64 d, .int .i64 x3, .int .i64 x4, .int .i64 x5, .int .i64 x6, .int .i64 x7, .int .i64 x8] _ X0.out.range Tryz.underlying30 rfl size29 ?_)
     | (go_at_call 104; (with_reducible refine HOn.out.mono ?_); rintro e w1 ⟨rfl, hb⟩; have B1 := hid (B0.out.trans (hb.mono B0.out.size)); have X1 := hid (X0.out.below hb); clear hb; skip)
     | (go_at_call 105; (with_reducible refine (bare41 k _ HBa.out _).mono ?_); rintro e w2 ⟨rfl, rfl⟩)
     | (refine load_mid_g (by rfl) 30 _ rfl w.heap.size 0 rfl [.string tx, .int .i64 n, .int .i64 tg, .bool th, .string via, .slice aA al.length aC, .slice dA dn.length dC, .slice uA us.length uC, .slice kA ks.length kC, .int .i64 d, .int .i64 x3, .int .i64 x4, .int .i64 x5, .int .i64 x6, .int .i64 x7, .int .i64 x8] _ X1.out.range Tryz.underlying30 rfl size29 ?_)
     | (go_at_call 35; refine (HSm.out _ B1.out).mono ?_; rintro e w2 ⟨rfl, hb⟩; have B2 := hid (B1.out.trans (hb.mono B1.out.size)); have X2 := hid (X1.out.below hb); clear hb; (try clear y1); have y1 := X2.out.cell (i := 1) rfl; (try clear y5); have y5 := X2.out.cell (i := 5) rfl; (try clear y6); have y6 := X2.out.cell (i := 6) rfl)
     | (refine wpList_load_mid rfl 30 _ rfl w.heap.size 0 rfl [.string tx, .int .i64 n, .int .i64 tg, .bool th, .string via, .slice aA al.length aC, .slice dA dn.length dC, .slice uA us.length uC, .slice kA ks.length kC, .int .i64 d, .int .i64 x3, .int .i64 x4, .int .i64 x5, .int .i64 x6, .int .i64 x7, .int .i64 x8] _ X2.out.range Tryz.underlying30 rfl size29 ?_)
     | (go_at_call 106; (with_reducible refine (HV1.out _ B2.out).mono ?_); rintro e w3' ⟨rfl, hb⟩; have B3 := hid (B2.out.trans (hb.mono B2.out.size)); have X3 := hid (X2.out.below hb); clear hb; (try clear y1); have y1 := X3.out.cell (i := 1) rfl; (try clear y5); have y5 := X3.out.cell (i := 5) rfl; (try clear y6); have y6 := X3.out.cell (i := 6) rfl)
     | (go_at_call 107; (with_reducible refine (HV2.out _).mono ?_); rintro e w9 ⟨rfl, rfl⟩)
     | (refine wpList_load_mid rfl 30 _ rfl w.heap.size 0 rfl [.string tx, .int .i64 n, .int .i64 tg, .bool th, .string via, .slice aA al.length aC, .slice dA dn.length dC, .slice uA us.length uC, .slice kA ks.length kC, .int .i64 d, .int .i64 x3, .int .i64 x4, .int .i64 x5, .int .i64 x6, .int .i64 x7, .int .i64 x8] _ X3.out.range Tryz.underlying30 rfl size29 ?_)
     | (go_at_call 108; (with_reducible refine (HV3.out _ B3.out).mono ?_); rintro e w4' ⟨rfl, hb⟩; have B4 := hid (B3.out.trans (hb.mono B3.out.size)); have X4 := hid (X3.out.below hb); clear hb; (try clear y1); have y1 := X4.out.cell (i := 1) rfl; (try clear y5); have y5 := X4.out.cell (i := 5) rfl; (try clear y6); have y6 := X4.out.cell (i := 6) rfl)
     | (refine wpList_load_mid rfl 30 _ rfl w.heap.size 0 rfl [.string tx, .int .i64 n, .int .i64 tg, .bool th, .string via, .slice aA al.length aC, .slice dA dn.length dC, .slice uA us.length uC, .slice kA ks.length kC, .int .i64 d, .int .i64 x3, .int .i64 x4, .int .i64 x5, .int .i64 x6, .int .i64 x7, .int .i64 x8] _ X4.out.range Tryz.underlying30 rfl size29 ?_)
     | (go_at_call 109; (with_reducible refine (HV4.out _ B4.out).mono ?_); rintro e w5' ⟨rfl, hb⟩; have B5 := hid (B4.out.trans (hb.mono B4.out.size)); have X5 := hid (X4.out.below hb); clear hb; (try clear y1); have y1 := X5.out.cell (i := 1) rfl; (try clear y5); have y5 := X5.out.cell (i := 5) rfl; (try clear y6); have y6 := X5.out.cell (i := 6) rfl)
     | (go_at_call 111; (with_reducible refine (HP1.out _ B5.out).mono ?_); rintro e wp ⟨rfl, rfl⟩)
     | fail)
    go_ret
    exact ⟨ret_i HE.out, B5.out⟩
   have HD6 := hid (HD5.out.trans (if_neg (fun q => q c5)))
   subst c5
   rcases (Decidable.em (e6 = 0)).symm with c6 | c6
   ·have cb6 : (e6 == 0) = false := by simpa using c6
    have HE := hid (HD6.out.trans (if_pos c6))
    go_enter Tryz.func48, Tryz.ntmps48
    go_wp2_with (first
     | (go_at_call 103; (with_reducible refine (known_q 103 rfl k true HKn.out _).mono ?_); rintro e w1 ⟨rfl, rfl⟩)
     | (refine load_mid_g (by rfl) 30 _ rfl w.heap.size 0 rfl [.string tx, .int .i64 n, .int .i64 tg, .bool th, .string via, .slice aA al.length aC, .slice dA dn.length dC, .slice uA us.length uC, .slice kA ks.length kC, .int .i64 d, .int .i64 x3, .int .i64 x4, .int .i64 x5, .int .i64 x6, .int .i64 x7, .int .i64 x8] _ X0.out.range Tryz.underlying30 rfl size29 ?_)
     | (go_at_call 104; (with_reducible refine HOn.out.mono ?_); rintro e w1 ⟨rfl, hb⟩; have B1 := hid (B0.out.trans (hb.mono B0.out.size)); have X1 := hid (X0.out.below hb); clear hb; skip)
     | (go_at_call 105; (with_reducible refine (bare41 k _ HBa.out _).mono ?_); rintro e w2 ⟨rfl, rfl⟩)
     | (refine load_mid_g (by rfl) 30 _ rfl w.heap.size 0 rfl [.string tx, .int .i64 n, .int .i64 tg, .bool th, .string via, .slice aA al.length aC, .slice dA dn.length dC, .slice uA us.length uC, .slice kA ks.length kC, .int .i64 d, .int .i64 x3, .int .i64 x4, .int .i64 x5, .int .i64 x6, .int .i64 x7, .int .i64 x8] _ X1.out.range Tryz.underlying30 rfl size29 ?_)
     | (go_at_call 35; refine (HSm.out _ B1.out).mono ?_; rintro e w2 ⟨rfl, hb⟩; have B2 := hid (B1.out.trans (hb.mono B1.out.size)); have X2 := hid (X1.out.below hb); clear hb; (try clear y1); have y1 := X2.out.cell (i := 1) rfl; (try clear y5); have y5 := X2.out.cell (i := 5) rfl; (try clear y6); have y6 := X2.out.cell (i := 6) rfl)
     | (refine wpList_load_mid rfl 30 _ rfl w.heap.size 0 rfl [.string tx, .int .i64 n, .int .i64 tg, .bool th, .string via, .slice aA al.length aC, .slice dA dn.length dC, .slice uA us.length uC, .slice kA ks.length kC, .int .i64 d, .int .i64 x3, .int .i64 x4, .int .i64 x5, .int .i64 x6, .int .i64 x7, .int .i64 x8] _ X2.out.range Tryz.underlying30 rfl size29 ?_)
     | (go_at_call 106; (with_reducible refine (HV1.out _ B2.out).mono ?_); rintro e w3' ⟨rfl, hb⟩; have B3 := hid (B2.out.trans (hb.mono B2.out.size)); have X3 := hid (X2.out.below hb); clear hb; (try clear y1); have y1 := X3.out.cell (i := 1) rfl; (try clear y5); have y5 := X3.out.cell (i := 5) rfl; (try clear y6); have y6 := X3.out.cell (i := 6) rfl)
     | (go_at_call 107; (with_reducible refine (HV2.out _).mono ?_); rintro e w9 ⟨rfl, rfl⟩)
     | (refine wpList_load_mid rfl 30 _ rfl w.heap.size 0 rfl [.string tx, .int .i64 n, .int .i64 tg, .bool th, .string via, .slice aA al.length aC, .slice dA dn.length dC, .slice uA us.length uC, .slice kA ks.length kC, .int .i64 d, .int .i64 x3, .int .i64 x4, .int .i64 x5, .int .i64 x6, .int .i64 x7, .int .i64 x8] _ X3.out.range Tryz.underlying30 rfl size29 ?_)
     | (go_at_call 108; (with_reducible refine (HV3.out _ B3.out).mono ?_); rintro e w4' ⟨rfl, hb⟩; have B4 := hid (B3.out.trans (hb.mono B3.out.size)); have X4 := hid (X3.out.below hb); clear hb; (try clear y1); have y1 := X4.out.cell (i := 1) rfl; (try clear y5); have y5 := X4.out.cell (i := 5) rfl; (try clear y6); have y6 := X4.out.cell (i := 6) rfl)
     | (refine wpList_load_mid rfl 30 _ rfl w.heap.size 0 rfl [.string tx, .int .i64 n, .int .i64 tg, .bool th, .string via, .slice aA al.length aC, .slice dA dn.length dC, .slice uA us.length uC, .slice kA ks.length kC, .int .i64 d, .int .i64 x3, .int .i64 x4, .int .i64 x5, .int .i64 x6, .int .i64 x7, .int .i64 x8] _ X4.out.range Tryz.underlying30 rfl size29 ?_)
     | (go_at_call 109; (with_reducible refine (HV4.out _ B4.out).mono ?_); rintro e w5' ⟨rfl, hb⟩; have B5 := hid (B4.out.trans (hb.mono B4.out.size)); have X5 := hid (X4.out.below hb); clear hb; (try clear y1); have y1 := X5.out.cell (i := 1) rfl; (try clear y5); have y5 := X5.out.cell (i := 5) rfl; (try clear y6); have y6 := X5.out.cell (i := 6) rfl)
     | (go_at_call 111; (with_reducible refine (HP1.out _ B5.out).mono ?_); rintro e wp ⟨rfl, rfl⟩)
     | (go_at_call 111; (with_reducible refine (HP2.out _ B5.out).mono ?_); rintro e wp ⟨rfl, rfl⟩)
     | fail)
    go_ret
    exact ⟨ret_i HE.out, B5.out⟩
   have HE := hid (HD6.out.trans (if_neg (fun q => q c6)))
   subst c6
   go_enter Tryz.func48, Tryz.ntmps48
   go_wp2_with (first
    | (go_at_call 103; (with_reducible refine (known_q 103 rfl k true HKn.out _).mono ?_); rintro e w1 ⟨rfl, rfl⟩)
    | (refine load_mid_g (by rfl) 30 _ rfl w.heap.size 0 rfl [.string tx, .int .i64 n, .int .i64 tg, .bool th, .string via, .slice aA al.length aC, .slice dA dn.length dC, .slice uA us.length uC, .slice kA ks.length kC, .int .i64 d, .int .i64 x3, .int .i64 x4, .int .i64 x5, .int .i64 x6, .int .i64 x7, .int .i64 x8] _ X0.out.range Tryz.underlying30 rfl size29 ?_)
    | (go_at_call 104; (with_reducible refine HOn.out.mono ?_); rintro e w1 ⟨rfl, hb⟩; have B1 := hid (B0.out.trans (hb.mono B0.out.size)); have X1 := hid (X0.out.below hb); clear hb; skip)
    | (go_at_call 105; (with_reducible refine (bare41 k _ HBa.out _).mono ?_); rintro e w2 ⟨rfl, rfl⟩)
    | (refine load_mid_g (by rfl) 30 _ rfl w.heap.size 0 rfl [.string tx, .int .i64 n, .int .i64 tg, .bool th, .string via, .slice aA al.length aC, .slice dA dn.length dC, .slice uA us.length uC, .slice kA ks.length kC, .int .i64 d, .int .i64 x3, .int .i64 x4, .int .i64 x5, .int .i64 x6, .int .i64 x7, .int .i64 x8] _ X1.out.range Tryz.underlying30 rfl size29 ?_)
    | (go_at_call 35; refine (HSm.out _ B1.out).mono ?_; rintro e w2 ⟨rfl, hb⟩; have B2 := hid (B1.out.trans (hb.mono B1.out.size)); have X2 := hid (X1.out.below hb); clear hb; (try clear y1); have y1 := X2.out.cell (i := 1) rfl; (try clear y5); have y5 := X2.out.cell (i := 5) rfl; (try clear y6); have y6 := X2.out.cell (i := 6) rfl)
    | (refine wpList_load_mid rfl 30 _ rfl w.heap.size 0 rfl [.string tx, .int .i64 n, .int .i64 tg, .bool th, .string via, .slice aA al.length aC, .slice dA dn.length dC, .slice uA us.length uC, .slice kA ks.length kC, .int .i64 d, .int .i64 x3, .int .i64 x4, .int .i64 x5, .int .i64 x6, .int .i64 x7, .int .i64 x8] _ X2.out.range Tryz.underlying30 rfl size29 ?_)
    | (go_at_call 106; (with_reducible refine (HV1.out _ B2.out).mono ?_); rintro e w3' ⟨rfl, hb⟩; have B3 := hid (B2.out.trans (hb.mono B2.out.size)); have X3 := hid (X2.out.below hb); clear hb; (try clear y1); have y1 := X3.out.cell (i := 1) rfl; (try clear y5); have y5 := X3.out.cell (i := 5) rfl; (try clear y6); have y6 := X3.out.cell (i := 6) rfl)
    | (go_at_call 107; (with_reducible refine (HV2.out _).mono ?_); rintro e w9 ⟨rfl, rfl⟩)
    | (refine wpList_load_mid rfl 30 _ rfl w.heap.size 0 rfl [.string tx, .int .i64 n, .int .i64 tg, .bool th, .string via, .slice aA al.length aC, .slice dA dn.length dC, .slice uA us.length uC, .slice kA ks.length kC, .int .i64 d, .int .i64 x3, .int .i64 x4, .int .i64 x5, .int .i64 x6, .int .i64 x7, .int .i64 x8] _ X3.out.range Tryz.underlying30 rfl size29 ?_)
    | (go_at_call 108; (with_reducible refine (HV3.out _ B3.out).mono ?_); rintro e w4' ⟨rfl, hb⟩; have B4 := hid (B3.out.trans (hb.mono B3.out.size)); have X4 := hid (X3.out.below hb); clear hb; (try clear y1); have y1 := X4.out.cell (i := 1) rfl; (try clear y5); have y5 := X4.out.cell (i := 5) rfl; (try clear y6); have y6 := X4.out.cell (i := 6) rfl)
    | (refine wpList_load_mid rfl 30 _ rfl w.heap.size 0 rfl [.string tx, .int .i64 n, .int .i64 tg, .bool th, .string via, .slice aA al.length aC, .slice dA dn.length dC, .slice uA us.length uC, .slice kA ks.length kC, .int .i64 d, .int .i64 x3, .int .i64 x4, .int .i64 x5, .int .i64 x6, .int .i64 x7, .int .i64 x8] _ X4.out.range Tryz.underlying30 rfl size29 ?_)
    | (go_at_call 109; (with_reducible refine (HV4.out _ B4.out).mono ?_); rintro e w5' ⟨rfl, hb⟩; have B5 := hid (B4.out.trans (hb.mono B4.out.size)); have X5 := hid (X4.out.below hb); clear hb; (try clear y1); have y1 := X5.out.cell (i := 1) rfl; (try clear y5); have y5 := X5.out.cell (i := 5) rfl; (try clear y6); have y6 := X5.out.cell (i := 6) rfl)
    | (go_at_call 111; (with_reducible refine (HP1.out _ B5.out).mono ?_); rintro e wp ⟨rfl, rfl⟩)
    | (go_at_call 111; (with_reducible refine (HP2.out _ B5.out).mono ?_); rintro e wp ⟨rfl, rfl⟩)
    | (refine wpList_load_mid rfl 28 _ rfl w.heap.size 7 rfl [.slice uA us.length uC, .slice kA ks.length kC, .int .i64 d, .int .i64 x3, .int .i64 x4, .int .i64 x5, .int .i64 x6, .int .i64 x7, .int .i64 x8] _ (X5.out.mid 7 9) Tryz.underlying28 rfl size27 ?_)
    | (go_at_call 112; (with_reducible refine (HLv.out _ B5.out).mono ?_); rintro e wl ⟨rfl, hb⟩; have B6 := hid (B5.out.trans (hb.mono B5.out.size)); clear hb)
    | fail)
   go_ret
   exact ⟨ret_i HE.out, B6.out⟩
 | false =>
  have HC2 := hid (HC.out.trans ((if_neg (by decide)).trans ((if_neg (by decide)).trans (if_neg (fun q => by cases q.1)))))
  clear HC
  rcases (Decidable.em (e1 = 0)).symm with c1 | c1
  ·have cb1 : (e1 == 0) = false := by simpa using c1
   have HE := hid (HC2.out.trans (if_pos c1))
   go_enter Tryz.func48, Tryz.ntmps48
   go_wp2_with (first
    | (go_at_call 103; (with_reducible refine (known_q 103 rfl k true HKn.out _).mono ?_); rintro e w1 ⟨rfl, rfl⟩)
    | (refine load_mid_g (by rfl) 30 _ rfl w.heap.size 0 rfl [.string tx, .int .i64 n, .int .i64 tg, .bool th, .string via, .slice aA al.length aC, .slice dA dn.length dC, .slice uA us.length uC, .slice kA ks.length kC, .int .i64 d, .int .i64 x3, .int .i64 x4, .int .i64 x5, .int .i64 x6, .int .i64 x7, .int .i64 x8] _ X0.out.range Tryz.underlying30 rfl size29 ?_)
    | (go_at_call 104; (with_reducible refine HOn.out.mono ?_); rintro e w1 ⟨rfl, hb⟩; have B1 := hid (B0.out.trans (hb.mono B0.out.size)); have X1 := hid (X0.out.below hb); clear hb; (try clear y1); have y1 := X1.out.cell (i := 1) rfl; (try clear y5); have y5 := X1.out.cell (i := 5) rfl; (try clear y6); have y6 := X1.out.cell (i := 6) rfl)
    | (go_at_call 105; (with_reducible refine (bare41 k _ HBa.out _).mono ?_); rintro e w2 ⟨rfl, rfl⟩)
    | (refine wpList_load_mid rfl 30 _ rfl w.heap.size 0 rfl [.string tx, .int .i64 n, .int .i64 tg, .bool th, .string via, .slice aA al.length aC, .slice dA dn.length dC, .slice uA us.length uC, .slice kA ks.length kC, .int .i64 d, .int .i64 x3, .int .i64 x4, .int .i64 x5, .int .i64 x6, .int .i64 x7, .int .i64 x8] _ X1.out.range Tryz.underlying30 rfl size29 ?_)
    | (go_at_call 106; (with_reducible refine (HV1.out _ B1.out).mono ?_); rintro e w2' ⟨rfl, hb⟩; have B2 := hid (B1.out.trans (hb.mono B1.out.size)); have X2 := hid (X1.out.below hb); clear hb; (try clear y1); have y1 := X2.out.cell (i := 1) rfl; (try clear y5); have y5 := X2.out.cell (i := 5) rfl; (try clear y6); have y6 := X2.out.cell (i := 6) rfl)
    | fail)
   go_ret
   exact ⟨ret_i HE.out, B2.out⟩
  have HD1 := hid (HC2.out.trans (if_neg (fun q => q c1)))
  subst c1
  rcases (Decidable.em (e2 = 0)).symm with c2 | c2
  ·have cb2 : (e2 == 0) = false := by simpa using c2
   have HE := hid (HD1.out.trans (if_pos c2))
   go_enter Tryz.func48, Tryz.ntmps48
   go_wp2_with (first
    | (go_at_call 103; (with_reducible refine (known_q 103 rfl k true HKn.out _).mono ?_); rintro e w1 ⟨rfl, rfl⟩)
    | (refine load_mid_g (by rfl) 30 _ rfl w.heap.size 0 rfl [.string tx, .int .i64 n, .int .i64 tg, .bool th, .string via, .slice aA al.length aC, .slice dA dn.length dC, .slice uA us.length uC, .slice kA ks.length kC, .int .i64 d, .int .i64 x3, .int .i64 x4, .int .i64 x5, .int .i64 x6, .int .i64 x7, .int .i64 x8] _ X0.out.range Tryz.underlying30 rfl size29 ?_)
    | (go_at_call 104; (with_reducible refine HOn.out.mono ?_); rintro e w1 ⟨rfl, hb⟩; have B1 := hid (B0.out.trans (hb.mono B0.out.size)); have X1 := hid (X0.out.below hb); clear hb; (try clear y1); have y1 := X1.out.cell (i := 1) rfl; (try clear y5); have y5 := X1.out.cell (i := 5) rfl; (try clear y6); have y6 := X1.out.cell (i := 6) rfl)
    | (go_at_call 105; (with_reducible refine (bare41 k _ HBa.out _).mono ?_); rintro e w2 ⟨rfl, rfl⟩)
    | (refine wpList_load_mid rfl 30 _ rfl w.heap.size 0 rfl [.string tx, .int .i64 n, .int .i64 tg, .bool th, .string via, .slice aA al.length aC, .slice dA dn.length dC, .slice uA us.length uC, .slice kA ks.length kC, .int .i64 d, .int .i64 x3, .int .i64 x4, .int .i64 x5, .int .i64 x6, .int .i64 x7, .int .i64 x8] _ X1.out.range Tryz.underlying30 rfl size29 ?_)
    | (go_at_call 106; (with_reducible refine (HV1.out _ B1.out).mono ?_); rintro e w2' ⟨rfl, hb⟩; have B2 := hid (B1.out.trans (hb.mono B1.out.size)); have X2 := hid (X1.out.below hb); clear hb; (try clear y1); have y1 := X2.out.cell (i := 1) rfl; (try clear y5); have y5 := X2.out.cell (i := 5) rfl; (try clear y6); have y6 := X2.out.cell (i := 6) rfl)
    | (go_at_call 107; (with_reducible refine (HV2.out _).mono ?_); rintro e w9 ⟨rfl, rfl⟩)
    | fail)
   go_ret
   exact ⟨ret_i HE.out, B2.out⟩
  have HD2 := hid (HD1.out.trans (if_neg (fun q => q c2)))
  subst c2
  rcases (Decidable.em (e3 = 0)).symm with c3 | c3
  ·have cb3 : (e3 == 0) = false := by simpa using c3
   have HE := hid (HD2.out.trans (if_pos c3))
   go_enter Tryz.func48, Tryz.ntmps48
   go_wp2_with (first
    | (go_at_call 103; (with_reducible refine (known_q 103 rfl k true HKn.out _).mono ?_); rintro e w1 ⟨rfl, rfl⟩)
    | (refine load_mid_g (by rfl) 30 _ rfl w.heap.size 0 rfl [.string tx, .int .i64 n, .int .i64 tg, .bool th, .string via, .slice aA al.length aC, .slice dA dn.length dC, .slice uA us.length uC, .slice kA ks.length kC, .int .i64 d, .int .i64 x3, .int .i64 x4, .int .i64 x5, .int .i64 x6, .int .i64 x7, .int .i64 x8] _ X0.out.range Tryz.underlying30 rfl size29 ?_)
    | (go_at_call 104; (with_reducible refine HOn.out.mono ?_); rintro e w1 ⟨rfl, hb⟩; have B1 := hid (B0.out.trans (hb.mono B0.out.size)); have X1 := hid (X0.out.below hb); clear hb; (try clear y1); have y1 := X1.out.cell (i := 1) rfl; (try clear y5); have y5 := X1.out.cell (i := 5) rfl; (try clear y6); have y6 := X1.out.cell (i := 6) rfl)
    | (go_at_call 105; (with_reducible refine (bare41 k _ HBa.out _).mono ?_); rintro e w2 ⟨rfl, rfl⟩)
    | (refine wpList_load_mid rfl 30 _ rfl w.heap.size 0 rfl [.string tx, .int .i64 n, .int .i64 tg, .bool th, .string via, .slice aA al.length aC, .slice dA dn.length dC, .slice uA us.length uC, .slice kA ks.length kC, .int .i64 d, .int .i64 x3, .int .i64 x4, .int .i64 x5, .int .i64 x6, .int .i64 x7, .int .i64 x8] _ X1.out.range Tryz.underlying30 rfl size29 ?_)
    | (go_at_call 106; (with_reducible refine (HV1.out _ B1.out).mono ?_); rintro e w2' ⟨rfl, hb⟩; have B2 := hid (B1.out.trans (hb.mono B1.out.size)); have X2 := hid (X1.out.below hb); clear hb; (try clear y1); have y1 := X2.out.cell (i := 1) rfl; (try clear y5); have y5 := X2.out.cell (i := 5) rfl; (try clear y6); have y6 := X2.out.cell (i := 6) rfl)
    | (go_at_call 107; (with_reducible refine (HV2.out _).mono ?_); rintro e w9 ⟨rfl, rfl⟩)
    | (refine wpList_load_mid rfl 30 _ rfl w.heap.size 0 rfl [.string tx, .int .i64 n, .int .i64 tg, .bool th, .string via, .slice aA al.length aC, .slice dA dn.length dC, .slice uA us.length uC, .slice kA ks.length kC, .int .i64 d, .int .i64 x3, .int .i64 x4, .int .i64 x5, .int .i64 x6, .int .i64 x7, .int .i64 x8] _ X2.out.range Tryz.underlying30 rfl size29 ?_)
    | (go_at_call 108; (with_reducible refine (HV3.out _ B2.out).mono ?_); rintro e w3' ⟨rfl, hb⟩; have B3 := hid (B2.out.trans (hb.mono B2.out.size)); have X3 := hid (X2.out.below hb); clear hb; (try clear y1); have y1 := X3.out.cell (i := 1) rfl; (try clear y5); have y5 := X3.out.cell (i := 5) rfl; (try clear y6); have y6 := X3.out.cell (i := 6) rfl)
    | fail)
   go_ret
   exact ⟨ret_i HE.out, B3.out⟩
  have HD3 := hid (HD2.out.trans (if_neg (fun q => q c3)))
  subst c3
  rcases (Decidable.em (e4 = 0)).symm with c4 | c4
  ·have cb4 : (e4 == 0) = false := by simpa using c4
   have HE := hid (HD3.out.trans (if_pos c4))
   go_enter Tryz.func48, Tryz.ntmps48
   go_wp2_with (first
    | (go_at_call 103; (with_reducible refine (known_q 103 rfl k true HKn.out _).mono ?_); rintro e w1 ⟨rfl, rfl⟩)
    | (refine load_mid_g (by rfl) 30 _ rfl w.heap.size 0 rfl [.string tx, .int .i64 n, .int .i64 tg, .bool th, .string via, .slice aA al.length aC, .slice dA dn.length dC, .slice uA us.length uC, .slice kA ks.length kC, .int .i64 d, .int .i64 x3, .int .i64 x4, .int .i64 x5, .int .i64 x6, .int .i64 x7, .int .i64 x8] _ X0.out.range Tryz.underlying30 rfl size29 ?_)
    | (go_at_call 104; (with_reducible refine HOn.out.mono ?_); rintro e w1 ⟨rfl, hb⟩; have B1 := hid (B0.out.trans (hb.mono B0.out.size)); have X1 := hid (X0.out.below hb); clear hb; (try clear y1); have y1 := X1.out.cell (i := 1) rfl; (try clear y5); have y5 := X1.out.cell (i := 5) rfl; (try clear y6); have y6 := X1.out.cell (i := 6) rfl)
    | (go_at_call 105; (with_reducible refine (bare41 k _ HBa.out _).mono ?_); rintro e w2 ⟨rfl, rfl⟩)
    | (refine wpList_load_mid rfl 30 _ rfl w.heap.size 0 rfl [.string tx, .int .i64 n, .int .i64 tg, .bool th, .string via, .slice aA al.length aC, .slice dA dn.length dC, .slice uA us.length uC, .slice kA ks.length kC, .int .i64 d, .int .i64 x3, .int .i64 x4, .int .i64 x5, .int .i64 x6, .int .i64 x7, .int .i64 x8] _ X1.out.range Tryz.underlying30 rfl size29 ?_)
    | (go_at_call 106; (with_reducible refine (HV1.out _ B1.out).mono ?_); rintro e w2' ⟨rfl, hb⟩; have B2 := hid (B1.out.trans (hb.mono B1.out.size)); have X2 := hid (X1.out.below hb); clear hb; (try clear y1); have y1 := X2.out.cell (i := 1) rfl; (try clear y5); have y5 := X2.out.cell (i := 5) rfl; (try clear y6); have y6 := X2.out.cell (i := 6) rfl)
    | (go_at_call 107; (with_reducible refine (HV2.out _).mono ?_); rintro e w9 ⟨rfl, rfl⟩)
    | (refine wpList_load_mid rfl 30 _ rfl w.heap.size 0 rfl [.string tx, .int .i64 n, .int .i64 tg, .bool th, .string via, .slice aA al.length aC, .slice dA dn.length dC, .slice uA us.length uC, .slice kA ks.length kC, .int .i64 d, .int .i64 x3, .int .i64 x4, .int .i64 x5, .int .i64 x6, .int .i64 x7, .int .i64 x8] _ X2.out.range Tryz.underlying30 rfl size29 ?_)
    | (go_at_call 108; (with_reducible refine (HV3.out _ B2.out).mono ?_); rintro e w3' ⟨rfl, hb⟩; have B3 := hid (B2.out.trans (hb.mono B2.out.size)); have X3 := hid (X2.out.below hb); clear hb; (try clear y1); have y1 := X3.out.cell (i := 1) rfl; (try clear y5); have y5 := X3.out.cell (i := 5) rfl; (try clear y6); have y6 := X3.out.cell (i := 6) rfl)
    | (refine wpList_load_mid rfl 30 _ rfl w.heap.size 0 rfl [.string tx, .int .i64 n, .int .i64 tg, .bool th, .string via, .slice aA al.length aC, .slice dA dn.length dC, .slice uA us.length uC, .slice kA ks.length kC, .int .i64 d, .int .i64 x3, .int .i64 x4, .int .i64 x5, .int .i64 x6, .int .i64 x7, .int .i64 x8] _ X3.out.range Tryz.underlying30 rfl size29 ?_)
    | (go_at_call 109; (with_reducible refine (HV4.out _ B3.out).mono ?_); rintro e w4' ⟨rfl, hb⟩; have B4 := hid (B3.out.trans (hb.mono B3.out.size)); have X4 := hid (X3.out.below hb); clear hb; (try clear y1); have y1 := X4.out.cell (i := 1) rfl; (try clear y5); have y5 := X4.out.cell (i := 5) rfl; (try clear y6); have y6 := X4.out.cell (i := 6) rfl)
    | fail)
   go_ret
   exact ⟨ret_i HE.out, B4.out⟩
  have HD4 := hid (HD3.out.trans (if_neg (fun q => q c4)))
  subst c4
  by_cases hk4 : k = 4
  ·have hkq : (k == 4) = true := by simpa using hk4
   have HE := hid (HD4.out.trans (if_pos hk4))
   clear hk4
   go_enter Tryz.func48, Tryz.ntmps48
   go_wp2_with (first
    | (go_at_call 103; (with_reducible refine (known_q 103 rfl k true HKn.out _).mono ?_); rintro e w1 ⟨rfl, rfl⟩)
    | (refine load_mid_g (by rfl) 30 _ rfl w.heap.size 0 rfl [.string tx, .int .i64 n, .int .i64 tg, .bool th, .string via, .slice aA al.length aC, .slice dA dn.length dC, .slice uA us.length uC, .slice kA ks.length kC, .int .i64 d, .int .i64 x3, .int .i64 x4, .int .i64 x5, .int .i64 x6, .int .i64 x7, .int .i64 x8] _ X0.out.range Tryz.underlying30 rfl size29 ?_)
    | (go_at_call 104; (with_reducible refine HOn.out.mono ?_); rintro e w1 ⟨rfl, hb⟩; have B1 := hid (B0.out.trans (hb.mono B0.out.size)); have X1 := hid (X0.out.below hb); clear hb; (try clear y1); have y1 := X1.out.cell (i := 1) rfl; (try clear y5); have y5 := X1.out.cell (i := 5) rfl; (try clear y6); have y6 := X1.out.cell (i := 6) rfl)
    | (go_at_call 105; (with_reducible refine (bare41 k _ HBa.out _).mono ?_); rintro e w2 ⟨rfl, rfl⟩)
    | (refine wpList_load_mid rfl 30 _ rfl w.heap.size 0 rfl [.string tx, .int .i64 n, .int .i64 tg, .bool th, .string via, .slice aA al.length aC, .slice dA dn.length dC, .slice uA us.length uC, .slice kA ks.length kC, .int .i64 d, .int .i64 x3, .int .i64 x4, .int .i64 x5, .int .i64 x6, .int .i64 x7, .int .i64 x8] _ X1.out.range Tryz.underlying30 rfl size29 ?_)
    | (go_at_call 106; (with_reducible refine (HV1.out _ B1.out).mono ?_); rintro e w2' ⟨rfl, hb⟩; have B2 := hid (B1.out.trans (hb.mono B1.out.size)); have X2 := hid (X1.out.below hb); clear hb; (try clear y1); have y1 := X2.out.cell (i := 1) rfl; (try clear y5); have y5 := X2.out.cell (i := 5) rfl; (try clear y6); have y6 := X2.out.cell (i := 6) rfl)
    | (go_at_call 107; (with_reducible refine (HV2.out _).mono ?_); rintro e w9 ⟨rfl, rfl⟩)
    | (refine wpList_load_mid rfl 30 _ rfl w.heap.size 0 rfl [.string tx, .int .i64 n, .int .i64 tg, .bool th, .string via, .slice aA al.length aC, .slice dA dn.length dC, .slice uA us.length uC, .slice kA ks.length kC, .int .i64 d, .int .i64 x3, .int .i64 x4, .int .i64 x5, .int .i64 x6, .int .i64 x7, .int .i64 x8] _ X2.out.range Tryz.underlying30 rfl size29 ?_)
    | (go_at_call 108; (with_reducible refine (HV3.out _ B2.out).mono ?_); rintro e w3' ⟨rfl, hb⟩; have B3 := hid (B2.out.trans (hb.mono B2.out.size)); have X3 := hid (X2.out.below hb); clear hb; (try clear y1); have y1 := X3.out.cell (i := 1) rfl; (try clear y5); have y5 := X3.out.cell (i := 5) rfl; (try clear y6); have y6 := X3.out.cell (i := 6) rfl)
    | (refine wpList_load_mid rfl 30 _ rfl w.heap.size 0 rfl [.string tx, .int .i64 n, .int .i64 tg, .bool th, .string via, .slice aA al.length aC, .slice dA dn.length dC, .slice uA us.length uC, .slice kA ks.length kC, .int .i64 d, .int .i64 x3, .int .i64 x4, .int .i64 x5, .int .i64 x6, .int .i64 x7, .int .i64 x8] _ X3.out.range Tryz.underlying30 rfl size29 ?_)
    | (go_at_call 109; (with_reducible refine (HV4.out _ B3.out).mono ?_); rintro e w4' ⟨rfl, hb⟩; have B4 := hid (B3.out.trans (hb.mono B3.out.size)); have X4 := hid (X3.out.below hb); clear hb; (try clear y1); have y1 := X4.out.cell (i := 1) rfl; (try clear y5); have y5 := X4.out.cell (i := 5) rfl; (try clear y6); have y6 := X4.out.cell (i := 6) rfl)
    | (refine wpList_load_mid rfl 30 _ rfl w.heap.size 0 rfl [.string tx, .int .i64 n, .int .i64 tg, .bool th, .string via, .slice aA al.length aC, .slice dA dn.length dC, .slice uA us.length uC, .slice kA ks.length kC, .int .i64 d, .int .i64 x3, .int .i64 x4, .int .i64 x5, .int .i64 x6, .int .i64 x7, .int .i64 x8] _ X4.out.range Tryz.underlying30 rfl size29 ?_)
    | (go_at_call 110; (with_reducible refine (HRm.out _ B4.out).mono ?_); rintro e wr ⟨rfl, hb⟩; have B5 := hid (B4.out.trans (hb.mono B4.out.size)); have X5 := hid (X4.out.below hb); clear hb; skip)
    | fail)
   go_ret
   exact ⟨ret_i HE.out, B5.out⟩
  have hkq : (k == 4) = false := by simpa using hk4
  have HD5 := hid (HD4.out.trans (if_neg hk4))
  clear hk4
  rcases (Decidable.em (e5 = 0)).symm with c5 | c5
  ·have cb5 : (e5 == 0) = false := by simpa using c5
   have HE := hid (HD5.out.trans (if_pos c5))
   go_enter Tryz.func48, Tryz.ntmps48
   go_wp2_with (first
    | (go_at_call 103; (with_reducible refine (known_q 103 rfl k true HKn.out _).mono ?_); rintro e w1 ⟨rfl, rfl⟩)
    | (refine load_mid_g (by rfl) 30 _ rfl w.heap.size 0 rfl [.string tx, .int .i64 n, .int .i64 tg, .bool th, .string via, .slice aA al.length aC, .slice dA dn.length dC, .slice uA us.length uC, .slice kA ks.length kC, .int .i64 d, .int .i64 x3, .int .i64 x4, .int .i64 x5, .int .i64 x6, .int .i64 x7, .int .i64 x8] _ X0.out.range Tryz.underlying30 rfl size29 ?_)
    | (go_at_call 104; (with_reducible refine HOn.out.mono ?_); rintro e w1 ⟨rfl, hb⟩; have B1 := hid (B0.out.trans (hb.mono B0.out.size)); have X1 := hid (X0.out.below hb); clear hb; (try clear y1); have y1 := X1.out.cell (i := 1) rfl; (try clear y5); have y5 := X1.out.cell (i := 5) rfl; (try clear y6); have y6 := X1.out.cell (i := 6) rfl)
    | (go_at_call 105; (with_reducible refine (bare41 k _ HBa.out _).mono ?_); rintro e w2 ⟨rfl, rfl⟩)
    | (refine wpList_load_mid rfl 30 _ rfl w.heap.size 0 rfl [.string tx, .int .i64 n, .int .i64 tg, .bool th, .string via, .slice aA al.length aC, .slice dA dn.length dC, .slice uA us.length uC, .slice kA ks.length kC, .int .i64 d, .int .i64 x3, .int .i64 x4, .int .i64 x5, .int .i64 x6, .int .i64 x7, .int .i64 x8] _ X1.out.range Tryz.underlying30 rfl size29 ?_)
    | (go_at_call 106; (with_reducible refine (HV1.out _ B1.out).mono ?_); rintro e w2' ⟨rfl, hb⟩; have B2 := hid (B1.out.trans (hb.mono B1.out.size)); have X2 := hid (X1.out.below hb); clear hb; (try clear y1); have y1 := X2.out.cell (i := 1) rfl; (try clear y5); have y5 := X2.out.cell (i := 5) rfl; (try clear y6); have y6 := X2.out.cell (i := 6) rfl)
    | (go_at_call 107; (with_reducible refine (HV2.out _).mono ?_); rintro e w9 ⟨rfl, rfl⟩)
    | (refine wpList_load_mid rfl 30 _ rfl w.heap.size 0 rfl [.string tx, .int .i64 n, .int .i64 tg, .bool th, .string via, .slice aA al.length aC, .slice dA dn.length dC, .slice uA us.length uC, .slice kA ks.length kC, .int .i64 d, .int .i64 x3, .int .i64 x4, .int .i64 x5, .int .i64 x6, .int .i64 x7, .int .i64 x8] _ X2.out.range Tryz.underlying30 rfl size29 ?_)
    | (go_at_call 108; (with_reducible refine (HV3.out _ B2.out).mono ?_); rintro e w3' ⟨rfl, hb⟩; have B3 := hid (B2.out.trans (hb.mono B2.out.size)); have X3 := hid (X2.out.below hb); clear hb; (try clear y1); have y1 := X3.out.cell (i := 1) rfl; (try clear y5); have y5 := X3.out.cell (i := 5) rfl; (try clear y6); have y6 := X3.out.cell (i := 6) rfl)
    | (refine wpList_load_mid rfl 30 _ rfl w.heap.size 0 rfl [.string tx, .int .i64 n, .int .i64 tg, .bool th, .string via, .slice aA al.length aC, .slice dA dn.length dC, .slice uA us.length uC, .slice kA ks.length kC, .int .i64 d, .int .i64 x3, .int .i64 x4, .int .i64 x5, .int .i64 x6, .int .i64 x7, .int .i64 x8] _ X3.out.range Tryz.underlying30 rfl size29 ?_)
    | (go_at_call 109; (with_reducible refine (HV4.out _ B3.out).mono ?_); rintro e w4' ⟨rfl, hb⟩; have B4 := hid (B3.out.trans (hb.mono B3.out.size)); have X4 := hid (X3.out.below hb); clear hb; (try clear y1); have y1 := X4.out.cell (i := 1) rfl; (try clear y5); have y5 := X4.out.cell (i := 5) rfl; (try clear y6); have y6 := X4.out.cell (i := 6) rfl)
    | (go_at_call 111; (with_reducible refine (HP1.out _ B4.out).mono ?_); rintro e wp ⟨rfl, rfl⟩)
    | fail)
   go_ret
   exact ⟨ret_i HE.out, B4.out⟩
  have HD6 := hid (HD5.out.trans (if_neg (fun q => q c5)))
  subst c5
  rcases (Decidable.em (e6 = 0)).symm with c6 | c6
  ·have cb6 : (e6 == 0) = false := by simpa using c6
   have HE := hid (HD6.out.trans (if_pos c6))
   go_enter Tryz.func48, Tryz.ntmps48
   go_wp2_with (first
    | (go_at_call 103; (with_reducible refine (known_q 103 rfl k true HKn.out _).mono ?_); rintro e w1 ⟨rfl, rfl⟩)
    | (refine load_mid_g (by rfl) 30 _ rfl w.heap.size 0 rfl [.string tx, .int .i64 n, .int .i64 tg, .bool th, .string via, .slice aA al.length aC, .slice dA dn.length dC, .slice uA us.length uC, .slice kA ks.length kC, .int .i64 d, .int .i64 x3, .int .i64 x4, .int .i64 x5, .int .i64 x6, .int .i64 x7, .int .i64 x8] _ X0.out.range Tryz.underlying30 rfl size29 ?_)
    | (go_at_call 104; (with_reducible refine HOn.out.mono ?_); rintro e w1 ⟨rfl, hb⟩; have B1 := hid (B0.out.trans (hb.mono B0.out.size)); have X1 := hid (X0.out.below hb); clear hb; (try clear y1); have y1 := X1.out.cell (i := 1) rfl; (try clear y5); have y5 := X1.out.cell (i := 5) rfl; (try clear y6); have y6 := X1.out.cell (i := 6) rfl)
    | (go_at_call 105; (with_reducible refine (bare41 k _ HBa.out _).mono ?_); rintro e w2 ⟨rfl, rfl⟩)
    | (refine wpList_load_mid rfl 30 _ rfl w.heap.size 0 rfl [.string tx, .int .i64 n, .int .i64 tg, .bool th, .string via, .slice aA al.length aC, .slice dA dn.length dC, .slice uA us.length uC, .slice kA ks.length kC, .int .i64 d, .int .i64 x3, .int .i64 x4, .int .i64 x5, .int .i64 x6, .int .i64 x7, .int .i64 x8] _ X1.out.range Tryz.underlying30 rfl size29 ?_)
    | (go_at_call 106; (with_reducible refine (HV1.out _ B1.out).mono ?_); rintro e w2' ⟨rfl, hb⟩; have B2 := hid (B1.out.trans (hb.mono B1.out.size)); have X2 := hid (X1.out.below hb); clear hb; (try clear y1); have y1 := X2.out.cell (i := 1) rfl; (try clear y5); have y5 := X2.out.cell (i := 5) rfl; (try clear y6); have y6 := X2.out.cell (i := 6) rfl)
    | (go_at_call 107; (with_reducible refine (HV2.out _).mono ?_); rintro e w9 ⟨rfl, rfl⟩)
    | (refine wpList_load_mid rfl 30 _ rfl w.heap.size 0 rfl [.string tx, .int .i64 n, .int .i64 tg, .bool th, .string via, .slice aA al.length aC, .slice dA dn.length dC, .slice uA us.length uC, .slice kA ks.length kC, .int .i64 d, .int .i64 x3, .int .i64 x4, .int .i64 x5, .int .i64 x6, .int .i64 x7, .int .i64 x8] _ X2.out.range Tryz.underlying30 rfl size29 ?_)
    | (go_at_call 108; (with_reducible refine (HV3.out _ B2.out).mono ?_); rintro e w3' ⟨rfl, hb⟩; have B3 := hid (B2.out.trans (hb.mono B2.out.size)); have X3 := hid (X2.out.below hb); clear hb; (try clear y1); have y1 := X3.out.cell (i := 1) rfl; (try clear y5); have y5 := X3.out.cell (i := 5) rfl; (try clear y6); have y6 := X3.out.cell (i := 6) rfl)
    | (refine wpList_load_mid rfl 30 _ rfl w.heap.size 0 rfl [.string tx, .int .i64 n, .int .i64 tg, .bool th, .string via, .slice aA al.length aC, .slice dA dn.length dC, .slice uA us.length uC, .slice kA ks.length kC, .int .i64 d, .int .i64 x3, .int .i64 x4, .int .i64 x5, .int .i64 x6, .int .i64 x7, .int .i64 x8] _ X3.out.range Tryz.underlying30 rfl size29 ?_)
    | (go_at_call 109; (with_reducible refine (HV4.out _ B3.out).mono ?_); rintro e w4' ⟨rfl, hb⟩; have B4 := hid (B3.out.trans (hb.mono B3.out.size)); have X4 := hid (X3.out.below hb); clear hb; (try clear y1); have y1 := X4.out.cell (i := 1) rfl; (try clear y5); have y5 := X4.out.cell (i := 5) rfl; (try clear y6); have y6 := X4.out.cell (i := 6) rfl)
    | (go_at_call 111; (with_reducible refine (HP1.out _ B4.out).mono ?_); rintro e wp ⟨rfl, rfl⟩)
    | (go_at_call 111; (with_reducible refine (HP2.out _ B4.out).mono ?_); rintro e wp ⟨rfl, rfl⟩)
    | fail)
   go_ret
   exact ⟨ret_i HE.out, B4.out⟩
  have HE := hid (HD6.out.trans (if_neg (fun q => q c6)))
  subst c6
  go_enter Tryz.func48, Tryz.ntmps48
  go_wp2_with (first
   | (go_at_call 103; (with_reducible refine (known_q 103 rfl k true HKn.out _).mono ?_); rintro e w1 ⟨rfl, rfl⟩)
   | (refine load_mid_g (by rfl) 30 _ rfl w.heap.size 0 rfl [.string tx, .int .i64 n, .int .i64 tg, .bool th, .string via, .slice aA al.length aC, .slice dA dn.length dC, .slice uA us.length uC, .slice kA ks.length kC, .int .i64 d, .int .i64 x3, .int .i64 x4, .int .i64 x5, .int .i64 x6, .int .i64 x7, .int .i64 x8] _ X0.out.range Tryz.underlying30 rfl size29 ?_)
   | (go_at_call 104; (with_reducible refine HOn.out.mono ?_); rintro e w1 ⟨rfl, hb⟩; have B1 := hid (B0.out.trans (hb.mono B0.out.size)); have X1 := hid (X0.out.below hb); clear hb; (try clear y1); have y1 := X1.out.cell (i := 1) rfl; (try clear y5); have y5 := X1.out.cell (i := 5) rfl; (try clear y6); have y6 := X1.out.cell (i := 6) rfl)
   | (go_at_call 105; (with_reducible refine (bare41 k _ HBa.out _).mono ?_); rintro e w2 ⟨rfl, rfl⟩)
   | (refine wpList_load_mid rfl 30 _ rfl w.heap.size 0 rfl [.string tx, .int .i64 n, .int .i64 tg, .bool th, .string via, .slice aA al.length aC, .slice dA dn.length dC, .slice uA us.length uC, .slice kA ks.length kC, .int .i64 d, .int .i64 x3, .int .i64 x4, .int .i64 x5, .int .i64 x6, .int .i64 x7, .int .i64 x8] _ X1.out.range Tryz.underlying30 rfl size29 ?_)
   | (go_at_call 106; (with_reducible refine (HV1.out _ B1.out).mono ?_); rintro e w2' ⟨rfl, hb⟩; have B2 := hid (B1.out.trans (hb.mono B1.out.size)); have X2 := hid (X1.out.below hb); clear hb; (try clear y1); have y1 := X2.out.cell (i := 1) rfl; (try clear y5); have y5 := X2.out.cell (i := 5) rfl; (try clear y6); have y6 := X2.out.cell (i := 6) rfl)
   | (go_at_call 107; (with_reducible refine (HV2.out _).mono ?_); rintro e w9 ⟨rfl, rfl⟩)
   | (refine wpList_load_mid rfl 30 _ rfl w.heap.size 0 rfl [.string tx, .int .i64 n, .int .i64 tg, .bool th, .string via, .slice aA al.length aC, .slice dA dn.length dC, .slice uA us.length uC, .slice kA ks.length kC, .int .i64 d, .int .i64 x3, .int .i64 x4, .int .i64 x5, .int .i64 x6, .int .i64 x7, .int .i64 x8] _ X2.out.range Tryz.underlying30 rfl size29 ?_)
   | (go_at_call 108; (with_reducible refine (HV3.out _ B2.out).mono ?_); rintro e w3' ⟨rfl, hb⟩; have B3 := hid (B2.out.trans (hb.mono B2.out.size)); have X3 := hid (X2.out.below hb); clear hb; (try clear y1); have y1 := X3.out.cell (i := 1) rfl; (try clear y5); have y5 := X3.out.cell (i := 5) rfl; (try clear y6); have y6 := X3.out.cell (i := 6) rfl)
   | (refine wpList_load_mid rfl 30 _ rfl w.heap.size 0 rfl [.string tx, .int .i64 n, .int .i64 tg, .bool th, .string via, .slice aA al.length aC, .slice dA dn.length dC, .slice uA us.length uC, .slice kA ks.length kC, .int .i64 d, .int .i64 x3, .int .i64 x4, .int .i64 x5, .int .i64 x6, .int .i64 x7, .int .i64 x8] _ X3.out.range Tryz.underlying30 rfl size29 ?_)
   | (go_at_call 109; (with_reducible refine (HV4.out _ B3.out).mono ?_); rintro e w4' ⟨rfl, hb⟩; have B4 := hid (B3.out.trans (hb.mono B3.out.size)); have X4 := hid (X3.out.below hb); clear hb; (try clear y1); have y1 := X4.out.cell (i := 1) rfl; (try clear y5); have y5 := X4.out.cell (i := 5) rfl; (try clear y6); have y6 := X4.out.cell (i := 6) rfl)
   | (go_at_call 111; (with_reducible refine (HP1.out _ B4.out).mono ?_); rintro e wp ⟨rfl, rfl⟩)
   | (go_at_call 111; (with_reducible refine (HP2.out _ B4.out).mono ?_); rintro e wp ⟨rfl, rfl⟩)
   | (refine wpList_load_mid rfl 28 _ rfl w.heap.size 7 rfl [.slice uA us.length uC, .slice kA ks.length kC, .int .i64 d, .int .i64 x3, .int .i64 x4, .int .i64 x5, .int .i64 x6, .int .i64 x7, .int .i64 x8] _ (X4.out.mid 7 9) Tryz.underlying28 rfl size27 ?_)
   | (go_at_call 112; (with_reducible refine (HLv.out _ B4.out).mono ?_); rintro e wl ⟨rfl, hb⟩; have B5 := hid (B4.out.trans (hb.mono B4.out.size)); clear hb)
   | fail)
  go_ret
  exact ⟨ret_i HE.out, B5.out⟩
end Go.Proofs.YtablocpcgknmaaaGreatDoor
