/- RelateOf, RelateSums, RelateShows, RelateValid: their walks. -/
import Derived.Test.YtefajhfahnhcgaaV28
import Derived.Test.YtefajhfahnhcgaaV27
import Derived.Test.YtefajhfahnhcgaaV19
import Derived.Test.YtefajhfahnhcgaaV14
namespace Go.Proofs.Ytefajhfahnhcgaa
open Go Go.RowKit
set_option linter.unusedVariables false
set_option linter.unusedSimpArgs false

theorem fewE_le {E : Nat → Me} {n : Nat} (h : fewE E n = true) : n ≤ 40 := by
  unfold fewE at h
  rw [Bool.and_eq_true, decide_eq_true_eq] at h
  exact h.1
theorem evm_place {w : World} {A : Option Addr} {n : Nat} {E : Nat → Me} (h : Evm w A n E) : ∃ b off, 0 < n → A = some ⟨b, off, none⟩ := by
  rcases Nat.eq_zero_or_pos n with h0 | h0
  · exact ⟨0, 0, fun h1 => by omega⟩
  · obtain ⟨b, off, e, _⟩ := h.at_ h0
    exact ⟨b, off, fun _ => e⟩
/-- A summary's cells. -/
def IsSum (w : World) (E : Nat → Me) (is : List Nat) (z : Int) (o : Option Nat) (v : Value) : Prop :=
  match o with
  | none => v = .agg #[.int .i64 0, .slice none 0 0, .int .i64 0, .int .i64 0]
  | some t => ∃ A' c', v = .agg #[.int .i64 (idO E (ltL E (is.filter (isEd E z (E t).sd)))), .slice A' (reac (dsK E is z is.length)).length c', .int .i64 ((is.filter (isR E 2 z)).length : Int), .int .i64 (idO E (ltL E (is.filter (isR E 2 z))))] ∧ Cn.Rcs w A' (reac (dsK E is z is.length)).length c' (reac (dsK E is z is.length))
theorem IsSum.below {w w1 : World} {E : Nat → Me} {is : List Nat} {z : Int} {o : Option Nat} {v : Value} (h : IsSum w E is z o v) (hb : Below w.heap.size w w1) : IsSum w1 E is z o v := by
  cases o with
  | none => exact h
  | some t =>
    obtain ⟨A', c', e, hr⟩ := h
    exact ⟨A', c', e, hr.below hb⟩
theorem sumP_is {w w' : World} {E : Nat → Me} {is : List Nat} {z : Int} {o : Option Nat} {r : Ending} (h : SumP w E is z o r w') : ∃ v, r = .returned v ∧ IsSum w' E is z o v ∧ Below w.heap.size w w' := by
  cases o with
  | none => exact ⟨_, h.1, rfl, h.2⟩
  | some t =>
    obtain ⟨A', c', e, hr, hb⟩ := h
    exact ⟨_, e, ⟨A', c', rfl, hr⟩, hb⟩
theorem same14_is {E : Nat → Me} {is : List Nat} {z : Int} {o : Option Nat} {v v1 : Value} {w : World} (h : IsSum w E is z o v) (h1 : IsSum w E is z o v1) : Calls Try.prog 14 #[v, v1] w fun r w' => r = .returned (.bool true) ∧ Below w.heap.size w w' := by
  cases o with
  | none =>
    have e : v = _ := h
    have e1 : v1 = _ := h1
    rw [e, e1]
    exact same14 0 0 0 none none 0 0 0 [] w (Cn.Rcs.nil w) (Cn.Rcs.nil w)
  | some t =>
    obtain ⟨A', c', rfl, hr⟩ := h
    obtain ⟨A2, c2, rfl, hr2⟩ := h1
    exact same14 _ _ _ A' A2 _ c' c2 _ w hr hr2
theorem sum15e (A : Option Addr) (n c : Nat) (E : Nat → Me) (z : Int) (w : World) (h : Evm w A n E) (hn : n ≤ 1000) : Calls Try.prog 15 #[.slice A n c, .int .i64 z] w fun r w' => ∃ v, r = .returned v ∧ IsSum w' E (onc E n) z (gt E n z) v ∧ Below w.heap.size w w' := by
  obtain ⟨b, off, hA⟩ := evm_place h
  exact (sum15 A n c b off E z w h hA hn).mono fun _ _ h => sumP_is h
theorem rsum16e (A : Option Addr) (n c : Nat) (E : Nat → Me) (z : Int) (w : World) (h : Evm w A n E) (hc : n ≤ c) (hn : n ≤ 900000) : Calls Try.prog 16 #[.slice A n c, .int .i64 z] w fun r w' => ∃ v, r = .returned v ∧ IsSum w' E (onc E n) z (gt E n z) v ∧ Below w.heap.size w w' :=
  (rsum16 A n c E z w h hc hn).mono fun _ _ h => sumP_is h
theorem show17e (A : Option Addr) (n c : Nat) (E : Nat → Me) (z : Int) (w : World) (h : Evm w A n E) (hn : n ≤ 1000) : Calls Try.prog 17 #[.slice A n c, .int .i64 z] w fun r w' => r = .returned (.tuple #[.string (shwT E n z), .int .i64 (shwE E n z)]) ∧ Below w.heap.size w w' := by
  obtain ⟨b, off, hA⟩ := evm_place h
  exact show17 A n c b off E z w h hA hn
theorem threads20e (A : Option Addr) (n c : Nat) (E : Nat → Me) (w : World) (h : Evm w A n E) (hn : n ≤ 900000) : Calls Try.prog 20 #[.slice A n c] w (Q.IntsP w (Q.M.st (thr E (onc E n)))) := by
  obtain ⟨b, off, hA⟩ := evm_place h
  exact threads20 A n c b off E w h hA hn
theorem valid22e (A : Option Addr) (n c : Nat) (E : Nat → Me) (y : Me) (w : World) (h : Evm w A n E) (hf : Fits y) (hn : n ≤ 900000) : Calls Try.prog 22 #[.slice A n c, .agg y.cs.toArray] w fun r w' => r = .returned (.int .i64 (valM E n y)) ∧ Below w.heap.size w w' := by
  obtain ⟨b, off, hA⟩ := evm_place h
  exact valid22 A n c b off E y w h hA hf hn

set_option maxRecDepth 100000 in
set_option maxHeartbeats 8000000 in
theorem of_walk (e : Me) (w : World) (hf : Fits e) : Calls Try.prog 3 #[.agg e.cs.toArray] w fun r w' => r = .returned (.bool true) ∧ Below w.heap.size w w' := by
  have HFt := Lib.hid hf
  have HO := Lib.hid (of10 e hf)
  have HR := Lib.hid (rof11 e hf)
  have BA := Lib.hid ((Below.refl w.heap.size w).alloc (Nat.le_refl _) (.cells e.cs.toArray 34))
  have XA : Hid (Blk (w.alloc (.cells e.cs.toArray 34)) w.heap.size e.cs 34) := Lib.hid (blk_new w e.cs 34)
  clear hf
  generalize relK e = rk at HO HR
  generalize relI e = ri at HO HR
  go_enter Try.func3, Try.ntmps3
  go_upto_region 1 with (fail)
  generalize hwa : World.alloc _ _ = wa at BA XA ⊢
  clear hwa
  have RA := Lib.hid XA.out.range
  go_upto_region 2 with (first
    | (refine wpList_load_mid rfl 34 _ rfl w.heap.size 0 rfl e.cs _ RA.out Try.underlying34 rfl (size34l HFt.out.len) ?_)
    | (go_at_call 10; (with_reducible refine (HO.out _).mono ?_); rintro r w1 ⟨rfl, hb⟩; have B1 := Lib.hid (BA.out.trans (hb.mono BA.out.size)); have R1 := Lib.hid (XA.out.below hb).range; clear hb)
    | fail)
  go_wp2_with (first
    | (refine wpList_load_mid rfl 34 _ rfl w.heap.size 0 rfl e.cs _ R1.out Try.underlying34 rfl (size34l HFt.out.len) ?_)
    | (go_at_call 11; (with_reducible refine (HR.out _).mono ?_); rintro r w2 ⟨rfl, hb⟩; have B2 := Lib.hid (B1.out.trans (hb.mono B1.out.size)); clear hb)
    | (go_at_call 12; (with_reducible refine (lives12 _).mono ?_); rintro r w9 ⟨rfl, hb⟩; have B9 := Lib.hid (B2.out.trans (hb.mono B2.out.size)); clear hb)
    | go_in)
  go_ret
  exact ⟨rfl, B9.out⟩
set_option maxRecDepth 100000 in
set_option maxHeartbeats 8000000 in
theorem sums_walk (A : Option Addr) (n c : Nat) (E : Nat → Me) (z : Int) (w : World) (h : Evm w A n E) (hc : n ≤ c) : Calls Try.prog 4 #[.slice A n c, .int .i64 z] w fun r w' => r = .returned (.bool true) ∧ Below w.heap.size w w' := by
  have HFe := Lib.hid (few13 A n c E w h)
  cases hq : fewE E n with
  | false =>
    rw [hq] at HFe
    clear h hc
    go_enter Try.func4, Try.ntmps4
    go_wp2_with (first
      | (go_at_call 13; (with_reducible refine HFe.out.mono ?_); rintro r w1 ⟨rfl, rfl⟩)
      | (go_at_call 12; (with_reducible refine (lives12 _).mono ?_); rintro r w9 ⟨rfl, hb⟩; have B9 := Lib.hid (hb); clear hb)
      | go_in)
    go_ret
    exact ⟨rfl, B9.out⟩
  | true =>
    rw [hq] at HFe
    have hn := fewE_le hq
    have HS := Lib.hid (sum15e A n c E z w h (by omega))
    have HR := Lib.hid (fun u (hb : Below w.heap.size w u) => rsum16e A n c E z u (h.below hb) hc (by omega))
    clear h hc
    go_enter Try.func4, Try.ntmps4
    go_wp2_with (first
      | (go_at_call 13; (with_reducible refine HFe.out.mono ?_); rintro r w1 ⟨rfl, rfl⟩)
      | (go_at_call 15; (with_reducible refine HS.out.mono ?_); rintro r w2 ⟨v2, rfl, hs, hb⟩; have S2 := Lib.hid hs; have B2 := Lib.hid hb; clear hs hb)
      | (go_at_call 16; (with_reducible refine (HR.out _ B2.out).mono ?_); rintro r w3 ⟨v3, rfl, hs, hb⟩; have S3 := Lib.hid hs; have T3 := Lib.hid (S2.out.below hb); have B3 := Lib.hid (B2.out.trans (hb.mono B2.out.size)); clear hs hb)
      | (go_at_call 14; (with_reducible refine (same14_is T3.out S3.out).mono ?_); rintro r w4 ⟨rfl, hb⟩; have B4 := Lib.hid (B3.out.trans (hb.mono B3.out.size)); clear hb)
      | (go_at_call 12; (with_reducible refine (lives12 _).mono ?_); rintro r w9 ⟨rfl, hb⟩; have B9 := Lib.hid (B4.out.trans (hb.mono B4.out.size)); clear hb)
      | go_in)
    go_ret
    exact ⟨rfl, B9.out⟩
set_option maxRecDepth 100000 in
set_option maxHeartbeats 8000000 in
theorem shows_walk (A : Option Addr) (n c : Nat) (E : Nat → Me) (z : Int) (w : World) (h : Evm w A n E) (hc : n ≤ c) : Calls Try.prog 5 #[.slice A n c, .int .i64 z] w fun r w' => r = .returned (.bool true) ∧ Below w.heap.size w w' := by
  have HFe := Lib.hid (few13 A n c E w h)
  cases hq : fewE E n with
  | false =>
    rw [hq] at HFe
    clear h hc
    go_enter Try.func5, Try.ntmps5
    go_wp2_with (first
      | (go_at_call 13; (with_reducible refine HFe.out.mono ?_); rintro r w1 ⟨rfl, rfl⟩)
      | (go_at_call 12; (with_reducible refine (lives12 _).mono ?_); rintro r w9 ⟨rfl, hb⟩; have B9 := Lib.hid (hb); clear hb)
      | go_in)
    go_ret
    exact ⟨rfl, B9.out⟩
  | true =>
    rw [hq] at HFe
    have hn := fewE_le hq
    have HS := Lib.hid (show17e A n c E z w h (by omega))
    have HR := Lib.hid (fun u (hb : Below w.heap.size w u) => rshow18 A n c E z u (h.below hb) hc (by omega))
    have HT := Lib.hid (fun u (hb : Below w.heap.size w u) => threads20e A n c E u (h.below hb) (by omega))
    have HU := Lib.hid (fun u (hb : Below w.heap.size w u) => rthreads21 A n c E u (h.below hb) hc (by omega))
    unfold Q.IntsP at HT HU
    generalize shwT E n z = st at HS HR
    generalize shwE E n z = se at HS HR
    generalize Q.M.st (thr E (onc E n)) = ts at HT HU
    clear h hc
    go_enter Try.func5, Try.ntmps5
    go_wp2_with (first
      | (go_at_call 13; (with_reducible refine HFe.out.mono ?_); rintro r w1 ⟨rfl, rfl⟩)
      | (go_at_call 17; (with_reducible refine HS.out.mono ?_); rintro r w2 ⟨rfl, hb⟩; have B2 := Lib.hid hb; clear hb)
      | (go_at_call 18; (with_reducible refine (HR.out _ B2.out).mono ?_); rintro r w3 ⟨rfl, hb⟩; have B3 := Lib.hid (B2.out.trans (hb.mono B2.out.size)); clear hb)
      | (go_at_call 20; (with_reducible refine (HT.out _ B3.out).mono ?_); rintro r w4 ⟨A4, c4, rfl, hi, hb⟩; have I4 := Lib.hid hi; have B4 := Lib.hid (B3.out.trans (hb.mono B3.out.size)); clear hi hb)
      | (go_at_call 21; (with_reducible refine (HU.out _ B4.out).mono ?_); rintro r w5 ⟨A5, c5, rfl, hi, hb⟩; have B5 := Lib.hid (B4.out.trans (hb.mono B4.out.size)); have HSm := Lib.hid (Q.same_any A4 ts.length c4 ts A5 ts.length c5 ts w5 (I4.out.below hb) hi); rw [decide_eq_true (rfl : ts = ts)] at HSm; clear hi hb)
      | (go_at_call 19; (with_reducible refine HSm.out.mono ?_); rintro r w6 ⟨rfl, hb⟩; have B4 := Lib.hid (B5.out.trans (hb.mono B5.out.size)); clear hb)
      | (go_at_call 12; (with_reducible refine (lives12 _).mono ?_); rintro r w9 ⟨rfl, hb⟩; have B9 := Lib.hid (B4.out.trans (hb.mono B4.out.size)); clear hb)
      | go_in)
    go_ret
    exact ⟨rfl, B9.out⟩
set_option maxRecDepth 100000 in
set_option maxHeartbeats 8000000 in
theorem valid_walk (A : Option Addr) (n c : Nat) (E : Nat → Me) (e : Me) (w : World) (h : Evm w A n E) (hc : n ≤ c) (hf : Fits e) : Calls Try.prog 6 #[.slice A n c, .agg e.cs.toArray] w fun r w' => r = .returned (.bool true) ∧ Below w.heap.size w w' := by
  have HFt := Lib.hid hf
  have BA := Lib.hid ((Below.refl w.heap.size w).alloc (Nat.le_refl _) (.cells e.cs.toArray 34))
  have XA : Hid (Blk (w.alloc (.cells e.cs.toArray 34)) w.heap.size e.cs 34) := Lib.hid (blk_new w e.cs 34)
  have HFe := Lib.hid (few13 A n c E _ (h.below BA.out))
  have q2 := XA.out.cell hf.c2
  have q10 := XA.out.cell hf.c10
  cases hq : fewE E n with
  | false =>
    rw [hq] at HFe
    clear h hc hf q2 q10
    go_enter Try.func6, Try.ntmps6
    go_wp2_with (first
      | (go_at_call 13; (with_reducible refine HFe.out.mono ?_); rintro r w1 ⟨rfl, rfl⟩)
      | (go_at_call 12; (with_reducible refine (lives12 _).mono ?_); rintro r w9 ⟨rfl, hb⟩; have B9 := Lib.hid (BA.out.trans (hb.mono BA.out.size)); clear hb)
      | go_in)
    go_ret
    exact ⟨rfl, B9.out⟩
  | true =>
    rw [hq] at HFe
    have hn := fewE_le hq
    have C22 := Lib.hid (fun u (hb : Below (w.alloc (.cells e.cs.toArray 34)).heap.size (w.alloc (.cells e.cs.toArray 34)) u) => valid22e A n c E e u (h.below (BA.out.trans (hb.mono BA.out.size))) hf (by omega))
    have C23 := Lib.hid (fun u (hb : Below (w.alloc (.cells e.cs.toArray 34)).heap.size (w.alloc (.cells e.cs.toArray 34)) u) => rvalid23 A n c E e u (h.below (BA.out.trans (hb.mono BA.out.size))) hc hf (by omega))
    clear h hc hf hq hn
    generalize valM E n e = vm at C22 C23
    go_enter Try.func6, Try.ntmps6
    go_upto_region 1 with (fail)
    generalize hwa : World.alloc _ _ = wa at BA XA HFe q2 q10 C22 C23 ⊢
    clear hwa
    generalize e.sd = sd at q2
    generalize e.tx = tx at q10
    by_cases h1 : (500 : Int) < (tx.size : Int)
    · go_wp2_with (first
        | (go_at_call 13; (with_reducible refine HFe.out.mono ?_); rintro r w1 ⟨rfl, rfl⟩)
        | (go_at_call 12; (with_reducible refine (lives12 _).mono ?_); rintro r w9 ⟨rfl, hb⟩; have B9 := Lib.hid (BA.out.trans (hb.mono BA.out.size)); clear hb)
        | go_in)
      go_ret
      exact ⟨rfl, B9.out⟩
    · by_cases h2 : (100 : Int) < (sd.size : Int)
      · go_wp2_with (first
          | (go_at_call 13; (with_reducible refine HFe.out.mono ?_); rintro r w1 ⟨rfl, rfl⟩)
          | (go_at_call 12; (with_reducible refine (lives12 _).mono ?_); rintro r w9 ⟨rfl, hb⟩; have B9 := Lib.hid (BA.out.trans (hb.mono BA.out.size)); clear hb)
          | go_in)
        go_ret
        exact ⟨rfl, B9.out⟩
      · go_upto_region 3 with (first
          | (go_at_call 13; (with_reducible refine HFe.out.mono ?_); rintro r w1 ⟨rfl, rfl⟩)
          | fail)
        clear q2 q10 HFe h1 h2
        refine wp_region_held_drew (S := (fun y => Below w1.heap.size w1 y)) (by kernel_rfl) ((Below.refl w1.heap.size w1).drew) (fun hH0 => ?_)
        generalize hy0 : World.drew _ = y0 at hH0 ⊢
        have RB0 : Hid (Below w1.heap.size w1 y0) := Lib.hid hH0
        clear hy0
        refine wpAnyH_take (i := 0) (oi := ({ dst := some 22, op := Op.move (Operand.tmp 0), type := 40, pos := "law.go:88", after := #[], guard := none } : Oper)) (v := ?hv1) rfl (by kernel_rfl) (by kernel_rfl) (by kernel_rfl) (fun _ _ _ h => h) (Or.inl ⟨by rfl, ?hy1⟩) (by assumption) ?hr1
        case hy1 => (intro w hSw; (try dsimp only at hSw); go_simp; (try with_reducible rfl))
        try simp only [Act.put, List.setIfInBounds_toArray, List.set_cons_zero, List.set_cons_succ]
        refine wpAnyH_take (i := 1) (oi := ({ dst := some 23, op := Op.load 34 (Operand.tmp 3), type := 34, pos := "law.go:88", after := #[], guard := none } : Oper)) (v := .agg e.cs.toArray) rfl (by kernel_rfl) (by kernel_rfl) (by kernel_rfl) (fun _ _ _ h => h) (yieldsIf_load_mid (by rfl) 34 _ rfl w.heap.size 0 rfl e.cs _ (fun w0 hw0 => (XA.out.below hw0).range) Try.underlying34 rfl (size34l HFt.out.len)) (by assumption) ?_
        try simp only [Act.put, List.setIfInBounds_toArray, List.set_cons_zero, List.set_cons_succ]
        refine wpAnyH_take (i := 3) (oi := ({ dst := some 25, op := Op.move (Operand.tmp 0), type := 40, pos := "law.go:88", after := #[], guard := none } : Oper)) (v := ?hv2) rfl (by kernel_rfl) (by kernel_rfl) (by kernel_rfl) (fun _ _ _ h => h) (Or.inl ⟨by rfl, ?hy2⟩) (by assumption) ?hr2
        case hy2 => (intro w hSw; (try dsimp only at hSw); go_simp; (try with_reducible rfl))
        try simp only [Act.put, List.setIfInBounds_toArray, List.set_cons_zero, List.set_cons_succ]
        refine wpAnyH_take (i := 4) (oi := ({ dst := some 26, op := Op.load 34 (Operand.tmp 3), type := 34, pos := "law.go:88", after := #[], guard := none } : Oper)) (v := .agg e.cs.toArray) rfl (by kernel_rfl) (by kernel_rfl) (by kernel_rfl) (fun _ _ _ h => h) (yieldsIf_load_mid (by rfl) 34 _ rfl w.heap.size 0 rfl e.cs _ (fun w0 hw0 => (XA.out.below hw0).range) Try.underlying34 rfl (size34l HFt.out.len)) (by assumption) ?_
        try simp only [Act.put, List.setIfInBounds_toArray, List.set_cons_zero, List.set_cons_succ]
        refine wpAnyH_ready (rs := [2]) (by kernel_rfl) (by simp) ?_
        refine AllReadyH.cons (o := ({ dst := some 24, op := Op.call { callee := Callee.value (Operand.func 22), args := #[Operand.tmp 22, Operand.tmp 23], argTypes := #[40, 34] }, type := 48, pos := "law.go:88", after := #[{ on := 0, ground := Ground.data }, { on := 1, ground := Ground.data }], guard := none } : Oper)) rfl (fun KK hKK => ?_) AllReadyH.nil
        go_simp
        (with_reducible refine (C22.out _ RB0.out).mono ?_)
        rintro e0 y1 ⟨rfl, hb⟩
        have RB1 := Lib.hid (RB0.out.trans (hb.mono RB0.out.size))
        clear hb
        refine hKK.out _ _ (RB1.out) (fun hH1 => ?_)
        clear hKK KK
        try simp only [Act.put, List.setIfInBounds_toArray, List.set_cons_zero, List.set_cons_succ]
        refine wpAnyH_ready (rs := [5]) (by kernel_rfl) (by simp) ?_
        refine AllReadyH.cons (o := ({ dst := some 27, op := Op.call { callee := Callee.value (Operand.func 23), args := #[Operand.tmp 25, Operand.tmp 26], argTypes := #[40, 34] }, type := 48, pos := "law.go:88", after := #[{ on := 3, ground := Ground.data }, { on := 4, ground := Ground.data }, { on := 2, ground := Ground.chain }], guard := none } : Oper)) rfl (fun KK hKK => ?_) AllReadyH.nil
        go_simp
        (with_reducible refine (C23.out _ RB1.out).mono ?_)
        rintro e0 y2 ⟨rfl, hb⟩
        have RB2 := Lib.hid (RB1.out.trans (hb.mono RB1.out.size))
        clear hb
        refine hKK.out _ _ (RB2.out) (fun hH2 => ?_)
        clear hKK KK
        try simp only [Act.put, List.setIfInBounds_toArray, List.set_cons_zero, List.set_cons_succ]
        refine wpAnyH_take (i := 6) (oi := ({ dst := some 28, op := Op.binOp BinOp.eql 48 (Operand.tmp 24) (Operand.tmp 27) 48, type := 4, pos := "law.go:88", after := #[{ on := 2, ground := Ground.data }, { on := 5, ground := Ground.data }], guard := none } : Oper)) (v := ?hv3) rfl (by kernel_rfl) (by kernel_rfl) (by kernel_rfl) (fun _ _ _ h => h) (Or.inl ⟨by rfl, ?hy3⟩) (by assumption) ?hr3
        case hy3 => (intro w hSw; (try dsimp only at hSw); go_simp; (try with_reducible rfl))
        try simp only [Act.put, List.setIfInBounds_toArray, List.set_cons_zero, List.set_cons_succ]
        refine wpAnyH_take (i := 7) (oi := ({ dst := some 29, op := Op.move (Operand.tmp 28), type := 4, pos := "law.go:88", after := #[{ on := 6, ground := Ground.data }, { on := 5, ground := Ground.chain }], guard := none } : Oper)) (v := ?hv4) rfl (by kernel_rfl) (by kernel_rfl) (by kernel_rfl) (fun _ _ _ h => h) (Or.inl ⟨by rfl, ?hy4⟩) (by assumption) ?hr4
        case hy4 => (intro w hSw; (try dsimp only at hSw); go_simp; (try with_reducible rfl))
        try simp only [Act.put, List.setIfInBounds_toArray, List.set_cons_zero, List.set_cons_succ]
        refine wpAnyH_ready (rs := [8]) (by kernel_rfl) (by simp) ?_
        refine AllReadyH.cons (o := ({ dst := some 30, op := Op.call { callee := Callee.value (Operand.func 12), args := #[], argTypes := #[] }, type := 4, pos := "law.go:88", after := #[{ on := 7, ground := Ground.chain }, { on := 7, ground := Ground.guard }], guard := some (7, true) } : Oper)) rfl (fun KK hKK => ?_) AllReadyH.nil
        go_simp
        (with_reducible refine (lives12 _).mono ?_)
        rintro e0 y3 ⟨rfl, hb⟩
        have RB3 := Lib.hid (RB2.out.trans (hb.mono RB2.out.size))
        clear hb
        refine hKK.out _ _ (RB3.out) (fun hH3 => ?_)
        clear hKK KK
        try simp only [Act.put, List.setIfInBounds_toArray, List.set_cons_zero, List.set_cons_succ]
        refine wpAnyH_take (i := 9) (oi := ({ dst := some 31, op := Op.pick (Operand.tmp 29) (Operand.tmp 30) (Operand.const (Value.bool false)), type := 4, pos := "law.go:88", after := #[{ on := 7, ground := Ground.data }, { on := 8, ground := Ground.data }], guard := none } : Oper)) (v := ?hv5) rfl (by kernel_rfl) (by kernel_rfl) (by kernel_rfl) (fun _ _ _ h => h) (Or.inl ⟨by rfl, ?hy5⟩) (by assumption) ?hr5
        case hy5 => (intro w hSw; (try dsimp only at hSw); go_simp; (try with_reducible rfl))
        try simp only [Act.put, List.setIfInBounds_toArray, List.set_cons_zero, List.set_cons_succ]
        refine wpAnyH_take (i := 10) (oi := ({ dst := some 4, op := Op.assign (Operand.tmp 31), type := 4, pos := "law.go:88", after := #[{ on := 9, ground := Ground.data }, { on := 8, ground := Ground.chain }, { on := 0, ground := Ground.phase }, { on := 1, ground := Ground.phase }, { on := 2, ground := Ground.phase }, { on := 3, ground := Ground.phase }, { on := 4, ground := Ground.phase }, { on := 5, ground := Ground.phase }, { on := 6, ground := Ground.phase }, { on := 7, ground := Ground.phase }, { on := 8, ground := Ground.phase }, { on := 9, ground := Ground.phase }], guard := none } : Oper)) (v := ?hv6) rfl (by kernel_rfl) (by kernel_rfl) (by kernel_rfl) (fun _ _ _ h => h) (Or.inl ⟨by rfl, ?hy6⟩) (by assumption) ?hr6
        case hy6 => (intro w hSw; (try dsimp only at hSw); go_simp; (try with_reducible rfl))
        try simp only [Act.put, List.setIfInBounds_toArray, List.set_cons_zero, List.set_cons_succ]
        refine wpAnyH_done (by kernel_rfl) ?_ _
        go_wp2
        go_ret
        exact ⟨rfl, BA.out.trans (RB3.out.mono BA.out.size)⟩
end Go.Proofs.Ytefajhfahnhcgaa
