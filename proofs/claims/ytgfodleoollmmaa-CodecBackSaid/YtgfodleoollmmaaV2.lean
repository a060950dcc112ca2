/- The walk of the statement on integers that are read, at most 4000 bytes. -/
import Derived.Test.YtgfodleoollmmaaW11
import Derived.Test.YtgfodleoollmmaaW14
namespace Go.Proofs.Ytgfodleoollmmaa
open Go.RowKit
set_option linter.unusedVariables false

theorem tri_int (zs : List Int) : ∃ (n : Int) (rest : List Int) (b : Bool), ∀ w e w', Got (.int .i64 0) (gi zs) w e w' →
    ∃ A c, e = .returned (.tuple #[.int .i64 n, .slice A rest.length c, .bool b]) ∧ Sl w' A rest.length c rest ∧ Below w.heap.size w w' := by
  cases h : gi zs with
  | none => exact ⟨0, [], false, fun w e w' hg => by
      obtain ⟨he, hb⟩ := got_no hg rfl
      exact ⟨none, 0, he, sl_nil _, hb⟩⟩
  | some p =>
    obtain ⟨x, rest⟩ := p
    obtain ⟨_, _, u, rfl, _⟩ := gi_rest h
    exact ⟨_, rest, true, fun w e w' hg => got_yes hg rfl⟩
theorem gb_bool {zs : List Int} {x : Value} {rest : List Int} (h : gb zs = some (x, rest)) : ∃ t, x = .bool t := by
  unfold gb at h
  revert h
  repeat' split
  all_goals (intro h; first | (cases h; done) | (simp only [Option.some.injEq, Prod.mk.injEq] at h; exact ⟨_, h.1.symm⟩))
theorem tri_bool (zs : List Int) : ∃ (t : Bool) (rest : List Int) (b : Bool), ∀ w e w', Got (.bool false) (gb zs) w e w' →
    ∃ A c, e = .returned (.tuple #[.bool t, .slice A rest.length c, .bool b]) ∧ Sl w' A rest.length c rest ∧ Below w.heap.size w w' := by
  cases h : gb zs with
  | none => exact ⟨false, [], false, fun w e w' hg => by
      obtain ⟨he, hb⟩ := got_no hg rfl
      exact ⟨none, 0, he, sl_nil _, hb⟩⟩
  | some p =>
    obtain ⟨x, rest⟩ := p
    obtain ⟨t, rfl⟩ := gb_bool h
    exact ⟨_, rest, true, fun w e w' hg => got_yes hg rfl⟩
theorem gis_size {zs : List Int} {xs rest : List Int} (h : gis zs = some (xs, rest)) : xs.length ≤ zs.length := by
  unfold gis at h
  cases hc : cnt zs with
  | none => rw [hc] at h; cases h
  | some p =>
    obtain ⟨n, r⟩ := p
    rw [hc] at h
    rw [(lst_rest (fun _ _ _ h => di_len h) n r xs rest h).2]
    exact Nat.le_trans (cnt_rest hc).1 (cnt_rest hc).2.1
theorem is_nil (w : World) : Is w none 0 0 [] := ⟨rfl, by simp, Nat.le_refl _, fun _ => rfl, by omega⟩
theorem tri_ints (zs : List Int) : ∃ (ns rest : List Int) (b : Bool), ns.length ≤ zs.length ∧ ∀ w e w', GotL Is (gis zs) w e w' →
    ∃ A c A2 c2, e = .returned (.tuple #[.slice A ns.length c, .slice A2 rest.length c2, .bool b]) ∧ Is w' A ns.length c ns ∧ Sl w' A2 rest.length c2 rest ∧ Below w.heap.size w w' := by
  cases h : gis zs with
  | none => exact ⟨[], [], false, Nat.zero_le _, fun w e w' hg => by
      obtain ⟨he, hb⟩ := gotl_no hg rfl
      exact ⟨none, 0, none, 0, he, is_nil _, sl_nil _, hb⟩⟩
  | some p =>
    obtain ⟨xs, rest⟩ := p
    exact ⟨xs, rest, true, gis_size h, fun w e w' hg => gotl_yes hg rfl⟩

set_option maxHeartbeats 3200000 in
theorem ints_any (a : Option Addr) (len cap : Nat) (zs : List Int) (w : World) (h : Sl w a len cap zs) :
    Calls Try.prog 4 #[.slice a len cap] w fun e w' => e = .returned (.bool true) ∧ Below w.heap.size w w' := by
  by_cases hlen : 4000 < len
  · have g : decide ((4000 : Int) < (len : Int)) = true := by simp; omega
    go_enter Try.func4, Try.ntmps4
    go_wp2_with (go_at_call 10; refine (awake_any _).mono ?_; rintro e wl ⟨rfl, hbl⟩)
    go_ret
    exact ⟨rfl, hbl⟩
  have g : decide ((4000 : Int) < (len : Int)) = false := by simp; omega
  have H := Lib.hid h
  have hz := h.sz
  have hl8 : len ≤ 800000 := by omega
  have hl9 : len ≤ 900000 := by omega
  clear h
  obtain ⟨n, r1, b1, t1⟩ := tri_int zs
  obtain ⟨ns, r2, b2, hns, t2⟩ := tri_ints zs
  obtain ⟨t, r3, b3, t3⟩ := tri_bool zs
  have hns1 : ns.length ≤ 1000000 := by omega
  have T1 := Lib.hid t1
  have T2 := Lib.hid t2
  have T3 := Lib.hid t3
  have q1 : (n != n) = false := bne_self_eq_false n
  have q2 : (r1 == r1) = true := beq_self_eq_true r1
  have q3 : (b1 != b1) = false := bne_self_eq_false b1
  have q4 : (ns == ns) = true := beq_self_eq_true ns
  have q5 : (r2 == r2) = true := beq_self_eq_true r2
  have q6 : (b2 != b2) = false := bne_self_eq_false b2
  have q7 : (t == t) = true := beq_self_eq_true t
  have q8 : (r3 == r3) = true := beq_self_eq_true r3
  have q9 : (b3 == b3) = true := beq_self_eq_true b3
  clear t1 t2 t3 hns hlen hz
  go_enter Try.func4, Try.ntmps4
  go_wp2_with (first
    | (go_at_call 22; refine (getInt_any _ _ _ zs hl8 _ H.out).mono ?_; intro e w1 hg; obtain ⟨A1, c1, rfl, hs, hb⟩ := T1.out _ _ _ hg; have B1 := Lib.hid hb; have S1 := Lib.hid hs; clear hb hs hg)
    | (go_at_call 23; refine (rgetInt_any _ _ _ zs hl8 _ (H.out.below B1.out)).mono ?_; intro e w2 hg; obtain ⟨A2, c2, rfl, hs, hb⟩ := T1.out _ _ _ hg; have B2 := Lib.hid (B1.out.trans (hb.mono B1.out.size)); have S2 := Lib.hid hs; have S1b := Lib.hid (S1.out.below hb); clear hb hs hg)
    | (go_at_call 11; refine (same_any A1 r1.length c1 r1 A2 r1.length c2 r1 _ S1b.out S2.out).mono ?_; rintro e w' ⟨rfl, rfl⟩)
    | (go_at_call 24; refine (getInts_any _ _ _ zs hl8 _ (H.out.below B2.out)).mono ?_; intro e w3 hg; obtain ⟨A3, c3, A4, c4, rfl, hi, hs, hb⟩ := T2.out _ _ _ hg; have B3 := Lib.hid (B2.out.trans (hb.mono B2.out.size)); have I3 := Lib.hid hi; have S3 := Lib.hid hs; clear hb hs hg hi)
    | (go_at_call 25; refine (rgetInts_any _ _ _ zs hl8 _ (H.out.below B3.out)).mono ?_; intro e w4 hg; obtain ⟨A5, c5, A6, c6, rfl, hi, hs, hb⟩ := T2.out _ _ _ hg; have B4 := Lib.hid (B3.out.trans (hb.mono B3.out.size)); have I4 := Lib.hid hi; have S4 := Lib.hid hs; have I3b := Lib.hid (I3.out.below hb); have S3b := Lib.hid (S3.out.below hb); clear hb hs hg hi)
    | (go_at_call 26; refine (sameInts_any A3 ns.length c3 ns A5 ns.length c5 ns hns1 _ I3b.out I4.out).mono ?_; rintro e w5 ⟨rfl, hb⟩; have B5 := Lib.hid (B4.out.trans (hb.mono B4.out.size)); have S3c := Lib.hid (S3b.out.below hb); have S4c := Lib.hid (S4.out.below hb); clear hb)
    | (go_at_call 11; refine (same_any A4 r2.length c4 r2 A6 r2.length c6 r2 _ S3c.out S4c.out).mono ?_; rintro e w' ⟨rfl, rfl⟩)
    | (go_at_call 27; refine (getBool_any _ _ _ zs hl8 _ (H.out.below B5.out)).mono ?_; intro e w6 hg; obtain ⟨A7, c7, rfl, hs, hb⟩ := T3.out _ _ _ hg; have B6 := Lib.hid (B5.out.trans (hb.mono B5.out.size)); have S6 := Lib.hid hs; clear hb hs hg)
    | (go_at_call 28; refine (rgetBool_any _ _ _ zs hl9 _ (H.out.below B6.out)).mono ?_; intro e w7 hg; obtain ⟨A8, c8, rfl, hs, hb⟩ := T3.out _ _ _ hg; have B7 := Lib.hid (B6.out.trans (hb.mono B6.out.size)); have S7 := Lib.hid hs; have S6b := Lib.hid (S6.out.below hb); clear hb hs hg)
    | (go_at_call 11; refine (same_any A7 r3.length c7 r3 A8 r3.length c8 r3 _ S6b.out S7.out).mono ?_; rintro e w' ⟨rfl, rfl⟩)
    | (go_at_call 10; refine (awake_any _).mono ?_; rintro e wl ⟨rfl, hbl⟩))
  go_ret
  exact ⟨rfl, B7.out.trans (hbl.mono B7.out.size)⟩
end Go.Proofs.Ytgfodleoollmmaa
