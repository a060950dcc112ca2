/- The walk of the statement on strings that are read, at most 4000 bytes. -/
import Derived.Test.YtgfodleoollmmaaW13
import Derived.Test.YtgfodleoollmmaaW15
namespace Go.Proofs.Ytgfodleoollmmaa
open Go.RowKit
set_option linter.unusedVariables false

theorem gotin_got {B : Nat} {z : Value} {r : Option (Value × List Int)} {w w' : World} {e : Ending} (h : GotIn B z r w e w') : Got z r w e w' := by
  cases r with
  | none => exact h
  | some p =>
    obtain ⟨x, rest⟩ := p
    obtain ⟨hb, A, c, he, hs, _⟩ := h
    exact ⟨hb, A, c, he, hs⟩
theorem rgetText_any (a : Option Addr) (len cap : Nat) (zs : List Int) (hl : len ≤ 800000) (w : World) (h : Sl w a len cap zs) :
    Calls Try.prog 30 #[.slice a len cap] w (Got (.string ⟨#[]⟩) (gt zs) w) :=
  (rgetText_in w.heap.size a len cap zs hl w h h.here).mono fun e w' hg => gotin_got hg
theorem tri_text (zs : List Int) : ∃ (s : ByteArray) (rest : List Int) (b : Bool), ∀ w e w', Got (.string ⟨#[]⟩) (gt zs) w e w' →
    ∃ A c, e = .returned (.tuple #[.string s, .slice A rest.length c, .bool b]) ∧ Sl w' A rest.length c rest ∧ Below w.heap.size w w' := by
  rw [gt_dt]
  cases h : dt zs with
  | none => exact ⟨⟨#[]⟩, [], false, fun w e w' hg => by
      obtain ⟨he, hb⟩ := got_no hg rfl
      exact ⟨none, 0, he, sl_nil _, hb⟩⟩
  | some p =>
    obtain ⟨x, rest⟩ := p
    exact ⟨x, rest, true, fun w e w' hg => got_yes hg rfl⟩
theorem gts_size {zs : List Int} {xs : List ByteArray} {rest : List Int} (h : gts zs = some (xs, rest)) : xs.length ≤ zs.length := by
  unfold gts at h
  cases hc : cnt zs with
  | none => rw [hc] at h; cases h
  | some p =>
    obtain ⟨n, r⟩ := p
    rw [hc] at h
    rw [(lst_rest (fun _ _ _ h => dt_len h) n r xs rest h).2]
    exact Nat.le_trans (cnt_rest hc).1 (cnt_rest hc).2.1
theorem ts_nil (w : World) : Ts w none 0 0 [] := ⟨rfl, by simp, Nat.le_refl _, fun _ => rfl, by omega⟩
theorem tri_texts (zs : List Int) : ∃ (ns : List ByteArray) (rest : List Int) (b : Bool), ns.length ≤ zs.length ∧ ∀ w e w', GotL Ts (gts zs) w e w' →
    ∃ A c A2 c2, e = .returned (.tuple #[.slice A ns.length c, .slice A2 rest.length c2, .bool b]) ∧ Ts w' A ns.length c ns ∧ Sl w' A2 rest.length c2 rest ∧ Below w.heap.size w w' := by
  cases h : gts zs with
  | none => exact ⟨[], [], false, Nat.zero_le _, fun w e w' hg => by
      obtain ⟨he, hb⟩ := gotl_no hg rfl
      exact ⟨none, 0, none, 0, he, ts_nil _, sl_nil _, hb⟩⟩
  | some p =>
    obtain ⟨xs, rest⟩ := p
    exact ⟨xs, rest, true, gts_size h, fun w e w' hg => gotl_yes hg rfl⟩

set_option maxHeartbeats 3200000 in
theorem texts_any (a : Option Addr) (len cap : Nat) (zs : List Int) (w : World) (h : Sl w a len cap zs) :
    Calls Try.prog 5 #[.slice a len cap] w fun e w' => e = .returned (.bool true) ∧ Below w.heap.size w w' := by
  by_cases hlen : 4000 < len
  · have g : decide ((4000 : Int) < (len : Int)) = true := by simp; omega
    go_enter Try.func5, Try.ntmps5
    go_wp2_with (go_at_call 10; refine (awake_any _).mono ?_; rintro e wl ⟨rfl, hbl⟩)
    go_ret
    exact ⟨rfl, hbl⟩
  have g : decide ((4000 : Int) < (len : Int)) = false := by simp; omega
  have H := Lib.hid h
  have hz := h.sz
  have hl8 : len ≤ 800000 := by omega
  clear h
  obtain ⟨s, r1, b1, t1⟩ := tri_text zs
  obtain ⟨ns, r2, b2, hns, t2⟩ := tri_texts zs
  have hns1 : ns.length ≤ 1000000 := by omega
  have T1 := Lib.hid t1
  have T2 := Lib.hid t2
  have q1 : (s.toList == s.toList) = true := beq_self_eq_true _
  have q2 : (r1 == r1) = true := beq_self_eq_true r1
  have q3 : (b1 != b1) = false := bne_self_eq_false b1
  have q4 : decide (ns = ns) = true := by simp
  have q5 : (r2 == r2) = true := beq_self_eq_true r2
  have q6 : (b2 == b2) = true := beq_self_eq_true b2
  clear t1 t2 hns hlen hz
  go_enter Try.func5, Try.ntmps5
  go_wp2_with (first
    | (go_at_call 29; refine (getText_any _ _ _ zs hl8 _ H.out).mono ?_; intro e w1 hg; obtain ⟨A1, c1, rfl, hs, hb⟩ := T1.out _ _ _ hg; have B1 := Lib.hid hb; have S1 := Lib.hid hs; clear hb hs hg)
    | (go_at_call 30; refine (rgetText_any _ _ _ zs hl8 _ (H.out.below B1.out)).mono ?_; intro e w2 hg; obtain ⟨A2, c2, rfl, hs, hb⟩ := T1.out _ _ _ hg; have B2 := Lib.hid (B1.out.trans (hb.mono B1.out.size)); have S2 := Lib.hid hs; have S1b := Lib.hid (S1.out.below hb); clear hb hs hg)
    | (go_at_call 11; refine (same_any A1 r1.length c1 r1 A2 r1.length c2 r1 _ S1b.out S2.out).mono ?_; rintro e w' ⟨rfl, rfl⟩)
    | (go_at_call 31; refine (getTexts_any _ _ _ zs hl8 _ (H.out.below B2.out)).mono ?_; intro e w3 hg; obtain ⟨A3, c3, A4, c4, rfl, hi, hs, hb⟩ := T2.out _ _ _ hg; have B3 := Lib.hid (B2.out.trans (hb.mono B2.out.size)); have I3 := Lib.hid hi; have S3 := Lib.hid hs; clear hb hs hg hi)
    | (go_at_call 32; refine (rgetTexts_any _ _ _ zs hl8 _ (H.out.below B3.out)).mono ?_; intro e w4 hg; obtain ⟨A5, c5, A6, c6, rfl, hi, hs, hb⟩ := T2.out _ _ _ hg; have B4 := Lib.hid (B3.out.trans (hb.mono B3.out.size)); have I4 := Lib.hid hi; have S4 := Lib.hid hs; have I3b := Lib.hid (I3.out.below hb); have S3b := Lib.hid (S3.out.below hb); clear hb hs hg hi)
    | (go_at_call 33; refine (sameTexts_any A3 ns.length c3 ns A5 ns.length c5 ns hns1 _ I3b.out I4.out).mono ?_; rintro e w5 ⟨rfl, hb⟩; have B5 := Lib.hid (B4.out.trans (hb.mono B4.out.size)); have S3c := Lib.hid (S3b.out.below hb); have S4c := Lib.hid (S4.out.below hb); clear hb)
    | (go_at_call 11; refine (same_any A4 r2.length c4 r2 A6 r2.length c6 r2 _ S3c.out S4c.out).mono ?_; rintro e w' ⟨rfl, rfl⟩)
    | (go_at_call 10; refine (awake_any _).mono ?_; rintro e wl ⟨rfl, hbl⟩))
  go_ret
  exact ⟨rfl, B5.out.trans (hbl.mono B5.out.size)⟩
end Go.Proofs.Ytgfodleoollmmaa
