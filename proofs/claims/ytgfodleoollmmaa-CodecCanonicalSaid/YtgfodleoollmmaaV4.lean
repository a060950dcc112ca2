/- The walk of the statement that what is read is canonical, at most 2000 bytes. -/
import Derived.Test.YtgfodleoollmmaaW17
import Derived.Deep.Cut
import Derived.Deep.CutRange
namespace Go.Proofs.Ytgfodleoollmmaa
open Go.RowKit
set_option linter.unusedVariables false

theorem canT_bool (zs : List Int) (hb : ∀ z ∈ zs, 0 ≤ z ∧ z ≤ 255) : ∃ (t : Bool) (rest : List Int) (b : Bool), (b = true → [if t then (1 : Int) else 0] ++ rest = zs) ∧ (b = false → t = false ∧ rest = []) ∧ ∀ w e w', Got (.bool false) (gb zs) w e w' →
    ∃ A c, e = .returned (.tuple #[.bool t, .slice A rest.length c, .bool b]) ∧ Sl w' A rest.length c rest ∧ Below w.heap.size w w' := by
  cases h : gb zs with
  | none => exact ⟨false, [], false, (fun h => by cases h), fun _ => ⟨rfl, rfl⟩, fun w e w' hg => by
      obtain ⟨he, hb⟩ := got_no hg rfl
      exact ⟨none, 0, he, sl_nil _, hb⟩⟩
  | some p =>
    obtain ⟨x, rest⟩ := p
    obtain ⟨t, rfl⟩ := gb_bool h
    refine ⟨_, rest, true, fun _ => ?_, (fun h => by cases h), fun w e w' hg => got_yes hg rfl⟩
    cases zs with
    | nil => cases h
    | cons c l =>
      have hc := hb c (by simp)
      have e : gb (c :: l) = if 1 < c then none else some (.bool (c == 1), l) := rfl
      rw [e] at h
      by_cases h1 : 1 < c
      · rw [if_pos h1] at h; cases h
      · rw [if_neg h1] at h
        simp only [Option.some.injEq, Prod.mk.injEq, Value.bool.injEq] at h
        rw [← h.1, ← h.2]
        by_cases h2 : c = 1
        · subst h2; rfl
        · have h0 : c = 0 := by omega
          subst h0; rfl

/-- A guarded operation that is wanted is as one with no guard. -/
theorem wpList_want {P : Program} {ops : Array Oper} {Q : Exit → Act → World → Prop} {rest : List Oper} {a : Act} {w : World} (o : Oper) (hw : Region.wanted o (yielded ops a.tmps) = true)
    (h : wpList P ops Q ({ o with guard := none } :: rest) a w) : wpList P ops Q (o :: rest) a w := by
  unfold wpList at h ⊢
  rw [if_pos hw]
  rw [if_pos (by simp [Region.wanted])] at h
  exact h

theorem own_val {B : Nat} {w w' : World} {zs : List Int} {e : Ending} (h : OwnPost B w zs e w') : ∃ v, e = .returned v ∧ Own w' B v zs ∧ Below B w w' := by
  obtain ⟨A, c, he, ho, hb⟩ := h
  exact ⟨_, he, ho, hb⟩
set_option maxHeartbeats 3200000 in
set_option maxRecDepth 100000 in
theorem canonical_any (a : Option Addr) (len cap : Nat) (zs : List Int) (w : World) (h : Sl w a len cap zs) :
    Calls Try.prog 7 #[.slice a len cap] w fun e w' => e = .returned (.bool true) ∧ Below w.heap.size w w' := by
  by_cases hlen : 2000 < len
  · have g : decide ((2000 : Int) < (len : Int)) = true := by simp; omega
    go_enter Try.func7, Try.ntmps7
    go_wp2_with (go_at_call 10; refine (awake_any _).mono ?_; rintro e wl ⟨rfl, hbl⟩)
    go_ret
    exact ⟨rfl, hbl⟩
  have g : decide ((2000 : Int) < (len : Int)) = false := by simp; omega
  have H := Lib.hid h
  have hz := h.sz
  have hl8 : len ≤ 800000 := by omega
  clear h
  obtain ⟨n, r1, b1, c1t, c1f, t1⟩ := canT_int zs H.out.bd
  obtain ⟨s, r2, b2, c2t, c2f, t2⟩ := canT_text zs H.out.bd (by omega)
  obtain ⟨ns, r3, b3, hns, c3t, c3f, t3⟩ := canT_ints zs H.out.bd
  obtain ⟨ss, r4, b4, hss, c4t, c4f, t4⟩ := canT_texts zs H.out.bd
  obtain ⟨t, r5, b5, c5t, c5f, t5⟩ := canT_bool zs H.out.bd
  have T1 := Lib.hid t1
  have C1t := Lib.hid c1t
  have C1f := Lib.hid c1f
  clear t1 c1t c1f
  have T2 := Lib.hid t2
  have C2t := Lib.hid c2t
  have C2f := Lib.hid c2f
  clear t2 c2t c2f
  have T3 := Lib.hid t3
  have C3t := Lib.hid c3t
  have C3f := Lib.hid c3f
  clear t3 c3t c3f
  have T4 := Lib.hid t4
  have C4t := Lib.hid c4t
  have C4f := Lib.hid c4f
  clear t4 c4t c4f
  have T5 := Lib.hid t5
  have C5t := Lib.hid c5t
  have C5f := Lib.hid c5f
  clear t5 c5t c5f
  have HZ := Lib.hid hz
  have HNS := Lib.hid hns
  have HSS := Lib.hid hss
  have hl2 : len ≤ 2000 := by omega
  clear hlen hz hns hss
  have q0 : (zs == zs) = true := beq_self_eq_true zs
  go_enter Try.func7, Try.ntmps7
  go_upto_region 4 with (go_at_call 22; refine (getInt_any _ _ _ zs hl8 _ (H.out.below (Below.refl w.heap.size w))).mono ?_; intro e wa1 hg; obtain ⟨A1, k1, rfl, hs, hb⟩ := T1.out _ _ _ hg; have B1 := Lib.hid (Below.trans (Below.refl w.heap.size w) (hb.mono ((Below.refl w.heap.size w)).size)); have S1 := Lib.hid hs; clear hb hs hg)
  go_cut [50] from 28 to 50 (fun c wx => c = .bool false ∧ Below w.heap.size w wx)
  case first =>
    cases b1
    · obtain ⟨rfl, rfl⟩ := C1f.out rfl
      go_wp2
      go_meet
      case rel => exact ⟨rfl, B1.out⟩
    · obtain ⟨hn, hcan⟩ := C1t.out rfl
      have HN := Lib.hid hn
      have hlen1 := congrArg List.length hcan
      rw [List.length_append, HZ.out] at hlen1
      have HC := Lib.hid hcan
      clear hn hcan
      go_wp2_with (first
        | (go_at_call 12; refine (putInt_any none 0 0 [] n HN.out (by omega) _ (sl_nil _)).mono ?_; rw [List.nil_append]; intro e w2 hp2; obtain ⟨va, rfl, ho2, hb2⟩ := own_val hp2; have Oa := Lib.hid ho2; have Ba := Lib.hid hb2; clear ho2 hb2 hp2)
        | (at_builtin; refine wpList_want _ ?_ ?_; (rfl); (refine app_bytes rfl (.tmp 31) (.tmp 32) ?_ (B := wa1.heap.size) _ (C.enc (C.zig n)) ?_ Oa.out Ba.out.size A1 r1.length k1 r1 ?_ (S1.out.below Ba.out) (by omega) ?_); (rfl); (rfl); (rfl); intro v3 w3 ho3 hb3; rw [HC.out] at ho3; obtain ⟨Xb, yb, rfl, hs3⟩ := Own.sl ho3 H.out.bd; have Bb := Lib.hid (Ba.out.trans hb3); have Sb := Lib.hid hs3; clear ho3 hb3 hs3)
        | (go_at_call 11; refine (same_any Xb zs.length yb zs a len cap zs _ Sb.out ((H.out.below B1.out).below Bb.out)).mono ?_; rintro e w' ⟨rfl, rfl⟩))
      go_meet
      case rel => exact ⟨rfl, B1.out.trans (Bb.out.mono B1.out.size)⟩
  case rest =>
  obtain ⟨rfl, hbc1⟩ := hcut
  have BC1 := Lib.hid hbc1
  clear hbc1
  go_upto_region 7 with (go_at_call 29; refine (getText_any _ _ _ zs hl8 _ (H.out.below BC1.out)).mono ?_; intro e wa2 hg; obtain ⟨A2, k2, rfl, hs, hb⟩ := T2.out _ _ _ hg; have B2 := Lib.hid (Below.trans BC1.out (hb.mono (BC1.out).size)); have S2 := Lib.hid hs; clear hb hs hg)
  go_cut [79] from 57 to 79 (fun c wx => c = .bool false ∧ Below w.heap.size w wx)
  case first =>
    cases b2
    · obtain ⟨rfl, rfl⟩ := C2f.out rfl
      go_wp2
      go_meet
      case rel => exact ⟨rfl, B2.out⟩
    · obtain ⟨hn, hcan⟩ := C2t.out rfl
      have HN := Lib.hid hn
      have hlen1 := congrArg List.length hcan
      rw [List.length_append, HZ.out] at hlen1
      have hsz := (ent_bd hn).2
      have hs8 : 0 + s.size ≤ 800000 := by omega
      have HC := Lib.hid hcan
      clear hn hcan hsz
      go_wp2_with (first
        | (go_at_call 14; refine (putText_any none 0 0 [] s HN.out hs8 _ (sl_nil _)).mono ?_; rw [List.nil_append]; intro e w2 hp2; obtain ⟨va, rfl, ho2, hb2⟩ := own_val hp2; have Oa := Lib.hid ho2; have Ba := Lib.hid hb2; clear ho2 hb2 hp2)
        | (at_builtin; refine wpList_want _ ?_ ?_; (rfl); (refine app_bytes rfl (.tmp 60) (.tmp 61) ?_ (B := wa2.heap.size) _ (ent s) ?_ Oa.out Ba.out.size A2 r2.length k2 r2 ?_ (S2.out.below Ba.out) (by omega) ?_); (rfl); (rfl); (rfl); intro v3 w3 ho3 hb3; rw [HC.out] at ho3; obtain ⟨Xb, yb, rfl, hs3⟩ := Own.sl ho3 H.out.bd; have Bb := Lib.hid (Ba.out.trans hb3); have Sb := Lib.hid hs3; clear ho3 hb3 hs3)
        | (go_at_call 11; refine (same_any Xb zs.length yb zs a len cap zs _ Sb.out ((H.out.below B2.out).below Bb.out)).mono ?_; rintro e w' ⟨rfl, rfl⟩))
      go_meet
      case rel => exact ⟨rfl, B2.out.trans (Bb.out.mono B2.out.size)⟩
  case rest =>
  obtain ⟨rfl, hbc2⟩ := hcut
  have BC2 := Lib.hid hbc2
  clear hbc2
  go_upto_region 10 with (go_at_call 24; refine (getInts_any _ _ _ zs hl8 _ (H.out.below BC2.out)).mono ?_; intro e wa3 hg; obtain ⟨AL3, kl3, A3, k3, rfl, hi, hs, hb⟩ := T3.out _ _ _ hg; have B3 := Lib.hid (Below.trans BC2.out (hb.mono (BC2.out).size)); have S3 := Lib.hid hs; have I3 := Lib.hid hi; clear hb hs hg hi)
  go_cut [109] from 86 to 109 (fun c wx => c = .bool false ∧ Below w.heap.size w wx)
  case first =>
    cases b3
    · obtain ⟨rfl, rfl⟩ := C3f.out rfl
      go_wp2
      go_meet
      case rel => exact ⟨rfl, B3.out⟩
    · have hcan := C3t.out rfl
      have hlen1 := congrArg List.length hcan
      rw [List.length_append, HZ.out] at hlen1
      have hns5 : ns.length ≤ 5000 := by have := HNS.out; have := HZ.out; omega
      have HC := Lib.hid hcan
      clear hcan
      go_wp2_with (first
        | (go_at_call 16; refine (putInts_any none 0 0 [] AL3 ns.length kl3 ns (by omega) hns5 _ (sl_nil _) I3.out).mono ?_; rw [List.nil_append]; intro e w2 hp2; obtain ⟨va, rfl, ho2, hb2⟩ := own_val hp2; have Oa := Lib.hid ho2; have Ba := Lib.hid hb2; clear ho2 hb2 hp2)
        | (at_builtin; refine wpList_want _ ?_ ?_; (rfl); (refine app_bytes rfl (.tmp 89) (.tmp 90) ?_ (B := wa3.heap.size) _ (C.enc (C.zig (ns.length : Int)) ++ encs ns) ?_ Oa.out Ba.out.size A3 r3.length k3 r3 ?_ (S3.out.below Ba.out) (by omega) ?_); (rfl); (rfl); (rfl); intro v3 w3 ho3 hb3; rw [HC.out] at ho3; obtain ⟨Xb, yb, rfl, hs3⟩ := Own.sl ho3 H.out.bd; have Bb := Lib.hid (Ba.out.trans hb3); have Sb := Lib.hid hs3; clear ho3 hb3 hs3)
        | (go_at_call 11; refine (same_any Xb zs.length yb zs a len cap zs _ Sb.out ((H.out.below B3.out).below Bb.out)).mono ?_; rintro e w' ⟨rfl, rfl⟩))
      go_meet
      case rel => exact ⟨rfl, B3.out.trans (Bb.out.mono B3.out.size)⟩
  case rest =>
  obtain ⟨rfl, hbc3⟩ := hcut
  have BC3 := Lib.hid hbc3
  clear hbc3
  go_upto_region 13 with (go_at_call 31; refine (getTexts_any _ _ _ zs hl8 _ (H.out.below BC3.out)).mono ?_; intro e wa4 hg; obtain ⟨AL4, kl4, A4, k4, rfl, hi, hs, hb⟩ := T4.out _ _ _ hg; have B4 := Lib.hid (Below.trans BC3.out (hb.mono (BC3.out).size)); have S4 := Lib.hid hs; have I4 := Lib.hid hi; clear hb hs hg hi)
  go_cut [139] from 116 to 139 (fun c wx => c = .bool false ∧ Below w.heap.size w wx)
  case first =>
    cases b4
    · obtain ⟨rfl, rfl⟩ := C4f.out rfl
      go_wp2
      go_meet
      case rel => exact ⟨rfl, B4.out⟩
    · have hcan := C4t.out rfl
      have hlen1 := congrArg List.length hcan
      rw [List.length_append, HZ.out] at hlen1
      have hns5 : ss.length ≤ 5000 := by have := HSS.out; have := HZ.out; omega
      have hsum : (ents ss).length ≤ 400000 := by rw [List.length_append] at hlen1; omega
      have HC := Lib.hid hcan
      clear hcan
      go_wp2_with (first
        | (go_at_call 18; refine (putTexts_any none 0 0 [] AL4 ss.length kl4 ss (by omega) hns5 hsum _ (sl_nil _) I4.out).mono ?_; rw [List.nil_append]; intro e w2 hp2; obtain ⟨va, rfl, ho2, hb2⟩ := own_val hp2; have Oa := Lib.hid ho2; have Ba := Lib.hid hb2; clear ho2 hb2 hp2)
        | (at_builtin; refine wpList_want _ ?_ ?_; (rfl); (refine app_bytes rfl (.tmp 119) (.tmp 120) ?_ (B := wa4.heap.size) _ (C.enc (C.zig (ss.length : Int)) ++ ents ss) ?_ Oa.out Ba.out.size A4 r4.length k4 r4 ?_ (S4.out.below Ba.out) (by omega) ?_); (rfl); (rfl); (rfl); intro v3 w3 ho3 hb3; rw [HC.out] at ho3; obtain ⟨Xb, yb, rfl, hs3⟩ := Own.sl ho3 H.out.bd; have Bb := Lib.hid (Ba.out.trans hb3); have Sb := Lib.hid hs3; clear ho3 hb3 hs3)
        | (go_at_call 11; refine (same_any Xb zs.length yb zs a len cap zs _ Sb.out ((H.out.below B4.out).below Bb.out)).mono ?_; rintro e w' ⟨rfl, rfl⟩))
      go_meet
      case rel => exact ⟨rfl, B4.out.trans (Bb.out.mono B4.out.size)⟩
  case rest =>
  obtain ⟨rfl, hbc4⟩ := hcut
  have BC4 := Lib.hid hbc4
  clear hbc4
  go_upto_region 16 with (go_at_call 27; refine (getBool_any _ _ _ zs hl8 _ (H.out.below BC4.out)).mono ?_; intro e wa5 hg; obtain ⟨A5, k5, rfl, hs, hb⟩ := T5.out _ _ _ hg; have B5 := Lib.hid (Below.trans BC4.out (hb.mono (BC4.out).size)); have S5 := Lib.hid hs; clear hb hs hg)
  cases b5
  · obtain ⟨rfl, rfl⟩ := C5f.out rfl
    go_wp2_with (go_at_call 10; refine (awake_any _).mono ?_; rintro e wl ⟨rfl, hbl⟩)
    go_ret
    exact ⟨rfl, B5.out.trans (hbl.mono B5.out.size)⟩
  · have hcan := C5t.out rfl
    have hlen1 := congrArg List.length hcan
    rw [List.length_append, HZ.out] at hlen1
    have HC := Lib.hid hcan
    clear hcan
    go_wp2_with (first
      | (go_at_call 20; refine (putBool_any none 0 0 [] t (by omega) _ (sl_nil _)).mono ?_; rw [List.nil_append]; intro e w2 hp2; obtain ⟨va, rfl, ho2, hb2⟩ := own_val hp2; have Oa := Lib.hid ho2; have Ba := Lib.hid hb2; clear ho2 hb2 hp2)
      | (at_builtin; refine wpList_want _ ?_ ?_; (rfl); (refine app_bytes rfl (.tmp 149) (.tmp 150) ?_ (B := wa5.heap.size) _ ([if t then (1 : Int) else 0]) ?_ Oa.out Ba.out.size A5 r5.length k5 r5 ?_ (S5.out.below Ba.out) (by omega) ?_); (rfl); (rfl); (rfl); intro v3 w3 ho3 hb3; rw [HC.out] at ho3; obtain ⟨Xb, yb, rfl, hs3⟩ := Own.sl ho3 H.out.bd; have Bb := Lib.hid (Ba.out.trans hb3); have Sb := Lib.hid hs3; clear ho3 hb3 hs3)
      | (go_at_call 11; refine (same_any Xb zs.length yb zs a len cap zs _ Sb.out ((H.out.below B5.out).below Bb.out)).mono ?_; rintro e w' ⟨rfl, rfl⟩)
      | (go_at_call 10; refine (awake_any _).mono ?_; rintro e wl ⟨rfl, hbl⟩))
    go_ret
    exact ⟨rfl, (B5.out.trans (Bb.out.mono B5.out.size)).trans (hbl.mono (Nat.le_trans B5.out.size Bb.out.size))⟩
end Go.Proofs.Ytgfodleoollmmaa
