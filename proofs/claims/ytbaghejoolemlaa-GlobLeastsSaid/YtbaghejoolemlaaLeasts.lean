/- GlobLeasts: for every input the statement returns true. Conditions: none beyond the statement's own. -/
import Derived.Test.YtbaghejoolemlaaRows
import Derived.Test.YtbaghejoolemlaaW9
import Derived.Lib.Strings
import Derived.Lib.IndexBytes
import Derived.ProofKit
import Derived.OpenShut
import Derived.ShutString
import Derived.ChangeOld
import Derived.Below
import Derived.SliceStrings
namespace Go.Proofs.Ytbaghejoolemlaa.globLeasts
open Go.ChangeShapes Go.WideShapes Go.ChangeAt Go.RowKit
open Go.ChangeMaps (open_string shut_string)
set_option linter.unusedVariables false

theorem own : ownKnob Try.prog.godebug = none := by kernel_rfl
theorem laidOut : laidOutB Try.prog = true := by kernel_rfl

theorem bys_app (a b : ByteArray) : bys (a ++ b) = bys a ++ bys b := by
  unfold bys
  simp [ByteArray.data_append]
theorem bys_upto (s : ByteArray) (k : Nat) : bys (s.extract 0 k) = (bys s).take k := by
  unfold bys; rw [Lib.extract_data, List.drop_zero, Nat.sub_zero, List.map_take]
theorem bys_from (s : ByteArray) (k : Nat) : bys (s.extract k s.size) = (bys s).drop k := by
  unfold bys; rw [Lib.extract_to_end, List.map_drop]
theorem size_app (a b : ByteArray) : (a ++ b).size = a.size + b.size := by rw [← bys_len, bys_app, List.length_append, bys_len, bys_len]
theorem size_upto (s : ByteArray) (k : Nat) : (s.extract 0 k).size ≤ s.size := by rw [← bys_len, bys_upto, List.length_take, bys_len]; omega
theorem size_from (s : ByteArray) (k : Nat) : (s.extract k s.size).size ≤ s.size := by rw [← bys_len, bys_from, List.length_drop, bys_len]; omega
theorem bys_one (s : ByteArray) (k : Nat) (h : k < s.size) : bys (s.extract k (k + 1)) = [(s[k].toNat : Int)] := by
  have e : bys (s.extract k (k + 1)) = ((bys s).drop k).take 1 := by
    unfold bys; rw [Lib.extract_data, List.map_take, List.map_drop, show k + 1 - k = 1 by omega]
  rw [e, List.drop_eq_getElem_cons (by rw [bys_len]; exact h), bys_getE s k h]; rfl

set_option maxHeartbeats 1600000 in
theorem walk (a0 : ByteArray) (a1 : ByteArray) (w : World) (w0 : a0.size ≤ maxLen) (w1 : a1.size ≤ maxLen) :
    Calls Try.prog 8 #[.string a0, .string a1] w fun e w' => e = .returned (.bool true) ∧ Below w.heap.size w w' := by
  have hp : a0.size ≤ 9223372036854775807 := by unfold maxLen at w0; omega
  have hs : a1.size ≤ 9223372036854775807 := by unfold maxLen at w1; omega
  by_cases h0 : 200 < a0.size
  · have g0 : decide ((200 : Int) < (a0.size : Int)) = true := by simp; omega
    go_enter Try.func8, Try.ntmps8
    go_wp2_with (go_at_call 16; refine (live_any _).mono ?_; rintro e wl ⟨rfl, hbl⟩)
    go_ret
    exact ⟨rfl, hbl⟩
  · have g0 : decide ((200 : Int) < (a0.size : Int)) = false := by simp; omega
    by_cases h1 : 200 < a1.size
    · have g1 : decide ((200 : Int) < (a1.size : Int)) = true := by simp; omega
      go_enter Try.func8, Try.ntmps8
      go_wp2_with (go_at_call 16; refine (live_any _).mono ?_; rintro e wl ⟨rfl, hbl⟩)
      go_ret
      exact ⟨rfl, hbl⟩
    · have g1 : decide ((200 : Int) < (a1.size : Int)) = false := by simp; omega
      have cp := check_any (a0) (hp)
      by_cases ka : chk (bys (a0)) = 0
      case neg =>
        have ea : (chk (bys (a0)) != 0) = true := by rw [bne_iff_ne]; exact ka
        clear ka
        generalize chk (bys (a0)) = ca at *
        have CP' := Lib.hid cp
        clear cp
        go_enter Try.func8, Try.ntmps8
        go_wp2_with (first | (go_at_call 16; refine (live_any _).mono ?_; rintro e wl ⟨rfl, hbl⟩) | (go_at_call 10; (with_reducible refine (CP'.out _).mono ?_); rintro e w' ⟨rfl, rfl⟩))
        go_ret
        exact ⟨rfl, hbl⟩
      have Ka := Lib.hid ka
      rw [ka] at cp
      have CP' := Lib.hid cp
      clear cp ka
      have hgm : ∀ S, gm (bys a0) S = G.mt (bys a0) S := fun S => by unfold gm; rw [Ka.out]; rfl
      have HGM := Lib.hid hgm
      have CL := Lib.hid (least_any a0 hp)
      have HZ := Lib.hid (bys_len a0)
      clear w0 w1 hgm
      go_enter Try.func8, Try.ntmps8
      go_wp2_with (go_at_call 10; (with_reducible refine (CP'.out _).mono ?_); rintro e w' ⟨rfl, rfl⟩)
      go_loop [5, 6] (fun v i => ∃ (k : Nat) (t : ByteArray), k ≤ a0.size ∧ i = .int .i64 k ∧ v = .string t ∧ t.size ≤ k ∧ Hid (bys t = G.fill ((bys a0).take k))) (fun _ i => a0.size - (intOf i).toNat)
      case atStart => exact ⟨0, ⟨#[]⟩, by omega, rfl, rfl, Nat.le_refl _, Lib.hid rfl⟩
      case round =>
        obtain ⟨k, t, hk, rfl, rfl, htk, HT⟩ := hrel
        by_cases hlt : k < a0.size
        · have hbl := byte_lt a0 k hlt
          obtain ⟨hb0, hb1⟩ := hbl
          have HSN := Lib.hid (bys_snoc a0 k hlt)
          by_cases h63 : (a0[k].toNat : Int) = 63
          · have e1 : ((a0[k].toNat : Int) == 63) = true := beq_iff_eq.2 h63
            have HS := Lib.hid (show bys (t ++ ⟨#[120]⟩) = G.fill ((bys a0).take (k + 1)) by rw [HSN.out, G.fill_snoc, if_pos h63, bys_app, HT.out]; rfl)
            have HZ2 := Lib.hid (show (t ++ (⟨#[120]⟩ : ByteArray)).size ≤ k + 1 by rw [size_app]; exact Nat.succ_le_succ htk)
            clear h63
            go_wp2
            go_round
            case rel => exact ⟨k + 1, _, by omega, by go_num, rfl, HZ2.out, HS⟩
            case measure => simp [intOf]; omega
          · have e1 : ((a0[k].toNat : Int) == 63) = false := beq_eq_false_iff_ne.2 h63
            by_cases h42 : (a0[k].toNat : Int) = 42
            · have e2 : ((a0[k].toNat : Int) != 42) = false := by rw [bne_eq_false_iff_eq]; exact h42
              have HS := Lib.hid (show bys t = G.fill ((bys a0).take (k + 1)) by rw [HSN.out, G.fill_snoc, if_neg h63, if_pos h42, List.append_nil, HT.out])
              clear h63 h42
              go_wp2
              go_round
              case rel => exact ⟨k + 1, t, by omega, by go_num, rfl, by omega, HS⟩
              case measure => simp [intOf]; omega
            · have e2 : ((a0[k].toNat : Int) != 42) = true := by rw [bne_iff_ne]; exact h42
              have hone : bys (a0.extract k (k + 1)) = [(a0[k].toNat : Int)] := bys_one a0 k hlt
              have hsz : (a0.extract k (k + 1)).size = 1 := by rw [← bys_len, hone]; rfl
              have HS := Lib.hid (show bys (t ++ a0.extract k (k + 1)) = G.fill ((bys a0).take (k + 1)) by rw [HSN.out, G.fill_snoc, if_neg h63, if_neg h42, bys_app, HT.out, hone])
              have HZ2 := Lib.hid (show (t ++ a0.extract k (k + 1)).size ≤ k + 1 by rw [size_app, hsz]; omega)
              have hsz2 : (a0.extract k (k + 1)).size ≤ 1 := by omega
              clear h63 h42 hone hsz
              go_wp2
              go_round
              case rel => exact ⟨k + 1, _, by omega, by go_num, rfl, HZ2.out, HS⟩
              case measure => simp [intOf]; omega
        · obtain rfl : k = a0.size := by omega
          have hT : bys t = G.fill (bys a0) := by rw [HT.out, bys_all]
          have hz : t.size = G.least (bys a0) := by rw [← bys_len, hT, G.fill_length]
          have c2 := match_any a0 t hp (by omega)
          rw [HGM.out, hT, G.mt_fill] at c2
          have c1 := match_any a0 a1 hp (by omega)
          have hle := G.mt_least (bys a0) (bys a1)
          rw [bys_len, ← HGM.out] at hle
          have C2 := Lib.hid c2
          generalize G.least (bys a0) = L at *
          have e1 : ((t.size : Int) == (L : Int)) = true := beq_iff_eq.2 (by omega)
          cases hg : gm (bys a0) (bys a1)
          · rw [hg] at c1
            have C1 := Lib.hid c1
            clear c1 c2 hg hle hT hz hlt hk
            go_wp2_with (first
              | (go_at_call 16; refine (live_any _).mono ?_; rintro e wl ⟨rfl, hbl⟩)
              | (go_at_call 14; refine (CL.out _).mono ?_; rintro e w' ⟨rfl, rfl⟩)
              | (go_at_call 17; (with_reducible refine (C1.out _).mono ?_); rintro e w1 ⟨rfl, hb1⟩)
              | (go_at_call 17; (with_reducible refine (C2.out _).mono ?_); rintro e w2 ⟨rfl, hb2⟩))
            go_ret
            exact ⟨rfl, (hb1.trans (hb2.mono hb1.size)).trans (hbl.mono (Nat.le_trans hb1.size hb2.size))⟩
          · rw [hg] at c1
            have hL := hle hg
            have C1 := Lib.hid c1
            clear c1 c2 hg hle hT hz hlt hk
            go_wp2_with (first
              | (go_at_call 16; refine (live_any _).mono ?_; rintro e wl ⟨rfl, hbl⟩)
              | (go_at_call 14; refine (CL.out _).mono ?_; rintro e w' ⟨rfl, rfl⟩)
              | (go_at_call 17; (with_reducible refine (C1.out _).mono ?_); rintro e w1 ⟨rfl, hb1⟩)
              | (go_at_call 17; (with_reducible refine (C2.out _).mono ?_); rintro e w2 ⟨rfl, hb2⟩))
            go_ret
            exact ⟨rfl, (hb1.trans (hb2.mono hb1.size)).trans (hbl.mono (Nat.le_trans hb1.size hb2.size))⟩

set_option maxRecDepth 100000 in
theorem lifted (os : Os) (started : os.Started) (H : Type) (enc : TypeId × Value → H) :
    ReturnsInHanded {} Try.checked os 8 .any (Rows.globLeastsSpec.pre6 enc Try.prog Try.f8 Rows.globLeastsRow.domain false) (Rows.globLeastsSpec.post enc Try.prog Try.f8 false true false false) := by
  refine returnsInHanded_of_change (C := Try.checked) own started (by kernel_rfl) Try.func8
    (ChangeSpec.witness6 (enc := enc) (C := Try.checked) false ⟨#[], #[.string ByteArray.empty, .string ByteArray.empty], []⟩ 8 (by kernel_rfl) (by kernel_rfl) (by kernel_rfl) (by kernel_rfl)) ?_
  intro W base args ds gs before hval0 hW hcnd _
  have hval : ∀ (j : Nat) t v, Try.f8.params[j]? = some t → args[j]? = some v → Value.okWide Try.prog W .any base t v := hval0
  have hW' := hW
  obtain ⟨p, q, hA0, hV, rfl, hfz, hnd⟩ := hW
  have hA : DataW.TrodAll enc Try.prog W 0 (fun _ => true) true Try.f8.params.toList args.toList ds p := hA0
  rw [Try.params8] at hA hval
  obtain ⟨v0, vs0, d0, ds0, p0, q0, hargs, rfl, rfl, h0, r0⟩ := trodAll_cons hA
  obtain ⟨v1, vs1, d1, ds1, p1, q1, rfl, rfl, rfl, h1, r1⟩ := trodAll_cons r0
  obtain ⟨rfl, rfl, rfl⟩ := trodAll_nil r1
  obtain rfl : args = #[v0, v1] := by cases args; simp_all
  obtain ⟨rfl, rfl⟩ := trodVars_none hV
  obtain ⟨a0, rfl, rfl, rfl, w0⟩ := open_string Try.underlying9 (hval 0 9 v0 rfl rfl) h0
  obtain ⟨a1, rfl, rfl, rfl, w1⟩ := open_string Try.underlying9 (hval 1 9 v1 rfl rfl) h1
  clear hA0 hval0
  refine (walk a0 a1 W w0 w1).mono fun e W' ⟨he, bel⟩ => ?_
  subst he
  exact ⟨_, rfl, _, _, _, [], _, [], hW', trodAll_mk1 (shut_bool Try.underlying4 _), (trodAll_cons_mk (shut_string Try.underlying9 w0) (trodAll_cons_mk (shut_string Try.underlying9 w1) trodAll_mk0)), rfl, bel.frame _, fun h => by cases h⟩

theorem over : Rows.globLeastsRow.holds Try.pinned (OpenSpec.ofChange Rows.globLeastsSpec) :=
  OpenClaim.holds_of_wide 8 Try.f8 rfl rfl rfl rfl rfl rfl rfl ⟨rfl, rfl, rfl, rfl, rfl⟩ rfl rfl rfl rfl rfl (by kernel_rfl) Try.func8 (by kernel_rfl)
    (of_decide_eq_true (by kernel_rfl)) (by unfold Func.isWrapper; first | (rw [if_pos (by decide +kernel)]; kernel_rfl) | (rw [if_neg (by decide +kernel)]; exact ⟨rfl, rfl⟩))
    (fun os started H enc _ => lifted os started H enc)

theorem proved : Rows.GlobLeastsSaid := over
#print axioms proved
end Go.Proofs.Ytbaghejoolemlaa.globLeasts
