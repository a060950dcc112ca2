/- GlobCuts: for every input the statement returns true. Conditions: none beyond the statement's own. -/
import Derived.Test.YtbaghejoolemlaaRows
import Derived.Test.YtbaghejoolemlaaW9
import Derived.Lib.Strings
import Derived.Lib.IndexBytes
import Derived.ProofKit
import Derived.OpenShut
import Derived.ShutString
import Derived.ChangeOld
import Derived.Below
import Derived.SliceStrings
namespace Go.Proofs.Ytbaghejoolemlaa.globCuts
open Go.ChangeShapes Go.WideShapes Go.ChangeAt Go.RowKit
open Go.ChangeMaps (open_string shut_string)
set_option linter.unusedVariables false

theorem own : ownKnob Try.prog.godebug = none := by kernel_rfl
theorem laidOut : laidOutB Try.prog = true := by kernel_rfl

theorem bys_app (a b : ByteArray) : bys (a ++ b) = bys a ++ bys b := by
  unfold bys
  simp [ByteArray.data_append]
theorem bys_upto (s : ByteArray) (k : Nat) : bys (s.extract 0 k) = (bys s).take k := by
  unfold bys; rw [Lib.extract_data, List.drop_zero, Nat.sub_zero, List.map_take]
theorem bys_from (s : ByteArray) (k : Nat) : bys (s.extract k s.size) = (bys s).drop k := by
  unfold bys; rw [Lib.extract_to_end, List.map_drop]
theorem size_app (a b : ByteArray) : (a ++ b).size = a.size + b.size := by rw [← bys_len, bys_app, List.length_append, bys_len, bys_len]
theorem size_upto (s : ByteArray) (k : Nat) : (s.extract 0 k).size ≤ s.size := by rw [← bys_len, bys_upto, List.length_take, bys_len]; omega
theorem size_from (s : ByteArray) (k : Nat) : (s.extract k s.size).size ≤ s.size := by rw [← bys_len, bys_from, List.length_drop, bys_len]; omega
/-- Some cut before place k fits. -/
def cutB (P Q S : List Int) (k : Nat) : Bool := (List.range k).any fun i => gm P (S.take i) && gm Q (S.drop i)
theorem cutB_succ (P Q S : List Int) (k : Nat) : cutB P Q S (k + 1) = (cutB P Q S k || (gm P (S.take k) && gm Q (S.drop k))) := by
  unfold cutB; rw [List.range_succ, List.any_append]; simp
theorem gm_cut {a b : ByteArray} (ha : chk (bys a) = 0) (hb : chk (bys b) = 0) (hc : chk (bys (a ++ b)) = 0) (S : List Int) : gm (bys a ++ bys b) S = cutB (bys a) (bys b) S (S.length + 1) := by
  rw [bys_app] at hc
  unfold cutB gm
  rw [ha, hb, hc, Bool.eq_iff_iff]
  simp only [beq_self_eq_true, Bool.true_and]
  rw [G.mt_split, List.any_eq_true]
  constructor
  · rintro ⟨i, hi, h1, h2⟩
    exact ⟨i, by simp; omega, by simp [h1, h2]⟩
  · rintro ⟨i, hi, h⟩
    simp only [Bool.and_eq_true] at h
    simp at hi
    exact ⟨i, by omega, h.1, h.2⟩

set_option maxHeartbeats 1600000 in
theorem walk (a0 : ByteArray) (a1 : ByteArray) (a2 : ByteArray) (w : World) (w0 : a0.size ≤ maxLen) (w1 : a1.size ≤ maxLen) (w2 : a2.size ≤ maxLen) :
    Calls Try.prog 7 #[.string a0, .string a1, .string a2] w fun e w' => e = .returned (.bool true) ∧ Below w.heap.size w w' := by
  have hp : a0.size ≤ 9223372036854775807 := by unfold maxLen at w0; omega
  have hq : a1.size ≤ 9223372036854775807 := by unfold maxLen at w1; omega
  have hs : a2.size ≤ 9223372036854775807 := by unfold maxLen at w2; omega
  by_cases h0 : 100 < a0.size
  · have g0 : decide ((100 : Int) < (a0.size : Int)) = true := by simp; omega
    go_enter Try.func7, Try.ntmps7
    go_wp2_with (go_at_call 16; refine (live_any _).mono ?_; rintro e wl ⟨rfl, hbl⟩)
    go_ret
    exact ⟨rfl, hbl⟩
  · have g0 : decide ((100 : Int) < (a0.size : Int)) = false := by simp; omega
    by_cases h1 : 100 < a1.size
    · have g1 : decide ((100 : Int) < (a1.size : Int)) = true := by simp; omega
      go_enter Try.func7, Try.ntmps7
      go_wp2_with (go_at_call 16; refine (live_any _).mono ?_; rintro e wl ⟨rfl, hbl⟩)
      go_ret
      exact ⟨rfl, hbl⟩
    · have g1 : decide ((100 : Int) < (a1.size : Int)) = false := by simp; omega
      by_cases h2 : 100 < a2.size
      · have g2 : decide ((100 : Int) < (a2.size : Int)) = true := by simp; omega
        go_enter Try.func7, Try.ntmps7
        go_wp2_with (go_at_call 16; refine (live_any _).mono ?_; rintro e wl ⟨rfl, hbl⟩)
        go_ret
        exact ⟨rfl, hbl⟩
      · have g2 : decide ((100 : Int) < (a2.size : Int)) = false := by simp; omega
        have cp := check_any (a0) (hp)
        by_cases ka : chk (bys (a0)) = 0
        case neg =>
          have ea : (chk (bys (a0)) != 0) = true := by rw [bne_iff_ne]; exact ka
          clear ka
          generalize chk (bys (a0)) = ca at *
          have CP' := Lib.hid cp
          clear cp
          go_enter Try.func7, Try.ntmps7
          go_wp2_with (first | (go_at_call 16; refine (live_any _).mono ?_; rintro e wl ⟨rfl, hbl⟩) | (go_at_call 10; (with_reducible refine (CP'.out _).mono ?_); rintro e w' ⟨rfl, rfl⟩))
          go_ret
          exact ⟨rfl, hbl⟩
        have Ka := Lib.hid ka
        rw [ka] at cp
        have CP' := Lib.hid cp
        clear cp ka
        have cq := check_any (a1) (hq)
        by_cases kb : chk (bys (a1)) = 0
        case neg =>
          have eb : (chk (bys (a1)) != 0) = true := by rw [bne_iff_ne]; exact kb
          clear kb
          generalize chk (bys (a1)) = cb at *
          have CQ' := Lib.hid cq
          clear cq
          go_enter Try.func7, Try.ntmps7
          go_wp2_with (first | (go_at_call 16; refine (live_any _).mono ?_; rintro e wl ⟨rfl, hbl⟩) | (go_at_call 10; (with_reducible refine (CP'.out _).mono ?_); rintro e w' ⟨rfl, rfl⟩) | (go_at_call 10; (with_reducible refine (CQ'.out _).mono ?_); rintro e w' ⟨rfl, rfl⟩))
          go_ret
          exact ⟨rfl, hbl⟩
        have Kb := Lib.hid kb
        rw [kb] at cq
        have CQ' := Lib.hid cq
        clear cq kb
        have cr := check_any (a0 ++ a1) (by rw [size_app]; omega)
        by_cases kc : chk (bys (a0 ++ a1)) = 0
        case neg =>
          have ec : (chk (bys (a0 ++ a1)) != 0) = true := by rw [bne_iff_ne]; exact kc
          clear kc
          generalize chk (bys (a0 ++ a1)) = cc at *
          have CR' := Lib.hid cr
          clear cr
          go_enter Try.func7, Try.ntmps7
          go_wp2_with (first | (go_at_call 16; refine (live_any _).mono ?_; rintro e wl ⟨rfl, hbl⟩) | (go_at_call 10; (with_reducible refine (CP'.out _).mono ?_); rintro e w' ⟨rfl, rfl⟩) | (go_at_call 10; (with_reducible refine (CQ'.out _).mono ?_); rintro e w' ⟨rfl, rfl⟩) | (go_at_call 10; (with_reducible refine (CR'.out _).mono ?_); rintro e w' ⟨rfl, rfl⟩))
          go_ret
          exact ⟨rfl, hbl⟩
        have Kc := Lib.hid kc
        rw [kc] at cr
        have CR' := Lib.hid cr
        clear cr kc
        have HG := Lib.hid (gm_cut Ka.out Kb.out Kc.out (bys a2))
        have HZ := Lib.hid (bys_len a2)
        have hpq : (a0 ++ a1).size ≤ 9223372036854775807 := by rw [size_app]; omega
        clear w0 w1 w2
        go_enter Try.func7, Try.ntmps7
        go_wp2_with (first
          | (go_at_call 10; (with_reducible refine (CP'.out _).mono ?_); rintro e w' ⟨rfl, rfl⟩)
          | (go_at_call 10; (with_reducible refine (CQ'.out _).mono ?_); rintro e w' ⟨rfl, rfl⟩)
          | (go_at_call 10; (with_reducible refine (CR'.out _).mono ?_); rintro e w' ⟨rfl, rfl⟩))
        go_loopw [7, 8] (fun v i wr => ∃ (k : Nat) (b : Bool), k ≤ a2.size + 1 ∧ i = .int .i64 k ∧ v = .bool b ∧ Hid (b = cutB (bys a0) (bys a1) (bys a2) k) ∧ Hid (Below w.heap.size w wr)) (fun _ i _ => a2.size + 1 - (intOf i).toNat)
        case atStart => exact ⟨0, false, by omega, rfl, rfl, Lib.hid rfl, Lib.hid (Below.refl _ _)⟩
        case round =>
          obtain ⟨k, b, hk, rfl, rfl, HV, HB⟩ := hrel
          by_cases hlt : k ≤ a2.size
          · have hst := cutB_succ (bys a0) (bys a1) (bys a2) k
            cases b
            · have c1 := match_any a0 (a2.extract 0 k) hp (by have := size_upto a2 k; omega)
              have c2 := match_any a1 (a2.extract k a2.size) hq (by have := size_from a2 k; omega)
              rw [bys_upto] at c1
              rw [bys_from] at c2
              cases h1 : gm (bys a0) ((bys a2).take k)
              · rw [h1] at c1 hst
                have C1 := Lib.hid c1
                have HS := Lib.hid (show cutB (bys a0) (bys a1) (bys a2) (k + 1) = false by rw [hst, ← HV.out]; rfl)
                clear c1 c2 h1 hst
                go_wp2_with (go_at_call 17; (with_reducible refine (C1.out _).mono ?_); rintro e w1 ⟨rfl, hb1⟩)
                go_roundw
                case rel => exact ⟨k + 1, false, by omega, by go_num, rfl, Lib.hid HS.out.symm, Lib.hid (HB.out.trans (hb1.mono HB.out.size))⟩
                case measure => simp [intOf]; omega
              · rw [h1] at c1 hst
                have C1 := Lib.hid c1
                cases h2 : gm (bys a1) ((bys a2).drop k)
                all_goals
                  rw [h2] at c2 hst
                  have C2 := Lib.hid c2
                  have HS := Lib.hid (hst.trans (by rw [← HV.out]))
                  clear c1 c2 h1 h2 hst
                  go_wp2_with (first
                    | (go_at_call 17; (with_reducible refine (C1.out _).mono ?_); rintro e w1 ⟨rfl, hb1⟩)
                    | (go_at_call 17; (with_reducible refine (C2.out _).mono ?_); rintro e w2 ⟨rfl, hb2⟩))
                  go_roundw
                  case rel => exact ⟨k + 1, _, by omega, by go_num, rfl, Lib.hid HS.out.symm, Lib.hid (HB.out.trans ((hb1.trans (hb2.mono hb1.size)).mono HB.out.size))⟩
                  case measure => simp [intOf]; omega
            · have HS := Lib.hid (show cutB (bys a0) (bys a1) (bys a2) (k + 1) = true by rw [hst, ← HV.out]; rfl)
              clear hst
              go_wp2
              go_roundw
              case rel => exact ⟨k + 1, true, by omega, by go_num, rfl, Lib.hid HS.out.symm, HB⟩
              case measure => simp [intOf]; omega
          · obtain rfl : k = a2.size + 1 := by omega
            have c3 := match_any (a0 ++ a1) a2 hpq (by omega)
            rw [bys_app, HG.out, HZ.out, ← HV.out] at c3
            have C3 := Lib.hid c3
            have e1 : (b == b) = true := beq_self_eq_true _
            clear c3
            go_wp2_with (first
              | (go_at_call 16; refine (live_any _).mono ?_; rintro e wl ⟨rfl, hbl⟩)
              | (go_at_call 17; (with_reducible refine (C3.out _).mono ?_); rintro e w1 ⟨rfl, hb1⟩))
            go_ret
            exact ⟨rfl, (HB.out.trans (hb1.mono HB.out.size)).trans (hbl.mono (Nat.le_trans HB.out.size hb1.size))⟩

set_option maxRecDepth 100000 in
theorem lifted (os : Os) (started : os.Started) (H : Type) (enc : TypeId × Value → H) :
    ReturnsInHanded {} Try.checked os 7 .any (Rows.globCutsSpec.pre6 enc Try.prog Try.f7 Rows.globCutsRow.domain false) (Rows.globCutsSpec.post enc Try.prog Try.f7 false true false false) := by
  refine returnsInHanded_of_change (C := Try.checked) own started (by kernel_rfl) Try.func7
    (ChangeSpec.witness6 (enc := enc) (C := Try.checked) false ⟨#[], #[.string ByteArray.empty, .string ByteArray.empty, .string ByteArray.empty], []⟩ 8 (by kernel_rfl) (by kernel_rfl) (by kernel_rfl) (by kernel_rfl)) ?_
  intro W base args ds gs before hval0 hW hcnd _
  have hval : ∀ (j : Nat) t v, Try.f7.params[j]? = some t → args[j]? = some v → Value.okWide Try.prog W .any base t v := hval0
  have hW' := hW
  obtain ⟨p, q, hA0, hV, rfl, hfz, hnd⟩ := hW
  have hA : DataW.TrodAll enc Try.prog W 0 (fun _ => true) true Try.f7.params.toList args.toList ds p := hA0
  rw [Try.params7] at hA hval
  obtain ⟨v0, vs0, d0, ds0, p0, q0, hargs, rfl, rfl, h0, r0⟩ := trodAll_cons hA
  obtain ⟨v1, vs1, d1, ds1, p1, q1, rfl, rfl, rfl, h1, r1⟩ := trodAll_cons r0
  obtain ⟨v2, vs2, d2, ds2, p2, q2, rfl, rfl, rfl, h2, r2⟩ := trodAll_cons r1
  obtain ⟨rfl, rfl, rfl⟩ := trodAll_nil r2
  obtain rfl : args = #[v0, v1, v2] := by cases args; simp_all
  obtain ⟨rfl, rfl⟩ := trodVars_none hV
  obtain ⟨a0, rfl, rfl, rfl, w0⟩ := open_string Try.underlying9 (hval 0 9 v0 rfl rfl) h0
  obtain ⟨a1, rfl, rfl, rfl, w1⟩ := open_string Try.underlying9 (hval 1 9 v1 rfl rfl) h1
  obtain ⟨a2, rfl, rfl, rfl, w2⟩ := open_string Try.underlying9 (hval 2 9 v2 rfl rfl) h2
  clear hA0 hval0
  refine (walk a0 a1 a2 W w0 w1 w2).mono fun e W' ⟨he, bel⟩ => ?_
  subst he
  exact ⟨_, rfl, _, _, _, [], _, [], hW', trodAll_mk1 (shut_bool Try.underlying4 _), (trodAll_cons_mk (shut_string Try.underlying9 w0) (trodAll_cons_mk (shut_string Try.underlying9 w1) (trodAll_cons_mk (shut_string Try.underlying9 w2) trodAll_mk0))), rfl, bel.frame _, fun h => by cases h⟩

theorem over : Rows.globCutsRow.holds Try.pinned (OpenSpec.ofChange Rows.globCutsSpec) :=
  OpenClaim.holds_of_wide 7 Try.f7 rfl rfl rfl rfl rfl rfl rfl ⟨rfl, rfl, rfl, rfl, rfl⟩ rfl rfl rfl rfl rfl (by kernel_rfl) Try.func7 (by kernel_rfl)
    (of_decide_eq_true (by kernel_rfl)) (by unfold Func.isWrapper; first | (rw [if_pos (by decide +kernel)]; kernel_rfl) | (rw [if_neg (by decide +kernel)]; exact ⟨rfl, rfl⟩))
    (fun os started H enc _ => lifted os started H enc)

theorem proved : Rows.GlobCutsSaid := over
#print axioms proved
end Go.Proofs.Ytbaghejoolemlaa.globCuts
