/- GlobPlains: for every input the statement returns true. Conditions: none beyond the statement's own. -/
import Derived.Test.YtbaghejoolemlaaRows
import Derived.Test.YtbaghejoolemlaaW9
import Derived.ProofKit
import Derived.OpenShut
import Derived.ShutString
import Derived.ChangeOld
import Derived.Below
import Derived.SliceStrings
namespace Go.Proofs.Ytbaghejoolemlaa.globPlains
open Go.ChangeShapes Go.WideShapes Go.ChangeAt Go.RowKit
open Go.ChangeMaps (open_string shut_string)
set_option linter.unusedVariables false

theorem own : ownKnob Try.prog.godebug = none := by kernel_rfl
theorem laidOut : laidOutB Try.prog = true := by kernel_rfl

theorem bys_inj {a b : ByteArray} (h : bys a = bys b) : a = b := by
  apply ByteArray.ext
  apply Array.ext'
  have := congrArg (List.map (fun n : Int => UInt8.ofNat n.toNat)) h
  unfold bys at this
  simpa [List.map_map, Function.comp_def] using this

set_option maxHeartbeats 1600000 in
theorem walk (a0 : ByteArray) (a1 : ByteArray) (w : World) (w0 : a0.size ≤ maxLen) (w1 : a1.size ≤ maxLen) :
    Calls Try.prog 6 #[.string a0, .string a1] w fun e w' => e = .returned (.bool true) ∧ Below w.heap.size w w' := by
  have hp : a0.size ≤ 9223372036854775807 := by unfold maxLen at w0; omega
  have hs : a1.size ≤ 9223372036854775807 := by unfold maxLen at w1; omega
  by_cases h : 200 < a0.size
  · have g : decide ((200 : Int) < (a0.size : Int)) = true := by simp; omega
    go_enter Try.func6, Try.ntmps6
    go_wp2_with (go_at_call 16; refine (live_any _).mono ?_; rintro e wl ⟨rfl, hbl⟩)
    go_ret
    exact ⟨rfl, hbl⟩
  · have g : decide ((200 : Int) < (a0.size : Int)) = false := by simp; omega
    by_cases h2 : 200 < a1.size
    · have g2 : decide ((200 : Int) < (a1.size : Int)) = true := by simp; omega
      go_enter Try.func6, Try.ntmps6
      go_wp2_with (go_at_call 16; refine (live_any _).mono ?_; rintro e wl ⟨rfl, hbl⟩)
      go_ret
      exact ⟨rfl, hbl⟩
    · have g2 : decide ((200 : Int) < (a1.size : Int)) = false := by simp; omega
      have c1 := check_any a0 hp
      by_cases h3 : chk (bys a0) = 0
      · rw [h3] at c1
        have C1 := Lib.hid c1
        have c2 := plain_any a0 hp
        cases h4 : plb (bys a0)
        · rw [h4] at c2
          have C2 := Lib.hid c2
          clear c1 c2 h h2 h3 h4
          go_enter Try.func6, Try.ntmps6
          go_wp2_with (first
            | (go_at_call 16; refine (live_any _).mono ?_; rintro e wl ⟨rfl, hbl⟩)
            | (go_at_call 10; refine (C1.out _).mono ?_; rintro e w' ⟨rfl, rfl⟩)
            | (go_at_call 12; refine (C2.out _).mono ?_; rintro e w' ⟨rfl, rfl⟩))
          go_ret
          exact ⟨rfl, hbl⟩
        · rw [h4] at c2
          have C2 := Lib.hid c2
          have hself : ∀ S, gm (bys a0) S = (bys a0 == S) := fun S => by
            unfold gm; rw [h3]
            rw [show ((0 : Int) == 0) = true from rfl, Bool.true_and]
            exact G.mt_self _ (fun c hc => by unfold plb at h4; rw [List.all_eq_true] at h4; simpa using h4 c hc) S
          have c3 := match_any a0 a0 hp (by omega)
          have c4 := match_any a0 a1 hp (by omega)
          rw [hself, beq_self_eq_true] at c3
          rw [hself] at c4
          have C3 := Lib.hid c3
          by_cases h5 : a0 = a1
          · subst h5
            clear c1 c2 c3 c4 h h2 h3 h4 hself
            go_enter Try.func6, Try.ntmps6
            go_wp2_with (first
              | (go_at_call 16; refine (live_any _).mono ?_; rintro e wl ⟨rfl, hbl⟩)
              | (go_at_call 10; refine (C1.out _).mono ?_; rintro e w' ⟨rfl, rfl⟩)
              | (go_at_call 12; refine (C2.out _).mono ?_; rintro e w' ⟨rfl, rfl⟩)
              | (go_at_call 17; refine (C3.out w).mono ?_; rintro e w1 ⟨rfl, hb1⟩)
              | (go_at_call 17; refine (C3.out w1).mono ?_; rintro e w2 ⟨rfl, hb2⟩))
            go_ret
            exact ⟨rfl, (hb1.trans (hb2.mono hb1.size)).trans (hbl.mono (Nat.le_trans hb1.size hb2.size))⟩
          · have e5 : (a0.toList == a1.toList) = false := by rw [beq_eq_false_iff_ne, ByteArray.toList_eq, ByteArray.toList_eq]; exact fun e => h5 (Go.WideShapes.bytes_inj e)
            have e7 : (bys a0 == bys a1) = false := by rw [beq_eq_false_iff_ne]; exact fun e => h5 (bys_inj e)
            rw [e7] at c4
            have C4 := Lib.hid c4
            clear c1 c2 c3 c4 h h2 h3 h4 h5 hself e7
            go_enter Try.func6, Try.ntmps6
            go_wp2_with (first
              | (go_at_call 16; refine (live_any _).mono ?_; rintro e wl ⟨rfl, hbl⟩)
              | (go_at_call 10; refine (C1.out _).mono ?_; rintro e w' ⟨rfl, rfl⟩)
              | (go_at_call 12; refine (C2.out _).mono ?_; rintro e w' ⟨rfl, rfl⟩)
              | (go_at_call 17; (with_reducible refine (C3.out _).mono ?_); rintro e w1 ⟨rfl, hb1⟩)
              | (go_at_call 17; (with_reducible refine (C4.out _).mono ?_); rintro e w2 ⟨rfl, hb2⟩))
            go_ret
            exact ⟨rfl, (hb1.trans (hb2.mono hb1.size)).trans (hbl.mono (Nat.le_trans hb1.size hb2.size))⟩
      · have e1 : (chk (bys a0) != 0) = true := by rw [bne_iff_ne]; exact h3
        clear h h2 h3
        generalize chk (bys a0) = c at *
        have C1 := Lib.hid c1
        clear c1
        go_enter Try.func6, Try.ntmps6
        go_wp2_with (first
          | (go_at_call 16; refine (live_any _).mono ?_; rintro e wl ⟨rfl, hbl⟩)
          | (go_at_call 10; refine (C1.out _).mono ?_; rintro e w' ⟨rfl, rfl⟩))
        go_ret
        exact ⟨rfl, hbl⟩

set_option maxRecDepth 100000 in
theorem lifted (os : Os) (started : os.Started) (H : Type) (enc : TypeId × Value → H) :
    ReturnsInHanded {} Try.checked os 6 .any (Rows.globPlainsSpec.pre6 enc Try.prog Try.f6 Rows.globPlainsRow.domain false) (Rows.globPlainsSpec.post enc Try.prog Try.f6 false true false false) := by
  refine returnsInHanded_of_change (C := Try.checked) own started (by kernel_rfl) Try.func6
    (ChangeSpec.witness6 (enc := enc) (C := Try.checked) false ⟨#[], #[.string ByteArray.empty, .string ByteArray.empty], []⟩ 8 (by kernel_rfl) (by kernel_rfl) (by kernel_rfl) (by kernel_rfl)) ?_
  intro W base args ds gs before hval0 hW hcnd _
  have hval : ∀ (j : Nat) t v, Try.f6.params[j]? = some t → args[j]? = some v → Value.okWide Try.prog W .any base t v := hval0
  have hW' := hW
  obtain ⟨p, q, hA0, hV, rfl, hfz, hnd⟩ := hW
  have hA : DataW.TrodAll enc Try.prog W 0 (fun _ => true) true Try.f6.params.toList args.toList ds p := hA0
  rw [Try.params6] at hA hval
  obtain ⟨v0, vs0, d0, ds0, p0, q0, hargs, rfl, rfl, h0, r0⟩ := trodAll_cons hA
  obtain ⟨v1, vs1, d1, ds1, p1, q1, rfl, rfl, rfl, h1, r1⟩ := trodAll_cons r0
  obtain ⟨rfl, rfl, rfl⟩ := trodAll_nil r1
  obtain rfl : args = #[v0, v1] := by cases args; simp_all
  obtain ⟨rfl, rfl⟩ := trodVars_none hV
  obtain ⟨a0, rfl, rfl, rfl, w0⟩ := open_string Try.underlying9 (hval 0 9 v0 rfl rfl) h0
  obtain ⟨a1, rfl, rfl, rfl, w1⟩ := open_string Try.underlying9 (hval 1 9 v1 rfl rfl) h1
  clear hA0 hval0
  refine (walk a0 a1 W w0 w1).mono fun e W' ⟨he, bel⟩ => ?_
  subst he
  exact ⟨_, rfl, _, _, _, [], _, [], hW', trodAll_mk1 (shut_bool Try.underlying4 _), (trodAll_cons_mk (shut_string Try.underlying9 w0) (trodAll_cons_mk (shut_string Try.underlying9 w1) trodAll_mk0)), rfl, bel.frame _, fun h => by cases h⟩

theorem over : Rows.globPlainsRow.holds Try.pinned (OpenSpec.ofChange Rows.globPlainsSpec) :=
  OpenClaim.holds_of_wide 6 Try.f6 rfl rfl rfl rfl rfl rfl rfl ⟨rfl, rfl, rfl, rfl, rfl⟩ rfl rfl rfl rfl rfl (by kernel_rfl) Try.func6 (by kernel_rfl)
    (of_decide_eq_true (by kernel_rfl)) (by unfold Func.isWrapper; first | (rw [if_pos (by decide +kernel)]; kernel_rfl) | (rw [if_neg (by decide +kernel)]; exact ⟨rfl, rfl⟩))
    (fun os started H enc _ => lifted os started H enc)

theorem proved : Rows.GlobPlainsSaid := over
#print axioms proved
end Go.Proofs.Ytbaghejoolemlaa.globPlains
