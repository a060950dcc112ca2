/- NumTexts: for all integers the statement returns true and changes nothing. Condition: the limits start as the program lays them. -/
import Derived.Test.YtemnidjggamciaaDoorRows
import Derived.Test.YtemnidjggamciaaDoorW14
import Derived.LaidMore
import Derived.Stop.Joined
import Derived.SevenTiedAt
import Derived.Test.YtemnidjggamciaaDoorTie
import Derived.Test.YtemnidjggamciaaDoorCards
import Derived.ProofKit
import Derived.OpenShut
import Derived.ShutString
import Derived.ChangeOld
import Derived.Below
import Derived.SliceStrings
namespace Go.Proofs.YtemnidjggamciaaDoor.numTexts
open Go.ChangeShapes Go.WideShapes Go.ChangeAt Go.RowKit
open Go.ChangeMaps (open_string shut_string)
set_option linter.unusedVariables false

theorem own : ownKnob Tryd.prog.godebug = none := by kernel_rfl
theorem laidOut : laidOutB Tryd.prog = true := by kernel_rfl

theorem txt_inj {a b : Int} (h : M.txt a = M.txt b) : a = b := by
  unfold M.txt at h
  by_cases ha : a < 0 <;> by_cases hb : b < 0
  · rw [if_pos ha, if_pos hb] at h
    have := M.dgs_inj (List.cons.inj h).2
    omega
  · rw [if_pos ha, if_neg hb] at h
    have := M.dgs_nosign b.natAbs
    rw [← h] at this
    exact absurd rfl this
  · rw [if_neg ha, if_pos hb] at h
    have := M.dgs_nosign a.natAbs
    rw [h] at this
    exact absurd rfl this
  · rw [if_neg ha, if_neg hb] at h
    have := M.dgs_inj h
    omega
theorem prp_txt {n : Int} (h1 : -1000000000000 ≤ n) (h2 : n ≤ 1000000000000) : PrP (bys (strOfNums (M.txt n))) n true := by
  rw [bys_strOf _ (txt_bd n)]
  exact .inl ⟨rfl, M.prs_txt h1 h2⟩
theorem prp_far {n : Int} (h : n < -1000000000000 ∨ 1000000000000 < n) : PrP (bys (strOfNums (M.txt n))) 0 false := by
  rw [bys_strOf _ (txt_bd n)]
  refine .inr ⟨rfl, rfl, ?_⟩
  cases hp : M.prs (M.txt n) with
  | none => rfl
  | some v =>
    obtain ⟨h3, h4, h5⟩ := M.txt_prs hp
    have := txt_inj h3
    omega
theorem txt_size (n : Int) (h0 : -9223372036854775808 ≤ n) (h1 : n ≤ 9223372036854775807) : (strOfNums (M.txt n)).size ≤ 9223372036854775807 := by
  rw [strOfNums_size]
  unfold M.txt
  have := M.dgs_len_le 19 n.natAbs (by omega)
  split
  · rw [List.length_cons]; omega
  · omega

set_option maxHeartbeats 1600000 in
theorem walk (a0 : Int) (w : World) (w0 : (Lit.int .i64 a0).wf = true) (hL : Lim w) :
    Calls Tryd.prog 5 #[.int .i64 a0] w fun e w' => e = .returned (.bool true) ∧ Below w.heap.size w w' := by
  obtain ⟨h0, h1⟩ := bd_of w0
  have HL := Lib.hid hL
  have C16 := Lib.hid (text_any a0 h0 h1 w)
  have C18w := Lib.hid (fun w => rtext_any a0 h0 h1 w)
  have HS := Lib.hid (txt_size a0 h0 h1)
  clear hL w0
  by_cases h2 : a0 < -1000000000000
  · have HP := Lib.hid (prp_far (.inl h2))
    have g : decide (a0 < -1000000000000) = true := decide_eq_true h2
    clear h2
    generalize strOfNums (M.txt a0) = s at *
    go_enter Tryd.func5, Tryd.ntmps5
    go_wp2_with (first
      | (go_at_call 16; (with_reducible refine C16.out.mono ?_); rintro e w1 ⟨rfl, hb⟩; have HB1 := Lib.hid hb; have C17 := Lib.hid (parse_is HS.out HP.out w1 (HL.out.below hb)); have C18 := Lib.hid (C18w.out w1); clear hb)
      | (go_at_call 17; (with_reducible refine C17.out.mono ?_); rintro e w' ⟨rfl, rfl⟩)
      | (go_at_call 18; (with_reducible refine C18.out.mono ?_); rintro e w2 ⟨rfl, hb⟩; have HB2 := Lib.hid (HB1.out.trans (hb.mono HB1.out.size)); have CL := Lib.hid (lives_any w2 (HL.out.below HB2.out)); clear hb)
      | (go_at_call 15; (with_reducible refine CL.out.mono ?_); rintro e w3 ⟨rfl, hb⟩; have HB3 := Lib.hid (HB2.out.trans (hb.mono HB2.out.size)); clear hb))
    go_ret
    exact ⟨rfl, HB3.out⟩
  · have g : decide (a0 < -1000000000000) = false := decide_eq_false h2
    by_cases h3 : 1000000000000 < a0
    · have HP := Lib.hid (prp_far (.inr h3))
      have g2 : decide (1000000000000 < a0) = true := decide_eq_true h3
      clear h2 h3
      generalize strOfNums (M.txt a0) = s at *
      go_enter Tryd.func5, Tryd.ntmps5
      go_wp2_with (first
        | (go_at_call 16; (with_reducible refine C16.out.mono ?_); rintro e w1 ⟨rfl, hb⟩; have HB1 := Lib.hid hb; have C17 := Lib.hid (parse_is HS.out HP.out w1 (HL.out.below hb)); have C18 := Lib.hid (C18w.out w1); clear hb)
        | (go_at_call 17; (with_reducible refine C17.out.mono ?_); rintro e w' ⟨rfl, rfl⟩)
        | (go_at_call 18; (with_reducible refine C18.out.mono ?_); rintro e w2 ⟨rfl, hb⟩; have HB2 := Lib.hid (HB1.out.trans (hb.mono HB1.out.size)); have CL := Lib.hid (lives_any w2 (HL.out.below HB2.out)); clear hb)
        | (go_at_call 15; (with_reducible refine CL.out.mono ?_); rintro e w3 ⟨rfl, hb⟩; have HB3 := Lib.hid (HB2.out.trans (hb.mono HB2.out.size)); clear hb))
      go_ret
      exact ⟨rfl, HB3.out⟩
    · have HP := Lib.hid (prp_txt (n := a0) (by omega) (by omega))
      have g2 : decide (1000000000000 < a0) = false := decide_eq_false h3
      clear h2 h3
      generalize strOfNums (M.txt a0) = s at *
      go_enter Tryd.func5, Tryd.ntmps5
      go_wp2_with (first
        | (go_at_call 16; (with_reducible refine C16.out.mono ?_); rintro e w1 ⟨rfl, hb⟩; have HB1 := Lib.hid hb; have C17 := Lib.hid (parse_is HS.out HP.out w1 (HL.out.below hb)); have C18 := Lib.hid (C18w.out w1); clear hb)
        | (go_at_call 17; (with_reducible refine C17.out.mono ?_); rintro e w' ⟨rfl, rfl⟩)
        | (go_at_call 18; (with_reducible refine C18.out.mono ?_); rintro e w2 ⟨rfl, hb⟩; have HB2 := Lib.hid (HB1.out.trans (hb.mono HB1.out.size)); have CL := Lib.hid (lives_any w2 (HL.out.below HB2.out)); clear hb)
        | (go_at_call 15; (with_reducible refine CL.out.mono ?_); rintro e w3 ⟨rfl, hb⟩; have HB3 := Lib.hid (HB2.out.trans (hb.mono HB2.out.size)); clear hb))
      go_ret
      exact ⟨rfl, HB3.out⟩

set_option maxRecDepth 100000 in
theorem lifted (os : Os) (started : os.Started) (H : Type) (enc : TypeId × Value → H) :
    ReturnsInHanded {} Tryd.checked os 5 .any (fun w args => (Rows.numTextsSpec.pre enc Tryd.prog Tryd.f5 [] false w args ∧ laidMetH Tryd.prog laid1 w) ∧ sizedMet enc Tryd.prog Tryd.f5 (OpenSpec.ofChange Rows.numTextsSpec) false w args)
      (Rows.numTextsSpec.post enc Tryd.prog Tryd.f5 false true false false) := by
  refine returnsInHanded_of_change_and (C := Tryd.checked) (X := fun w _ => laidMetH Tryd.prog laid1 w) (fun _ _ _ hh h => h.of_heap hh) own started (by kernel_rfl) Tryd.func5
    (ChangeSpec.witness_shaped (enc := enc) (C := Tryd.checked) (os := os) (X := fun w _ => laidMetH Tryd.prog laid1 w) false (World.doorLaid Tryd.prog 14 os) #[.int .i64 0] 8 rfl (World.shaped_of_RefB (by kernel_rfl) (by kernel_rfl)) (by kernel_rfl) (by kernel_rfl) (by kernel_rfl) (door_met os _)) ?_
  intro W base args ds gs before hval0 hW _ hsz hLd _
  have hval : ∀ (j : Nat) t v, Tryd.f5.params[j]? = some t → args[j]? = some v → Value.okWide Tryd.prog W .any base t v := hval0
  have hW' := hW
  obtain ⟨p, q, hA0, hV, rfl, hfz, hnd⟩ := hW
  have hA : DataW.TrodAll enc Tryd.prog W 0 (fun _ => true) true Tryd.f5.params.toList args.toList ds p := hA0
  rw [Tryd.params5] at hA hval
  obtain ⟨v0, vs0, d0, ds0, p0, q0, hargs, rfl, rfl, h0, r0⟩ := trodAll_cons hA
  obtain ⟨rfl, rfl, rfl⟩ := trodAll_nil r0
  obtain rfl : args = #[v0] := by cases args; simp_all
  obtain ⟨rfl, rfl⟩ := trodVars_none hV
  obtain ⟨a0, rfl, rfl, rfl, w0⟩ := open_int Tryd.underlying3 (hval 0 3 v0 rfl rfl) h0
  clear hA0 hval0
  refine (walk a0 W w0 (of_laid hLd)).mono fun e W' ⟨he, bel⟩ => ?_
  subst he
  exact ⟨_, rfl, _, _, _, [], _, [], hW', trodAll_mk1 (shut_bool Tryd.underlying4 _), (trodAll_cons_mk (shut_int Tryd.underlying3 w0) trodAll_mk0), rfl, bel.frame _, fun h => by cases h⟩

theorem over : Rows.numTextsRow.holds Tryd.pinned (OpenSpec.ofChange Rows.numTextsSpec) :=
  OpenClaim.holds_of_wide 5 Tryd.f5 rfl rfl rfl rfl rfl rfl rfl ⟨rfl, rfl, rfl, rfl, rfl⟩ rfl rfl rfl rfl rfl (by kernel_rfl) Tryd.func5 (by kernel_rfl)
    (of_decide_eq_true (by kernel_rfl)) (by unfold Func.isWrapper; first | (rw [if_pos (by decide +kernel)]; kernel_rfl) | (rw [if_neg (by decide +kernel)]; exact ⟨rfl, rfl⟩))
    (fun os started H enc _ => lifted os started H enc)

theorem proved : Rows.NumTextsCardSaid :=
  Claim7.holds_tied_plain_at .later [] [.data] true (true, "c96516d55b5b973b4fdd8285a8f92b86b99469fd7af449697676a2214949099e") false
    over (fun _ h => by cases h) (by kernel_rfl) (fun _ h => by cases h) numTexts_row_tie rfl ⟨rfl, rfl⟩ (by kernel_rfl) rfl
    (fun f fn hf hfn => by
      obtain rfl : f = 5 := Option.some.inj ((show Tryd.prog.funcNamed "fedchat/fedchatlaw01.NumTexts" = some 5 by kernel_rfl).symm.trans hf) |>.symm
      obtain rfl : fn = Tryd.f5 := (Option.some.inj (Tryd.func5.symm.trans hfn)).symm
      exact ⟨by kernel_rfl, fun j t ht => by
        rw [Tryd.params5] at ht
        have hm : t ∈ [3] := by simpa using Array.mem_of_getElem? ht
        have hall : ([3].all fun u => !Tryd.prog.wantsStandIn u) = true := by kernel_rfl
        exact (show Tryd.prog.wantsStandIn t = false by simpa using List.all_eq_true.1 hall t hm)⟩)
    (by kernel_rfl)
#print axioms proved
end Go.Proofs.YtemnidjggamciaaDoor.numTexts
