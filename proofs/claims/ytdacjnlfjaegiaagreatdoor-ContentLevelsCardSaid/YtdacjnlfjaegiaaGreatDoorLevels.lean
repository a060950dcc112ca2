/- ContentLevels: for all power levels the statement returns true and changes nothing. Condition: the three tables start as the program lays them. -/
import Derived.Test.YtdacjnlfjaegiaaGreatDoorRows
import Derived.Test.YtdacjnlfjaegiaaGreatDoorOC
import Derived.Test.YtdacjnlfjaegiaaGreatDoorKD
import Derived.Test.YtdacjnlfjaegiaaGreatDoorL4
import Derived.Lib.SmallJoins
import Derived.LaidMore
import Derived.Stop.Joined
import Derived.SevenTiedAt
import Derived.Test.YtdacjnlfjaegiaaGreatDoorTie
import Derived.Test.YtdacjnlfjaegiaaGreatDoorCards
import Derived.ProofKit
import Derived.OpenShut
import Derived.ShutString
import Derived.ChangeOld
import Derived.Below
import Derived.SliceStrings
namespace Go.Proofs.YtdacjnlfjaegiaaGreatDoor.contentLevels
open Go.ChangeShapes Go.WideShapes Go.ChangeAt Go.RowKit
open Go.ChangeMaps (open_string shut_string)
set_option linter.unusedVariables false

theorem own : ownKnob Tryz.prog.godebug = none := by kernel_rfl
theorem laidOut : laidOutB Tryz.prog = true := by kernel_rfl


set_option maxHeartbeats 1600000 in
theorem walk (us0 : List (ByteArray × Int)) (ks0 : List (Int × Int)) (dd0 p0_3 p0_4 p0_5 p0_6 p0_7 p0_8 : Int) (uA0 : Option Addr) (uC0 : Nat) (kA0 : Option Addr) (kC0 : Nat) (w : World) (H0 : IsL w ⟨us0, ks0, dd0, p0_3, p0_4, p0_5, p0_6, p0_7, p0_8⟩ uA0 uC0 kA0 kC0) (hL : Lt w) :
    Calls Tryz.prog 4 #[.agg #[.slice uA0 us0.length uC0, .slice kA0 ks0.length kC0, .int .i64 dd0, .int .i64 p0_3, .int .i64 p0_4, .int .i64 p0_5, .int .i64 p0_6, .int .i64 p0_7, .int .i64 p0_8]] w fun e w' => e = .returned (.bool true) ∧ Below w.heap.size w w' := by
  exact levels_walk us0 ks0 dd0 p0_3 p0_4 p0_5 p0_6 p0_7 p0_8 uA0 uC0 kA0 kC0 w H0 hL

set_option maxRecDepth 100000 in
theorem lifted (os : Os) (started : os.Started) (H : Type) (enc : TypeId × Value → H) :
    ReturnsInHanded {} Tryz.checked os 4 .any (fun w args => (Rows.contentLevelsSpec.pre enc Tryz.prog Tryz.f4 [] false w args ∧ laidMetH Tryz.prog laid3 w) ∧ sizedMet enc Tryz.prog Tryz.f4 (OpenSpec.ofChange Rows.contentLevelsSpec) false w args)
      (Rows.contentLevelsSpec.post enc Tryz.prog Tryz.f4 false true false false) := by
  refine returnsInHanded_of_change_and (C := Tryz.checked) (X := fun w _ => laidMetH Tryz.prog laid3 w) (fun _ _ _ hh h => h.of_heap hh) own started (by kernel_rfl) Tryz.func4
    (ChangeSpec.witness_shaped (enc := enc) (C := Tryz.checked) (os := os) (X := fun w _ => laidMetH Tryz.prog laid3 w) false (World.doorLaid Tryz.prog 24 os) #[.agg #[.slice none 0 0, .slice none 0 0, .int .i64 0, .int .i64 0, .int .i64 0, .int .i64 0, .int .i64 0, .int .i64 0, .int .i64 0]] 8 rfl (World.shaped_of_RefB (by kernel_rfl) (by kernel_rfl)) (by kernel_rfl) (by kernel_rfl) (by kernel_rfl) (door_met os _)) ?_
  intro W base args ds gs before hval0 hW _ hsz hLd _
  have hval : ∀ (j : Nat) t v, Tryz.f4.params[j]? = some t → args[j]? = some v → Value.okWide Tryz.prog W .any base t v := hval0
  have hW' := hW
  obtain ⟨p, q, hA0, hV, rfl, hfz, hnd⟩ := hW
  have hA : DataW.TrodAll enc Tryz.prog W 0 (fun _ => true) true Tryz.f4.params.toList args.toList ds p := hA0
  rw [Tryz.params4] at hA hval
  obtain ⟨v0, vs0, d0, ds0, p0, q0, hargs, rfl, rfl, h0, r0⟩ := trodAll_cons hA
  obtain ⟨rfl, rfl, rfl⟩ := trodAll_nil r0
  obtain rfl : args = #[v0] := by cases args; simp_all
  obtain ⟨rfl, rfl⟩ := trodVars_none hV
  have k0 := h0
  have lt0 : ∀ x ∈ p0, x.block < W.heap.size := by obtain ⟨m, hm⟩ := k0; exact DataW.trod_lt m _ _ _ hm
  obtain ⟨cs0, rfl, hsz0⟩ := okWide_struct Tryz.underlying27 (hval 0 27 v0 rfl rfl)
  obtain ⟨us0, ks0, dd0, p0_3, p0_4, p0_5, p0_6, p0_7, p0_8, uA0, uC0, kA0, kC0, e0, H0⟩ : ∃ (us : List (ByteArray × Int)) (ks : List (Int × Int)) (d x3 x4 x5 x6 x7 x8 : Int) (uA : Option Addr) (uC : Nat) (kA : Option Addr) (kC : Nat), [.slice uA us.length uC, .slice kA ks.length kC, .int .i64 d, .int .i64 x3, .int .i64 x4, .int .i64 x5, .int .i64 x6, .int .i64 x7, .int .i64 x8] = cs0.toList ∧ IsL W ⟨us, ks, d, x3, x4, x5, x6, x7, x8⟩ uA uC kA kC := by
    obtain ⟨fuel, hf⟩ := h0
    exact isl_open (by rw [Array.length_toList]; exact hsz0.trans ce27) (by simpa [Value.cells] using hf)
  obtain rfl : cs0 = #[.slice uA0 us0.length uC0, .slice kA0 ks0.length kC0, .int .i64 dd0, .int .i64 p0_3, .int .i64 p0_4, .int .i64 p0_5, .int .i64 p0_6, .int .i64 p0_7, .int .i64 p0_8] := by
    show cs0 = List.toArray _
    rw [e0]
  clear hA0 hval0
  refine (walk us0 ks0 dd0 p0_3 p0_4 p0_5 p0_6 p0_7 p0_8 uA0 uC0 kA0 kC0 W H0 (of_laid hLd)).mono fun e W' ⟨he, bel⟩ => ?_
  subst he
  exact ⟨_, rfl, _, _, _, [], _, [], hW', trodAll_mk1 (shut_bool Tryz.underlying4 _), (trodAll_cons_mk (Below.trod laidOut (by kernel_rfl) (of_decide_eq_true (by kernel_rfl)) k0 bel lt0) trodAll_mk0), rfl, bel.frame _, fun h => by cases h⟩

theorem over : Rows.contentLevelsRow.holds Tryz.pinned (OpenSpec.ofChange Rows.contentLevelsSpec) :=
  OpenClaim.holds_of_wide 4 Tryz.f4 rfl rfl rfl rfl rfl rfl rfl ⟨rfl, rfl, rfl, rfl, rfl⟩ rfl rfl rfl rfl rfl (by kernel_rfl) Tryz.func4 (by kernel_rfl)
    (of_decide_eq_true (by kernel_rfl)) (by unfold Func.isWrapper; first | (rw [if_pos (by decide +kernel)]; kernel_rfl) | (rw [if_neg (by decide +kernel)]; exact ⟨rfl, rfl⟩))
    (fun os started H enc _ => lifted os started H enc)

theorem proved : Rows.ContentLevelsCardSaid :=
  Claim7.holds_tied_plain_at .later [] [.data, .data, .data] true (true, "23ec9e3f405fbb2869b6d03872b7aa9b56cd6d049adf2f19d3a157d0b589304c") false
    over (fun _ h => by cases h) (by kernel_rfl) (fun _ h => by cases h) contentLevels_row_tie rfl ⟨rfl, rfl⟩ (by kernel_rfl) rfl
    (fun f fn hf hfn => by
      obtain rfl : f = 4 := Option.some.inj ((show Tryz.prog.funcNamed "fedchat/fedchatlaw06.ContentLevels" = some 4 by kernel_rfl).symm.trans hf) |>.symm
      obtain rfl : fn = Tryz.f4 := (Option.some.inj (Tryz.func4.symm.trans hfn)).symm
      exact ⟨by kernel_rfl, fun j t ht => by
        rw [Tryz.params4] at ht
        have hm : t ∈ [27] := by simpa using Array.mem_of_getElem? ht
        have hall : ([27].all fun u => !Tryz.prog.wantsStandIn u) = true := by kernel_rfl
        exact (show Tryz.prog.wantsStandIn t = false by simpa using List.all_eq_true.1 hall t hm)⟩)
    (by kernel_rfl)
#print axioms proved
end Go.Proofs.YtdacjnlfjaegiaaGreatDoor.contentLevels
