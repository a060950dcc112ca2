/- EventIds: for every event, number and signature the statement returns true and changes nothing. Condition: the two tables start as the program lays them. -/
import Derived.Test.YtablocpcgknmaaaGreatDoorRows
import Derived.Test.YtablocpcgknmaaaGreatDoorQOC
import Derived.Test.YtablocpcgknmaaaGreatDoorQKD
import Derived.Test.YtablocpcgknmaaaGreatDoorQOS
import Derived.Test.YtablocpcgknmaaaGreatDoorQL4
import Derived.Lib.SmallJoins
import Derived.LaidMore
import Derived.Stop.Joined
import Derived.SevenTiedAt
import Derived.Test.YtablocpcgknmaaaGreatDoorTie
import Derived.Test.YtablocpcgknmaaaGreatDoorCards
import Derived.ProofKit
import Derived.OpenShut
import Derived.ShutString
import Derived.ChangeOld
import Derived.Below
import Derived.SliceStrings
namespace Go.Proofs.YtablocpcgknmaaaGreatDoor.eventIds
open Go.ChangeShapes Go.WideShapes Go.ChangeAt Go.RowKit
open Go.ChangeMaps (open_string shut_string)
set_option linter.unusedVariables false

theorem own : ownKnob Tryz.prog.godebug = none := by kernel_rfl
theorem laidOut : laidOutB Tryz.prog = true := by kernel_rfl


set_option maxHeartbeats 1600000 in
theorem walk (E0 : Ew) (b0 : Aw) (a1 : Int) (sv2 : ByteArray) (sm2 : Int) (w : World) (H0 : IsE w E0 b0) (w1 : (Lit.int .i64 a1).wf = true) (S2 : sv2.size ≤ 9223372036854775807 ∧ i64B sm2) (hL : Lt w) :
  Calls Tryz.prog 4 #[.agg (ecs E0 b0).toArray, .int .i64 a1, .agg #[.string sv2, .int .i64 sm2]] w fun e w' => e = .returned (.bool true) ∧ Below w.heap.size w w' := by
 exact ids_walk E0 b0 a1 sv2 sm2 w H0 (Go.bounds_i64 w1) S2.1 S2.2 hL

set_option maxRecDepth 100000 in
theorem lifted (os : Os) (started : os.Started) (H : Type) (enc : TypeId × Value → H) :
  ReturnsInHanded {} Tryz.checked os 4 .any (fun w args => (Rows.eventIdsSpec.pre enc Tryz.prog Tryz.f4 [] false w args ∧ laidMetH Tryz.prog laid2 w) ∧ sizedMet enc Tryz.prog Tryz.f4 (OpenSpec.ofChange Rows.eventIdsSpec) false w args)
   (Rows.eventIdsSpec.post enc Tryz.prog Tryz.f4 false true false false) := by
 refine returnsInHanded_of_change_and (C := Tryz.checked) (X := fun w _ => laidMetH Tryz.prog laid2 w) (fun _ _ _ hh h => h.of_heap hh) own started (by kernel_rfl) Tryz.func4
  (ChangeSpec.witness_shaped (enc := enc) (C := Tryz.checked) (os := os) (X := fun w _ => laidMetH Tryz.prog laid2 w) false (World.doorLaid Tryz.prog 24 os) #[.agg #[.int .i64 0, .string ByteArray.empty, .string ByteArray.empty, .int .i64 0, .bool false, .string ByteArray.empty, .int .i64 0, .int .i64 0, .slice none 0 0, .slice none 0 0, .string ByteArray.empty, .int .i64 0, .int .i64 0, .bool false, .string ByteArray.empty, .slice none 0 0, .slice none 0 0, .slice none 0 0, .slice none 0 0, .int .i64 0, .int .i64 0, .int .i64 0, .int .i64 0, .int .i64 0, .int .i64 0, .int .i64 0, .int .i64 0, .string ByteArray.empty, .int .i64 0], .int .i64 0, .agg #[.string ByteArray.empty, .int .i64 0]] 8 rfl (World.shaped_of_RefB (by kernel_rfl) (by kernel_rfl)) (by kernel_rfl) (by kernel_rfl) (by kernel_rfl) (door_met os _)) ?_
 intro W base args ds gs before hval0 hW _ hsz hLd _
 have hval : ∀ (j : Nat) t v, Tryz.f4.params[j]? = some t → args[j]? = some v → Value.okWide Tryz.prog W .any base t v := hval0
 have hW' := hW
 obtain ⟨p, q, hA0, hV, rfl, hfz, hnd⟩ := hW
 have hA : DataW.TrodAll enc Tryz.prog W 0 (fun _ => true) true Tryz.f4.params.toList args.toList ds p := hA0
 rw [Tryz.params4] at hA hval
 obtain ⟨v0, vs0, d0, ds0, p0, q0, hargs, rfl, rfl, h0, r0⟩ := trodAll_cons hA
 obtain ⟨v1, vs1, d1, ds1, p1, q1, rfl, rfl, rfl, h1, r1⟩ := trodAll_cons r0
 obtain ⟨v2, vs2, d2, ds2, p2, q2, rfl, rfl, rfl, h2, r2⟩ := trodAll_cons r1
 obtain ⟨rfl, rfl, rfl⟩ := trodAll_nil r2
 obtain rfl : args = #[v0, v1, v2] := by cases args; simp_all
 obtain ⟨rfl, rfl⟩ := trodVars_none hV
 have k0 := h0
 have lt0 : ∀ x ∈ p0, x.block < W.heap.size := by obtain ⟨m, hm⟩ := k0; exact DataW.trod_lt m _ _ _ hm
 obtain ⟨cs0, rfl, hsz0⟩ := okWide_struct Tryz.underlying34 (hval 0 34 v0 rfl rfl)
 obtain ⟨E0, b0, e0, H0⟩ : ∃ (E : Ew) (a : Aw), ecs E a = cs0.toList ∧ IsE W E a := by
  obtain ⟨fuel, hf⟩ := h0
  exact ise_open (by rw [Array.length_toList]; exact hsz0.trans ce34) (by simpa [Value.cells] using hf)
 obtain rfl : cs0 = (ecs E0 b0).toArray := by rw [e0]
 obtain ⟨a1, rfl, rfl, rfl, w1⟩ := open_int Tryz.underlying3 (hval 1 3 v1 rfl rfl) h1
 have k2 := h2
 have lt2 : ∀ x ∈ p2, x.block < W.heap.size := by obtain ⟨m, hm⟩ := k2; exact DataW.trod_lt m _ _ _ hm
 obtain ⟨cs2, rfl, hsz2⟩ := okWide_struct Tryz.underlying32 (hval 2 32 v2 rfl rfl)
 obtain ⟨sv2, sm2, e2, S2⟩ : ∃ (s : ByteArray) (n : Int), [Value.string s, .int .i64 n] = cs2.toList ∧ (s.size ≤ 9223372036854775807 ∧ i64B n) := by
  obtain ⟨fuel, hf⟩ := h2
  exact sig_open (by rw [Array.length_toList]; exact hsz2.trans ce32) (by simpa [Value.cells] using hf)
 obtain rfl : cs2 = #[.string sv2, .int .i64 sm2] := by
  show cs2 = List.toArray _
  rw [e2]
 clear hA0 hval0
 refine (walk E0 b0 a1 sv2 sm2 W H0 w1 S2 (of_laid hLd)).mono fun e W' ⟨he, bel⟩ => ?_
 subst he
 exact ⟨_, rfl, _, _, _, [], _, [], hW', trodAll_mk1 (shut_bool Tryz.underlying4 _), (trodAll_cons_mk (Below.trod laidOut (by kernel_rfl) (of_decide_eq_true (by kernel_rfl)) k0 bel lt0) (trodAll_cons_mk (shut_int Tryz.underlying3 w1) (trodAll_cons_mk (Below.trod laidOut (by kernel_rfl) (of_decide_eq_true (by kernel_rfl)) k2 bel lt2) trodAll_mk0))), rfl, bel.frame _, fun h => by cases h⟩

theorem over : Rows.eventIdsRow.holds Tryz.pinned (OpenSpec.ofChange Rows.eventIdsSpec) :=
 OpenClaim.holds_of_wide 4 Tryz.f4 rfl rfl rfl rfl rfl rfl rfl ⟨rfl, rfl, rfl, rfl, rfl⟩ rfl rfl rfl rfl rfl (by kernel_rfl) Tryz.func4 (by kernel_rfl)
  (of_decide_eq_true (by kernel_rfl)) (by unfold Func.isWrapper; first | (rw [if_pos (by decide +kernel)]; kernel_rfl) | (rw [if_neg (by decide +kernel)]; exact ⟨rfl, rfl⟩))
  (fun os started H enc _ => lifted os started H enc)

theorem proved : Rows.EventIdsCardSaid :=
 Claim7.holds_tied_plain_at .later [] [.data, .data] true (true, "ccd9d1d847392c9054cd7ce703c4dd7c6be7350ceb0a1d47047c934260b22c0a") false
  over (fun _ h => by cases h) (by kernel_rfl) (fun _ h => by cases h) eventIds_row_tie rfl ⟨rfl, rfl⟩ (by kernel_rfl) rfl
  (fun f fn hf hfn => by
   obtain rfl : f = 4 := Option.some.inj ((show Tryz.prog.funcNamed "fedchat/fedchatlaw07.EventIds" = some 4 by kernel_rfl).symm.trans hf) |>.symm
   obtain rfl : fn = Tryz.f4 := (Option.some.inj (Tryz.func4.symm.trans hfn)).symm
   exact ⟨by kernel_rfl, fun j t ht => by
    rw [Tryz.params4] at ht
    have hm : t ∈ [34, 3, 32] := by simpa using Array.mem_of_getElem? ht
    have hall : ([34, 3, 32].all fun u => !Tryz.prog.wantsStandIn u) = true := by kernel_rfl
    exact (show Tryz.prog.wantsStandIn t = false by simpa using List.all_eq_true.1 hall t hm)⟩)
  (by kernel_rfl)
#print axioms proved
end Go.Proofs.YtablocpcgknmaaaGreatDoor.eventIds
