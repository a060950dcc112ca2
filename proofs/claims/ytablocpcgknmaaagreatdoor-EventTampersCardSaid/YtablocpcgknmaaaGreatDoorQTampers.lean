/- EventTampers: for every event and change the statement returns true and changes nothing. Condition: the two tables start as the program lays them. -/
import Derived.Test.YtablocpcgknmaaaGreatDoorRows
import Derived.Test.YtablocpcgknmaaaGreatDoorQOC
import Derived.Test.YtablocpcgknmaaaGreatDoorQKD
import Derived.Test.YtablocpcgknmaaaGreatDoorQL8
import Derived.Lib.SmallJoins
import Derived.LaidMore
import Derived.Stop.Joined
import Derived.SevenTiedAt
import Derived.Test.YtablocpcgknmaaaGreatDoorTie
import Derived.Test.YtablocpcgknmaaaGreatDoorCards
import Derived.ProofKit
import Derived.OpenShut
import Derived.ShutString
import Derived.ChangeOld
import Derived.Below
import Derived.SliceStrings
namespace Go.Proofs.YtablocpcgknmaaaGreatDoor
open Go.ChangeShapes Go.WideShapes Go.ChangeAt Go.RowKit Go.Joins Go.Deep
set_option linter.unusedVariables false
set_option maxRecDepth 100000

theorem chg_open {H : Type} {en : TypeId × Value → H} {w : World} {base : Nat} {spare : Nat → Bool} {held : Bool} {fuel : Nat} {cs : List Value} {y : DataW H × List MemPlace} (hl : cs.length = 2) (h : DataW.trod en Tryz.prog w base spare held fuel 49 cs = some y) :
  ∃ (n m : Int), [.int .i64 n, .int .i64 m] = cs ∧ (i64B n ∧ i64B m) := by
 obtain ⟨ys, n2, _, _, _, hyl, hg⟩ := DataW.trod_struct Tryz.underlying49 h
 match cs, hl with
 | [c27, c28], _ =>
  have l2 : ys.length = 2 := hyl
  have g13 : DataW.trod en Tryz.prog w base spare held n2 3 (List.take (Tryz.prog.cellsOf 3) (List.drop 0 [c27, c28])) = ys[0]? := hg 0 _ rfl
  have g14 : DataW.trod en Tryz.prog w base spare held n2 3 (List.take (Tryz.prog.cellsOf 3) (List.drop 1 [c27, c28])) = ys[1]? := hg 1 _ rfl
  rw [List.getElem?_eq_getElem (by omega), ce3] at g13
  rw [List.getElem?_eq_getElem (by omega), ce3] at g14
  obtain ⟨sn, e13, _, w13⟩ := DataW.trod_int Tryz.underlying3 g13
  obtain ⟨sm, e14, _, w14⟩ := DataW.trod_int Tryz.underlying3 g14
  have f27 : c27 = .int .i64 sn := by simpa using e13
  have f28 : c28 = .int .i64 sm := by simpa using e14
  subst f27 f28
  exact ⟨sn, sm, rfl, Go.bounds_i64 w13, Go.bounds_i64 w14⟩
theorem ce49 : Tryz.prog.cellsOf 49 = 2 := by kernel_rfl
end Go.Proofs.YtablocpcgknmaaaGreatDoor
namespace Go.Proofs.YtablocpcgknmaaaGreatDoor.eventTampers
open Go.ChangeShapes Go.WideShapes Go.ChangeAt Go.RowKit
open Go.ChangeMaps (open_string shut_string)
set_option linter.unusedVariables false

theorem own : ownKnob Tryz.prog.godebug = none := by kernel_rfl
theorem laidOut : laidOutB Tryz.prog = true := by kernel_rfl


set_option maxHeartbeats 1600000 in
theorem walk (E0 : Ew) (b0 : Aw) (fd1 by1 : Int) (w : World) (H0 : IsE w E0 b0) (S1 : i64B fd1 ∧ i64B by1) (hL : Lt w) :
  Calls Tryz.prog 8 #[.agg (ecs E0 b0).toArray, .agg #[.int .i64 fd1, .int .i64 by1]] w fun e w' => e = .returned (.bool true) ∧ Below w.heap.size w w' := by
 exact tampers_walk E0 b0 fd1 by1 w H0 S1.1 S1.2 hL

set_option maxRecDepth 100000 in
theorem lifted (os : Os) (started : os.Started) (H : Type) (enc : TypeId × Value → H) :
  ReturnsInHanded {} Tryz.checked os 8 .any (fun w args => (Rows.eventTampersSpec.pre enc Tryz.prog Tryz.f8 [] false w args ∧ laidMetH Tryz.prog laid2 w) ∧ sizedMet enc Tryz.prog Tryz.f8 (OpenSpec.ofChange Rows.eventTampersSpec) false w args)
   (Rows.eventTampersSpec.post enc Tryz.prog Tryz.f8 false true false false) := by
 refine returnsInHanded_of_change_and (C := Tryz.checked) (X := fun w _ => laidMetH Tryz.prog laid2 w) (fun _ _ _ hh h => h.of_heap hh) own started (by kernel_rfl) Tryz.func8
  (ChangeSpec.witness_shaped (enc := enc) (C := Tryz.checked) (os := os) (X := fun w _ => laidMetH Tryz.prog laid2 w) false (World.doorLaid Tryz.prog 24 os) #[.agg #[.int .i64 0, .string ByteArray.empty, .string ByteArray.empty, .int .i64 0, .bool false, .string ByteArray.empty, .int .i64 0, .int .i64 0, .slice none 0 0, .slice none 0 0, .string ByteArray.empty, .int .i64 0, .int .i64 0, .bool false, .string ByteArray.empty, .slice none 0 0, .slice none 0 0, .slice none 0 0, .slice none 0 0, .int .i64 0, .int .i64 0, .int .i64 0, .int .i64 0, .int .i64 0, .int .i64 0, .int .i64 0, .int .i64 0, .string ByteArray.empty, .int .i64 0], .agg #[.int .i64 0, .int .i64 0]] 8 rfl (World.shaped_of_RefB (by kernel_rfl) (by kernel_rfl)) (by kernel_rfl) (by kernel_rfl) (by kernel_rfl) (door_met os _)) ?_
 intro W base args ds gs before hval0 hW _ hsz hLd _
 have hval : ∀ (j : Nat) t v, Tryz.f8.params[j]? = some t → args[j]? = some v → Value.okWide Tryz.prog W .any base t v := hval0
 have hW' := hW
 obtain ⟨p, q, hA0, hV, rfl, hfz, hnd⟩ := hW
 have hA : DataW.TrodAll enc Tryz.prog W 0 (fun _ => true) true Tryz.f8.params.toList args.toList ds p := hA0
 rw [Tryz.params8] at hA hval
 obtain ⟨v0, vs0, d0, ds0, p0, q0, hargs, rfl, rfl, h0, r0⟩ := trodAll_cons hA
 obtain ⟨v1, vs1, d1, ds1, p1, q1, rfl, rfl, rfl, h1, r1⟩ := trodAll_cons r0
 obtain ⟨rfl, rfl, rfl⟩ := trodAll_nil r1
 obtain rfl : args = #[v0, v1] := by cases args; simp_all
 obtain ⟨rfl, rfl⟩ := trodVars_none hV
 have k0 := h0
 have lt0 : ∀ x ∈ p0, x.block < W.heap.size := by obtain ⟨m, hm⟩ := k0; exact DataW.trod_lt m _ _ _ hm
 obtain ⟨cs0, rfl, hsz0⟩ := okWide_struct Tryz.underlying34 (hval 0 34 v0 rfl rfl)
 obtain ⟨E0, b0, e0, H0⟩ : ∃ (E : Ew) (a : Aw), ecs E a = cs0.toList ∧ IsE W E a := by
  obtain ⟨fuel, hf⟩ := h0
  exact ise_open (by rw [Array.length_toList]; exact hsz0.trans ce34) (by simpa [Value.cells] using hf)
 obtain rfl : cs0 = (ecs E0 b0).toArray := by rw [e0]
 have k1 := h1
 have lt1 : ∀ x ∈ p1, x.block < W.heap.size := by obtain ⟨m, hm⟩ := k1; exact DataW.trod_lt m _ _ _ hm
 obtain ⟨cs1, rfl, hsz1⟩ := okWide_struct Tryz.underlying49 (hval 1 49 v1 rfl rfl)
 obtain ⟨fd1, by1, e1, S1⟩ : ∃ (n m : Int), [Value.int .i64 n, .int .i64 m] = cs1.toList ∧ (i64B n ∧ i64B m) := by
  obtain ⟨fuel, hf⟩ := h1
  exact chg_open (by rw [Array.length_toList]; exact hsz1.trans ce49) (by simpa [Value.cells] using hf)
 obtain rfl : cs1 = #[.int .i64 fd1, .int .i64 by1] := by
  show cs1 = List.toArray _
  rw [e1]
 clear hA0 hval0
 refine (walk E0 b0 fd1 by1 W H0 S1 (of_laid hLd)).mono fun e W' ⟨he, bel⟩ => ?_
 subst he
 exact ⟨_, rfl, _, _, _, [], _, [], hW', trodAll_mk1 (shut_bool Tryz.underlying4 _), (trodAll_cons_mk (Below.trod laidOut (by kernel_rfl) (of_decide_eq_true (by kernel_rfl)) k0 bel lt0) (trodAll_cons_mk (Below.trod laidOut (by kernel_rfl) (of_decide_eq_true (by kernel_rfl)) k1 bel lt1) trodAll_mk0)), rfl, bel.frame _, fun h => by cases h⟩

theorem over : Rows.eventTampersRow.holds Tryz.pinned (OpenSpec.ofChange Rows.eventTampersSpec) :=
 OpenClaim.holds_of_wide 8 Tryz.f8 rfl rfl rfl rfl rfl rfl rfl ⟨rfl, rfl, rfl, rfl, rfl⟩ rfl rfl rfl rfl rfl (by kernel_rfl) Tryz.func8 (by kernel_rfl)
  (of_decide_eq_true (by kernel_rfl)) (by unfold Func.isWrapper; first | (rw [if_pos (by decide +kernel)]; kernel_rfl) | (rw [if_neg (by decide +kernel)]; exact ⟨rfl, rfl⟩))
  (fun os started H enc _ => lifted os started H enc)

theorem proved : Rows.EventTampersCardSaid :=
 Claim7.holds_tied_plain_at .later [] [.data, .data] true (true, "ccd9d1d847392c9054cd7ce703c4dd7c6be7350ceb0a1d47047c934260b22c0a") false
  over (fun _ h => by cases h) (by kernel_rfl) (fun _ h => by cases h) eventTampers_row_tie rfl ⟨rfl, rfl⟩ (by kernel_rfl) rfl
  (fun f fn hf hfn => by
   obtain rfl : f = 8 := Option.some.inj ((show Tryz.prog.funcNamed "fedchat/fedchatlaw07.EventTampers" = some 8 by kernel_rfl).symm.trans hf) |>.symm
   obtain rfl : fn = Tryz.f8 := (Option.some.inj (Tryz.func8.symm.trans hfn)).symm
   exact ⟨by kernel_rfl, fun j t ht => by
    rw [Tryz.params8] at ht
    have hm : t ∈ [34, 49] := by simpa using Array.mem_of_getElem? ht
    have hall : ([34, 49].all fun u => !Tryz.prog.wantsStandIn u) = true := by kernel_rfl
    exact (show Tryz.prog.wantsStandIn t = false by simpa using List.all_eq_true.1 hall t hm)⟩)
  (by kernel_rfl)
#print axioms proved
end Go.Proofs.YtablocpcgknmaaaGreatDoor.eventTampers
