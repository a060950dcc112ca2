/- NumSets: for all lists the statement returns true and changes nothing. Condition: the limits start as the program lays them. -/
import Derived.Test.YtemnidjggamciaaDoorRows
import Derived.Test.YtemnidjggamciaaDoorW14
import Derived.LaidMore
import Derived.Stop.Joined
import Derived.SevenTiedAt
import Derived.Test.YtemnidjggamciaaDoorTie
import Derived.Test.YtemnidjggamciaaDoorCards
import Derived.ProofKit
import Derived.OpenShut
import Derived.ShutString
import Derived.ChangeOld
import Derived.Below
import Derived.SliceStrings
namespace Go.Proofs.YtemnidjggamciaaDoor.numSets
open Go.ChangeShapes Go.WideShapes Go.ChangeAt Go.RowKit
open Go.ChangeMaps (open_string shut_string)
set_option linter.unusedVariables false

theorem own : ownKnob Tryd.prog.godebug = none := by kernel_rfl
theorem laidOut : laidOutB Tryd.prog = true := by kernel_rfl

theorem same_yes (A1 : Option Addr) (n1 c1 : Nat) (A2 : Option Addr) (n2 c2 : Nat) (l : List Int) (w : World) (h1 : Ints w A1 n1 c1 l) (h2 : Ints w A2 n2 c2 l) :
    Calls Tryd.prog 23 #[.slice A1 n1 c1, .slice A2 n2 c2] w fun e w' => e = .returned (.bool true) ∧ Below w.heap.size w w' := by
  have := same_any A1 n1 c1 l A2 n2 c2 l w h1 h2
  rwa [decide_eq_true (rfl : l = l)] at this

set_option maxHeartbeats 1600000 in
theorem walk (a0 : Option Addr) (len0 cap0 : Nat) (z0 : List Int) (a1 : Option Addr) (len1 cap1 : Nat) (z1 : List Int) (w : World) (w0 : IsRow .i64 w a0 len0 cap0 z0) (w1 : IsRow .i64 w a1 len1 cap1 z1) (hL : Lim w) :
    Calls Tryd.prog 8 #[.slice a0 len0 cap0, .slice a1 len1 cap1] w fun e w' => e = .returned (.bool true) ∧ Below w.heap.size w w' := by
  have HL := Lib.hid hL
  have hm := row_len w0
  have hm2 := row_len w1
  have CL0 := Lib.hid (lives_any w hL)
  clear hL
  by_cases hn : 100 < len0
  · have g : decide ((100 : Int) < (len0 : Int)) = true := decide_eq_true (by omega)
    clear w0 w1
    go_enter Tryd.func8, Tryd.ntmps8
    go_wp2_with (go_at_call 15; (with_reducible refine CL0.out.mono ?_); rintro e w1 ⟨rfl, hb⟩)
    go_ret
    exact ⟨rfl, hb⟩
  · have g : decide ((100 : Int) < (len0 : Int)) = false := decide_eq_false (by omega)
    by_cases hn2 : 100 < len1
    · have g2 : decide ((100 : Int) < (len1 : Int)) = true := decide_eq_true (by omega)
      clear w0 w1
      go_enter Tryd.func8, Tryd.ntmps8
      go_wp2_with (go_at_call 15; (with_reducible refine CL0.out.mono ?_); rintro e w1 ⟨rfl, hb⟩)
      go_ret
      exact ⟨rfl, hb⟩
    · have g2 : decide ((100 : Int) < (len1 : Int)) = false := decide_eq_false (by omega)
      have H0 := Lib.hid (ints_of_row w0 (by omega))
      have G0 := Lib.hid (ints_of_row w1 (by omega))
      have hn1 : len0 ≤ 100 := by omega
      have hn3 : len1 ≤ 100 := by omega
      clear w0 w1 hn hn2
      generalize z0.take len0 = l at *
      generalize z1.take len1 = r at *
      have C20 := Lib.hid (copied_any a0 len0 cap0 l w H0.out (by omega))
      go_enter Tryd.func8, Tryd.ntmps8
      go_wp2_with (first
        | (go_at_call 20; (with_reducible refine C20.out.mono ?_); rintro e w1 ⟨A1, c1, rfl, hi, hb⟩; have HB1 := Lib.hid hb; have HI1 := Lib.hid hi; have HIN := Lib.hid hi.len; have H1 := Lib.hid (H0.out.below hb); have G1 := Lib.hid (G0.out.below hb); clear hi hb; have C20b := Lib.hid (copied_any a1 len1 cap1 r w1 G1.out (by omega)))
        | (go_at_call 20; (with_reducible refine C20b.out.mono ?_); rintro e w2 ⟨A2, c2, rfl, hi, hb⟩; have HB2 := Lib.hid (HB1.out.trans (hb.mono HB1.out.size)); have HI2 := Lib.hid (HI1.out.below hb); have HJ2 := Lib.hid hi; have H2 := Lib.hid (H1.out.below hb); have G2 := Lib.hid (G1.out.below hb); clear hi hb; have C28 := Lib.hid (union_any A1 _ c1 l A2 _ c2 r w2 HI2.out HJ2.out (by have := H2.out.len; omega) (by have := G2.out.len; omega)))
        | (go_at_call 28; (with_reducible refine C28.out.mono ?_); rintro e w3 ⟨A3, c3, rfl, hi, hb⟩; have HB3 := Lib.hid (HB2.out.trans (hb.mono HB2.out.size)); have HU3 := Lib.hid hi; have HI3 := Lib.hid (HI2.out.below hb); have HJ3 := Lib.hid (HJ2.out.below hb); have H3 := Lib.hid (H2.out.below hb); have G3 := Lib.hid (G2.out.below hb); clear hi hb; have C29 := Lib.hid (runion_any a0 len0 cap0 l a1 len1 cap1 r w3 H3.out G3.out (by omega) (by omega)))
        | (go_at_call 29; (with_reducible refine C29.out.mono ?_); rintro e w4 ⟨A4, c4, rfl, hi, hb⟩; have HB4 := Lib.hid (HB3.out.trans (hb.mono HB3.out.size)); have C23 := Lib.hid (same_yes A3 _ c3 A4 _ c4 _ w4 (HU3.out.below hb) hi); have HI4 := Lib.hid (HI3.out.below hb); have HJ4 := Lib.hid (HJ3.out.below hb); have H4 := Lib.hid (H3.out.below hb); have G4 := Lib.hid (G3.out.below hb); clear hi hb)
        | (go_at_call 23; (with_reducible refine C23.out.mono ?_); rintro e w5 ⟨rfl, hb⟩; have HB5 := Lib.hid (HB4.out.trans (hb.mono HB4.out.size)); have HI5 := Lib.hid (HI4.out.below hb); have HJ5 := Lib.hid (HJ4.out.below hb); have H5 := Lib.hid (H4.out.below hb); have G5 := Lib.hid (G4.out.below hb); clear hb; have C30 := Lib.hid (minus_any A1 _ c1 l A2 _ c2 r w5 HI5.out HJ5.out (by have := H5.out.len; omega) (by have := G5.out.len; omega)))
        | (go_at_call 30; (with_reducible refine C30.out.mono ?_); rintro e w6 ⟨A6, c6, rfl, hi, hb⟩; have HB6 := Lib.hid (HB5.out.trans (hb.mono HB5.out.size)); have HU6 := Lib.hid hi; have HI6 := Lib.hid (HI5.out.below hb); have HJ6 := Lib.hid (HJ5.out.below hb); have H6 := Lib.hid (H5.out.below hb); have G6 := Lib.hid (G5.out.below hb); clear hi hb; have C31 := Lib.hid (rminus_any a0 len0 cap0 l a1 len1 cap1 r w6 H6.out G6.out (by omega) (by omega)))
        | (go_at_call 31; (with_reducible refine C31.out.mono ?_); rintro e w7 ⟨A7, c7, rfl, hi, hb⟩; have HB7 := Lib.hid (HB6.out.trans (hb.mono HB6.out.size)); have C23b := Lib.hid (same_yes A6 _ c6 A7 _ c7 _ w7 (HU6.out.below hb) hi); have HI7 := Lib.hid (HI6.out.below hb); have HJ7 := Lib.hid (HJ6.out.below hb); have H7 := Lib.hid (H6.out.below hb); have G7 := Lib.hid (G6.out.below hb); clear hi hb)
        | (go_at_call 23; (with_reducible refine C23b.out.mono ?_); rintro e w8 ⟨rfl, hb⟩; have HB8 := Lib.hid (HB7.out.trans (hb.mono HB7.out.size)); have HI8 := Lib.hid (HI7.out.below hb); have HJ8 := Lib.hid (HJ7.out.below hb); have H8 := Lib.hid (H7.out.below hb); have G8 := Lib.hid (G7.out.below hb); clear hb; have C23c := Lib.hid (same_yes A1 _ c1 a0 len0 cap0 l w8 HI8.out H8.out))
        | (go_at_call 23; (with_reducible refine C23c.out.mono ?_); rintro e w9 ⟨rfl, hb⟩; have HB9 := Lib.hid (HB8.out.trans (hb.mono HB8.out.size)); have C23d := Lib.hid (same_yes A2 _ c2 a1 len1 cap1 r w9 (HJ8.out.below hb) (G8.out.below hb)); clear hb)
        | (go_at_call 23; (with_reducible refine C23d.out.mono ?_); rintro e w10 ⟨rfl, hb⟩; have HB10 := Lib.hid (HB9.out.trans (hb.mono HB9.out.size)); clear hb; have CL := Lib.hid (lives_any w10 (HL.out.below HB10.out)))
        | (go_at_call 15; (with_reducible refine CL.out.mono ?_); rintro e w11 ⟨rfl, hb⟩; have HB11 := Lib.hid (HB10.out.trans (hb.mono HB10.out.size)); clear hb))
      go_ret
      exact ⟨rfl, HB11.out⟩

set_option maxRecDepth 100000 in
theorem lifted (os : Os) (started : os.Started) (H : Type) (enc : TypeId × Value → H) :
    ReturnsInHanded {} Tryd.checked os 8 .any (fun w args => (Rows.numSetsSpec.pre enc Tryd.prog Tryd.f8 [] false w args ∧ laidMetH Tryd.prog laid1 w) ∧ sizedMet enc Tryd.prog Tryd.f8 (OpenSpec.ofChange Rows.numSetsSpec) false w args)
      (Rows.numSetsSpec.post enc Tryd.prog Tryd.f8 false true false false) := by
  refine returnsInHanded_of_change_and (C := Tryd.checked) (X := fun w _ => laidMetH Tryd.prog laid1 w) (fun _ _ _ hh h => h.of_heap hh) own started (by kernel_rfl) Tryd.func8
    (ChangeSpec.witness_shaped (enc := enc) (C := Tryd.checked) (os := os) (X := fun w _ => laidMetH Tryd.prog laid1 w) false (World.doorLaid Tryd.prog 14 os) #[.slice none 0 0, .slice none 0 0] 8 rfl (World.shaped_of_RefB (by kernel_rfl) (by kernel_rfl)) (by kernel_rfl) (by kernel_rfl) (by kernel_rfl) (door_met os _)) ?_
  intro W base args ds gs before hval0 hW _ hsz hLd _
  have hval : ∀ (j : Nat) t v, Tryd.f8.params[j]? = some t → args[j]? = some v → Value.okWide Tryd.prog W .any base t v := hval0
  have hW' := hW
  obtain ⟨p, q, hA0, hV, rfl, hfz, hnd⟩ := hW
  have hA : DataW.TrodAll enc Tryd.prog W 0 (fun _ => true) true Tryd.f8.params.toList args.toList ds p := hA0
  rw [Tryd.params8] at hA hval
  obtain ⟨v0, vs0, d0, ds0, p0, q0, hargs, rfl, rfl, h0, r0⟩ := trodAll_cons hA
  obtain ⟨v1, vs1, d1, ds1, p1, q1, rfl, rfl, rfl, h1, r1⟩ := trodAll_cons r0
  obtain ⟨rfl, rfl, rfl⟩ := trodAll_nil r1
  obtain rfl : args = #[v0, v1] := by cases args; simp_all
  obtain ⟨rfl, rfl⟩ := trodVars_none hV
  obtain ⟨a0, len0, cap0, rfl⟩ := okWide_slice Tryd.underlying31 (hval 0 31 v0 rfl rfl)
  have k0 := h0
  have lt0 : ∀ x ∈ p0, x.block < W.heap.size := by obtain ⟨m, hm⟩ := k0; exact DataW.trod_lt m _ _ _ hm
  obtain ⟨z0, w0⟩ : ∃ zs, IsRow .i64 W a0 len0 cap0 zs := by
    obtain ⟨fuel, hf⟩ := h0
    rcases open_ints Tryd.underlying31 Tryd.underlying3 (by kernel_rfl) hf with ⟨hcs, _⟩ | ⟨x, l, c, zs, hcs, _, hl, hm, hz, _, hcell, hwz⟩
    · simp [Value.cells] at hcs
      obtain ⟨rfl, rfl, rfl⟩ := hcs
      exact ⟨[], .inl ⟨rfl, rfl, rfl, rfl⟩⟩
    · simp [Value.cells] at hcs
      obtain ⟨rfl, rfl, rfl⟩ := hcs
      exact ⟨zs, .inr ⟨_, rfl, hl, hm, by simpa using hz, hcell, hwz⟩⟩
  obtain ⟨a1, len1, cap1, rfl⟩ := okWide_slice Tryd.underlying31 (hval 1 31 v1 rfl rfl)
  have k1 := h1
  have lt1 : ∀ x ∈ p1, x.block < W.heap.size := by obtain ⟨m, hm⟩ := k1; exact DataW.trod_lt m _ _ _ hm
  obtain ⟨z1, w1⟩ : ∃ zs, IsRow .i64 W a1 len1 cap1 zs := by
    obtain ⟨fuel, hf⟩ := h1
    rcases open_ints Tryd.underlying31 Tryd.underlying3 (by kernel_rfl) hf with ⟨hcs, _⟩ | ⟨x, l, c, zs, hcs, _, hl, hm, hz, _, hcell, hwz⟩
    · simp [Value.cells] at hcs
      obtain ⟨rfl, rfl, rfl⟩ := hcs
      exact ⟨[], .inl ⟨rfl, rfl, rfl, rfl⟩⟩
    · simp [Value.cells] at hcs
      obtain ⟨rfl, rfl, rfl⟩ := hcs
      exact ⟨zs, .inr ⟨_, rfl, hl, hm, by simpa using hz, hcell, hwz⟩⟩
  clear hA0 hval0
  refine (walk a0 len0 cap0 z0 a1 len1 cap1 z1 W w0 w1 (of_laid hLd)).mono fun e W' ⟨he, bel⟩ => ?_
  subst he
  exact ⟨_, rfl, _, _, _, [], _, [], hW', trodAll_mk1 (shut_bool Tryd.underlying4 _), (trodAll_cons_mk (Below.trod laidOut (by kernel_rfl) (of_decide_eq_true (by kernel_rfl)) k0 bel lt0) (trodAll_cons_mk (Below.trod laidOut (by kernel_rfl) (of_decide_eq_true (by kernel_rfl)) k1 bel lt1) trodAll_mk0)), rfl, bel.frame _, fun h => by cases h⟩

theorem over : Rows.numSetsRow.holds Tryd.pinned (OpenSpec.ofChange Rows.numSetsSpec) :=
  OpenClaim.holds_of_wide 8 Tryd.f8 rfl rfl rfl rfl rfl rfl rfl ⟨rfl, rfl, rfl, rfl, rfl⟩ rfl rfl rfl rfl rfl (by kernel_rfl) Tryd.func8 (by kernel_rfl)
    (of_decide_eq_true (by kernel_rfl)) (by unfold Func.isWrapper; first | (rw [if_pos (by decide +kernel)]; kernel_rfl) | (rw [if_neg (by decide +kernel)]; exact ⟨rfl, rfl⟩))
    (fun os started H enc _ => lifted os started H enc)

theorem proved : Rows.NumSetsCardSaid :=
  Claim7.holds_tied_plain_at .later [] [.data] true (true, "c96516d55b5b973b4fdd8285a8f92b86b99469fd7af449697676a2214949099e") false
    over (fun _ h => by cases h) (by kernel_rfl) (fun _ h => by cases h) numSets_row_tie rfl ⟨rfl, rfl⟩ (by kernel_rfl) rfl
    (fun f fn hf hfn => by
      obtain rfl : f = 8 := Option.some.inj ((show Tryd.prog.funcNamed "fedchat/fedchatlaw01.NumSets" = some 8 by kernel_rfl).symm.trans hf) |>.symm
      obtain rfl : fn = Tryd.f8 := (Option.some.inj (Tryd.func8.symm.trans hfn)).symm
      exact ⟨by kernel_rfl, fun j t ht => by
        rw [Tryd.params8] at ht
        have hm : t ∈ [31] := by simpa using Array.mem_of_getElem? ht
        have hall : ([31].all fun u => !Tryd.prog.wantsStandIn u) = true := by kernel_rfl
        exact (show Tryd.prog.wantsStandIn t = false by simpa using List.all_eq_true.1 hall t hm)⟩)
    (by kernel_rfl)
#print axioms proved
end Go.Proofs.YtemnidjggamciaaDoor.numSets
