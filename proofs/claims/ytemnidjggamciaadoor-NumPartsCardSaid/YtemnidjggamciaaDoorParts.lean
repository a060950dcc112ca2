/- NumParts: for all lists the statement returns true and changes nothing. Condition: the limits start as the program lays them. -/
import Derived.Test.YtemnidjggamciaaDoorRows
import Derived.Test.YtemnidjggamciaaDoorW14
import Derived.LaidMore
import Derived.Stop.Joined
import Derived.SevenTiedAt
import Derived.Test.YtemnidjggamciaaDoorTie
import Derived.Test.YtemnidjggamciaaDoorCards
import Derived.ProofKit
import Derived.OpenShut
import Derived.ShutString
import Derived.ChangeOld
import Derived.Below
import Derived.SliceStrings
namespace Go.Proofs.YtemnidjggamciaaDoor.numParts
open Go.ChangeShapes Go.WideShapes Go.ChangeAt Go.RowKit
open Go.ChangeMaps (open_string shut_string)
set_option linter.unusedVariables false

theorem own : ownKnob Tryd.prog.godebug = none := by kernel_rfl
theorem laidOut : laidOutB Tryd.prog = true := by kernel_rfl

theorem same_yes (A1 : Option Addr) (n1 c1 : Nat) (A2 : Option Addr) (n2 c2 : Nat) (l : List Int) (w : World) (h1 : Ints w A1 n1 c1 l) (h2 : Ints w A2 n2 c2 l) :
    Calls Tryd.prog 23 #[.slice A1 n1 c1, .slice A2 n2 c2] w fun e w' => e = .returned (.bool true) ∧ Below w.heap.size w w' := by
  have := same_any A1 n1 c1 l A2 n2 c2 l w h1 h2
  rwa [decide_eq_true (rfl : l = l)] at this

set_option maxHeartbeats 1600000 in
theorem walk (a0 : Option Addr) (len0 cap0 : Nat) (z0 : List Int) (a1 : Option Addr) (len1 cap1 : Nat) (z1 : List Int) (w : World) (w0 : IsRow .i64 w a0 len0 cap0 z0) (w1 : IsRow .i64 w a1 len1 cap1 z1) (hL : Lim w) :
    Calls Tryd.prog 10 #[.slice a0 len0 cap0, .slice a1 len1 cap1] w fun e w' => e = .returned (.bool true) ∧ Below w.heap.size w w' := by
  have HL := Lib.hid hL
  have hm := row_len w0
  have hm2 := row_len w1
  have CL0 := Lib.hid (lives_any w hL)
  clear hL
  by_cases hn : 100 < len0
  · have g : decide ((100 : Int) < (len0 : Int)) = true := decide_eq_true (by omega)
    clear w0 w1
    go_enter Tryd.func10, Tryd.ntmps10
    go_wp2_with (go_at_call 15; (with_reducible refine CL0.out.mono ?_); rintro e w1 ⟨rfl, hb⟩)
    go_ret
    exact ⟨rfl, hb⟩
  · have g : decide ((100 : Int) < (len0 : Int)) = false := decide_eq_false (by omega)
    by_cases hn2 : 100 < len1
    · have g2 : decide ((100 : Int) < (len1 : Int)) = true := decide_eq_true (by omega)
      clear w0 w1
      go_enter Tryd.func10, Tryd.ntmps10
      go_wp2_with (go_at_call 15; (with_reducible refine CL0.out.mono ?_); rintro e w1 ⟨rfl, hb⟩)
      go_ret
      exact ⟨rfl, hb⟩
    · have g2 : decide ((100 : Int) < (len1 : Int)) = false := decide_eq_false (by omega)
      have H0 := Lib.hid (ints_of_row w0 (by omega))
      have G0 := Lib.hid (ints_of_row w1 (by omega))
      have hn1 : len0 ≤ 100 := by omega
      have hn3 : len1 ≤ 100 := by omega
      clear w0 w1 hn hn2
      generalize z0.take len0 = l at *
      generalize z1.take len1 = r at *
      have C30 := Lib.hid (minus_any a0 len0 cap0 l a1 len1 cap1 r w H0.out G0.out (by omega) (by omega))
      have HLM := Lib.hid (show (M.mns l r).length ≤ 100 by have := M.len_mns l r; have := H0.out.len; omega)
      have HMM := Lib.hid (fun x => M.mem_mns l r x)
      have HPT := Lib.hid (M.parts l r)
      go_enter Tryd.func10, Tryd.ntmps10
      go_wp2_with (go_at_call 30; (with_reducible refine C30.out.mono ?_); rintro e w1 ⟨A1, c1, rfl, hi, hb⟩; have HB1 := Lib.hid hb; have HI1 := Lib.hid hi; have H1 := Lib.hid (H0.out.below hb); have G1 := Lib.hid (G0.out.below hb); clear hi hb)
      generalize M.mns l r = d at *
      obtain ⟨n2, hn2⟩ : ∃ n2, d.length = n2 := ⟨_, rfl⟩
      have hm3 := HLM.out
      rw [hn2] at HI1 hm3 ⊢
      have HN2 := Lib.hid hn2
      clear hn2
      go_loop [6] (fun i => ∃ k : Nat, k ≤ n2 ∧ i = .int .i64 k) (fun i => n2 - (intOf i).toNat)
      case atStart => exact ⟨0, Nat.zero_le _, rfl⟩
      case round =>
        obtain ⟨k, hk, rfl⟩ := hrel
        by_cases hlt : k < n2
        · have hltz : (k : Int) < (n2 : Int) := by omega
          obtain ⟨b, off, e1, _, hc⟩ := HI1.out.get hlt
          obtain ⟨z, hz⟩ : ∃ z, d.getD k 0 = z := ⟨_, rfl⟩
          rw [hz] at hc
          have hmem := (HMM.out z).1 (by rw [← hz]; exact M.getD_mem (by rw [HN2.out]; exact hlt))
          have C1 := Lib.hid (show Calls Tryd.prog 26 #[.slice a1 len1 cap1, .int .i64 z] w1 fun e w' => e = .returned (.bool false) ∧ w1 = w' by have := has_any a1 len1 cap1 r z w1 G1.out; rw [show hsB r z = false by unfold hsB; rw [← Bool.not_eq_true, List.contains_iff_mem]; exact hmem.2] at this; exact this)
          have C2 := Lib.hid (show Calls Tryd.prog 26 #[.slice a0 len0 cap0, .int .i64 z] w1 fun e w' => e = .returned (.bool true) ∧ w1 = w' by have := has_any a0 len0 cap0 l z w1 H1.out; rw [show hsB l z = true by unfold hsB; rw [List.contains_iff_mem]; exact hmem.1] at this; exact this)
          clear hz hmem
          subst e1
          go_wp2_with (first
            | (go_at_call 26; (with_reducible refine C1.out.mono ?_); rintro e w' ⟨rfl, rfl⟩)
            | (go_at_call 26; (with_reducible refine C2.out.mono ?_); rintro e w' ⟨rfl, rfl⟩))
          go_round
          case rel => exact ⟨k + 1, by omega, by go_num⟩
          case measure => simp [intOf]; omega
        · have hltz : ¬ (k : Int) < (n2 : Int) := by omega
          have C28 := Lib.hid (union_any A1 n2 c1 d a1 len1 cap1 r w1 HI1.out G1.out (by omega) (by omega))
          rw [HPT.out] at C28
          have HUN := Lib.hid (fun (w : World) (h : Ints w a0 len0 cap0 l) (g : Ints w a1 len1 cap1 r) => union_any a0 len0 cap0 l a1 len1 cap1 r w h g (by omega) (by omega))
          generalize M.st (l ++ r) = u at *
          go_wp2_with (first
            | (go_at_call 28; (with_reducible refine C28.out.mono ?_); rintro e w2 ⟨A2, c2, rfl, hi, hb⟩; have HB2 := Lib.hid (HB1.out.trans (hb.mono HB1.out.size)); have HU2 := Lib.hid hi; have H2 := Lib.hid (H1.out.below hb); have G2 := Lib.hid (G1.out.below hb); clear hi hb; have C28b := Lib.hid (HUN.out w2 H2.out G2.out))
            | (go_at_call 28; (with_reducible refine C28b.out.mono ?_); rintro e w3 ⟨A3, c3, rfl, hi, hb⟩; have HB3 := Lib.hid (HB2.out.trans (hb.mono HB2.out.size)); have C23 := Lib.hid (same_yes A2 _ c2 A3 _ c3 u w3 (HU2.out.below hb) hi); clear hi hb)
            | (go_at_call 23; (with_reducible refine C23.out.mono ?_); rintro e w4 ⟨rfl, hb⟩; have HB4 := Lib.hid (HB3.out.trans (hb.mono HB3.out.size)); clear hb; have CL := Lib.hid (lives_any w4 (HL.out.below HB4.out)))
            | (go_at_call 15; (with_reducible refine CL.out.mono ?_); rintro e w5 ⟨rfl, hb⟩; have HB5 := Lib.hid (HB4.out.trans (hb.mono HB4.out.size)); clear hb))
          go_ret
          exact ⟨rfl, HB5.out⟩

set_option maxRecDepth 100000 in
theorem lifted (os : Os) (started : os.Started) (H : Type) (enc : TypeId × Value → H) :
    ReturnsInHanded {} Tryd.checked os 10 .any (fun w args => (Rows.numPartsSpec.pre enc Tryd.prog Tryd.f10 [] false w args ∧ laidMetH Tryd.prog laid1 w) ∧ sizedMet enc Tryd.prog Tryd.f10 (OpenSpec.ofChange Rows.numPartsSpec) false w args)
      (Rows.numPartsSpec.post enc Tryd.prog Tryd.f10 false true false false) := by
  refine returnsInHanded_of_change_and (C := Tryd.checked) (X := fun w _ => laidMetH Tryd.prog laid1 w) (fun _ _ _ hh h => h.of_heap hh) own started (by kernel_rfl) Tryd.func10
    (ChangeSpec.witness_shaped (enc := enc) (C := Tryd.checked) (os := os) (X := fun w _ => laidMetH Tryd.prog laid1 w) false (World.doorLaid Tryd.prog 14 os) #[.slice none 0 0, .slice none 0 0] 8 rfl (World.shaped_of_RefB (by kernel_rfl) (by kernel_rfl)) (by kernel_rfl) (by kernel_rfl) (by kernel_rfl) (door_met os _)) ?_
  intro W base args ds gs before hval0 hW _ hsz hLd _
  have hval : ∀ (j : Nat) t v, Tryd.f10.params[j]? = some t → args[j]? = some v → Value.okWide Tryd.prog W .any base t v := hval0
  have hW' := hW
  obtain ⟨p, q, hA0, hV, rfl, hfz, hnd⟩ := hW
  have hA : DataW.TrodAll enc Tryd.prog W 0 (fun _ => true) true Tryd.f10.params.toList args.toList ds p := hA0
  rw [Tryd.params10] at hA hval
  obtain ⟨v0, vs0, d0, ds0, p0, q0, hargs, rfl, rfl, h0, r0⟩ := trodAll_cons hA
  obtain ⟨v1, vs1, d1, ds1, p1, q1, rfl, rfl, rfl, h1, r1⟩ := trodAll_cons r0
  obtain ⟨rfl, rfl, rfl⟩ := trodAll_nil r1
  obtain rfl : args = #[v0, v1] := by cases args; simp_all
  obtain ⟨rfl, rfl⟩ := trodVars_none hV
  obtain ⟨a0, len0, cap0, rfl⟩ := okWide_slice Tryd.underlying31 (hval 0 31 v0 rfl rfl)
  have k0 := h0
  have lt0 : ∀ x ∈ p0, x.block < W.heap.size := by obtain ⟨m, hm⟩ := k0; exact DataW.trod_lt m _ _ _ hm
  obtain ⟨z0, w0⟩ : ∃ zs, IsRow .i64 W a0 len0 cap0 zs := by
    obtain ⟨fuel, hf⟩ := h0
    rcases open_ints Tryd.underlying31 Tryd.underlying3 (by kernel_rfl) hf with ⟨hcs, _⟩ | ⟨x, l, c, zs, hcs, _, hl, hm, hz, _, hcell, hwz⟩
    · simp [Value.cells] at hcs
      obtain ⟨rfl, rfl, rfl⟩ := hcs
      exact ⟨[], .inl ⟨rfl, rfl, rfl, rfl⟩⟩
    · simp [Value.cells] at hcs
      obtain ⟨rfl, rfl, rfl⟩ := hcs
      exact ⟨zs, .inr ⟨_, rfl, hl, hm, by simpa using hz, hcell, hwz⟩⟩
  obtain ⟨a1, len1, cap1, rfl⟩ := okWide_slice Tryd.underlying31 (hval 1 31 v1 rfl rfl)
  have k1 := h1
  have lt1 : ∀ x ∈ p1, x.block < W.heap.size := by obtain ⟨m, hm⟩ := k1; exact DataW.trod_lt m _ _ _ hm
  obtain ⟨z1, w1⟩ : ∃ zs, IsRow .i64 W a1 len1 cap1 zs := by
    obtain ⟨fuel, hf⟩ := h1
    rcases open_ints Tryd.underlying31 Tryd.underlying3 (by kernel_rfl) hf with ⟨hcs, _⟩ | ⟨x, l, c, zs, hcs, _, hl, hm, hz, _, hcell, hwz⟩
    · simp [Value.cells] at hcs
      obtain ⟨rfl, rfl, rfl⟩ := hcs
      exact ⟨[], .inl ⟨rfl, rfl, rfl, rfl⟩⟩
    · simp [Value.cells] at hcs
      obtain ⟨rfl, rfl, rfl⟩ := hcs
      exact ⟨zs, .inr ⟨_, rfl, hl, hm, by simpa using hz, hcell, hwz⟩⟩
  clear hA0 hval0
  refine (walk a0 len0 cap0 z0 a1 len1 cap1 z1 W w0 w1 (of_laid hLd)).mono fun e W' ⟨he, bel⟩ => ?_
  subst he
  exact ⟨_, rfl, _, _, _, [], _, [], hW', trodAll_mk1 (shut_bool Tryd.underlying4 _), (trodAll_cons_mk (Below.trod laidOut (by kernel_rfl) (of_decide_eq_true (by kernel_rfl)) k0 bel lt0) (trodAll_cons_mk (Below.trod laidOut (by kernel_rfl) (of_decide_eq_true (by kernel_rfl)) k1 bel lt1) trodAll_mk0)), rfl, bel.frame _, fun h => by cases h⟩

theorem over : Rows.numPartsRow.holds Tryd.pinned (OpenSpec.ofChange Rows.numPartsSpec) :=
  OpenClaim.holds_of_wide 10 Tryd.f10 rfl rfl rfl rfl rfl rfl rfl ⟨rfl, rfl, rfl, rfl, rfl⟩ rfl rfl rfl rfl rfl (by kernel_rfl) Tryd.func10 (by kernel_rfl)
    (of_decide_eq_true (by kernel_rfl)) (by unfold Func.isWrapper; first | (rw [if_pos (by decide +kernel)]; kernel_rfl) | (rw [if_neg (by decide +kernel)]; exact ⟨rfl, rfl⟩))
    (fun os started H enc _ => lifted os started H enc)

theorem proved : Rows.NumPartsCardSaid :=
  Claim7.holds_tied_plain_at .later [] [.data] true (true, "c96516d55b5b973b4fdd8285a8f92b86b99469fd7af449697676a2214949099e") false
    over (fun _ h => by cases h) (by kernel_rfl) (fun _ h => by cases h) numParts_row_tie rfl ⟨rfl, rfl⟩ (by kernel_rfl) rfl
    (fun f fn hf hfn => by
      obtain rfl : f = 10 := Option.some.inj ((show Tryd.prog.funcNamed "fedchat/fedchatlaw01.NumParts" = some 10 by kernel_rfl).symm.trans hf) |>.symm
      obtain rfl : fn = Tryd.f10 := (Option.some.inj (Tryd.func10.symm.trans hfn)).symm
      exact ⟨by kernel_rfl, fun j t ht => by
        rw [Tryd.params10] at ht
        have hm : t ∈ [31] := by simpa using Array.mem_of_getElem? ht
        have hall : ([31].all fun u => !Tryd.prog.wantsStandIn u) = true := by kernel_rfl
        exact (show Tryd.prog.wantsStandIn t = false by simpa using List.all_eq_true.1 hall t hm)⟩)
    (by kernel_rfl)
#print axioms proved
end Go.Proofs.YtemnidjggamciaaDoor.numParts
