/- NumOnce: for all lists the statement returns true and changes nothing. Condition: the limits start as the program lays them. -/
import Derived.Test.YtemnidjggamciaaDoorRows
import Derived.Test.YtemnidjggamciaaDoorW14
import Derived.LaidMore
import Derived.Stop.Joined
import Derived.SevenTiedAt
import Derived.Test.YtemnidjggamciaaDoorTie
import Derived.Test.YtemnidjggamciaaDoorCards
import Derived.ProofKit
import Derived.OpenShut
import Derived.ShutString
import Derived.ChangeOld
import Derived.Below
import Derived.SliceStrings
namespace Go.Proofs.YtemnidjggamciaaDoor.numOnce
open Go.ChangeShapes Go.WideShapes Go.ChangeAt Go.RowKit
open Go.ChangeMaps (open_string shut_string)
set_option linter.unusedVariables false

theorem own : ownKnob Tryd.prog.godebug = none := by kernel_rfl
theorem laidOut : laidOutB Tryd.prog = true := by kernel_rfl

theorem fold_max : ∀ (l : List Int) (a : Int), a ≤ l.foldl max a ∧ (∀ x ∈ l, x ≤ l.foldl max a) ∧ (l.foldl max a = a ∨ l.foldl max a ∈ l)
  | [], a => ⟨Int.le_refl _, by simp, .inl rfl⟩
  | b :: t, a => by
    obtain ⟨h1, h2, h3⟩ := fold_max t (max a b)
    rw [List.foldl_cons]
    refine ⟨by omega, fun x hx => ?_, ?_⟩
    · rcases List.mem_cons.1 hx with rfl | hx
      · omega
      · exact h2 x hx
    · rcases h3 with h3 | h3
      · rw [h3]
        by_cases e : a ≤ b
        · right; rw [show max a b = b by omega]; simp
        · left; omega
      · exact .inr (List.mem_cons_of_mem _ h3)
theorem mx_last {l : List Int} (h : l ≠ []) : mx l = (M.st l).getD ((M.st l).length - 1) 0 ∧ 0 < (M.st l).length := by
  have hp : 0 < (M.st l).length := by
    cases l with
    | nil => exact absurd rfl h
    | cons a t => exact List.length_pos_of_mem ((M.mem_st (a :: t) a).2 (by simp))
  refine ⟨?_, hp⟩
  have hm : mx l = Lib.maxOf l := by unfold mx; rw [if_neg h]
  rw [hm]
  have hl := (M.mem_st l _).1 (M.getD_mem (l := M.st l) (k := (M.st l).length - 1) (by omega))
  obtain ⟨f1, f2, f3⟩ := fold_max l (l.headD 0)
  have hin : Lib.maxOf l ∈ l := by
    unfold Lib.maxOf
    rcases f3 with f3 | f3
    · rw [f3]; cases l with
      | nil => exact absurd rfl h
      | cons a t => simp
    · exact f3
  have hle := f2 _ hl
  obtain ⟨j, hj, e⟩ := M.mem_getD ((M.mem_st l _).2 hin)
  have : (M.st l).getD j 0 ≤ (M.st l).getD ((M.st l).length - 1) 0 := by
    rcases Nat.lt_or_ge j ((M.st l).length - 1) with h1 | h1
    · have := M.srt_lt (M.srt_st l) h1 (by omega); omega
    · rw [show j = (M.st l).length - 1 by omega]; exact Int.le_refl _
  have hd : l.foldl max (l.headD 0) = Lib.maxOf l := rfl
  rw [hd] at hle
  omega
theorem st_nil : M.st [] = [] := List.eq_nil_of_length_eq_zero (Nat.le_zero.1 (M.len_st []))

set_option maxHeartbeats 1600000 in
theorem walk (a0 : Option Addr) (len0 cap0 : Nat) (z0 : List Int) (w : World) (w0 : IsRow .i64 w a0 len0 cap0 z0) (hL : Lim w) :
    Calls Tryd.prog 9 #[.slice a0 len0 cap0] w fun e w' => e = .returned (.bool true) ∧ Below w.heap.size w w' := by
  have HL := Lib.hid hL
  have hm := row_len w0
  have CL0 := Lib.hid (lives_any w hL)
  have HB0 := Lib.hid (Below.refl w.heap.size w)
  clear hL
  by_cases hn : 100 < len0
  · have g : decide ((100 : Int) < (len0 : Int)) = true := decide_eq_true (by omega)
    clear w0
    go_enter Tryd.func9, Tryd.ntmps9
    go_wp2_with (go_at_call 15; (with_reducible refine CL0.out.mono ?_); rintro e w1 ⟨rfl, hb⟩)
    go_ret
    exact ⟨rfl, hb⟩
  · have g : decide ((100 : Int) < (len0 : Int)) = false := decide_eq_false (by omega)
    have H0 := Lib.hid (ints_of_row w0 (by omega))
    have hn1 : len0 ≤ 100 := by omega
    clear w0 hn
    generalize z0.take len0 = l at *
    have C24 := Lib.hid (sorted_any a0 len0 cap0 l w H0.out)
    have HLS := Lib.hid (show (M.st l).length ≤ 100 by have := M.len_st l; have := H0.out.len; omega)
    have HMS := Lib.hid (fun x => M.mem_st l x)
    have HSRT := Lib.hid (M.srt_st l)
    have HMX := Lib.hid (fun h : l ≠ [] => mx_last h)
    have HNI := Lib.hid (fun h : l = [] => (show M.st l = [] by rw [h]; exact st_nil))
    go_enter Tryd.func9, Tryd.ntmps9
    go_wp2_with (go_at_call 24; (with_reducible refine C24.out.mono ?_); rintro e w1 ⟨A1, c1, rfl, hi, hb⟩; have HB1 := Lib.hid hb; have HI1 := Lib.hid hi; have H1 := Lib.hid (H0.out.below hb); clear hi hb)
    generalize M.st l = ss at *
    obtain ⟨n2, hn2⟩ : ∃ n2, ss.length = n2 := ⟨_, rfl⟩
    have hm3 := HLS.out
    rw [hn2] at HI1 hm3 ⊢
    have HN2 := Lib.hid hn2
    clear hn2
    go_loopw [4] (fun i wr => ∃ k : Nat, k ≤ n2 ∧ i = .int .i64 k ∧ Hid (Below w.heap.size w wr) ∧ Hid (Ints wr A1 n2 c1 ss) ∧ Hid (Ints wr a0 len0 cap0 l)) (fun i _ => n2 - (intOf i).toNat)
    case atStart => exact ⟨0, Nat.zero_le _, rfl, HB1, HI1, H1⟩
    case round =>
      obtain ⟨k, hk, rfl, HBr, HIr, Hr⟩ := hrel
      by_cases hlt : k < n2
      · have hltz : (k : Int) < (n2 : Int) := by omega
        obtain ⟨b, off, e1, _, hc⟩ := HIr.out.get hlt
        obtain ⟨z, hz⟩ : ∃ z, ss.getD k 0 = z := ⟨_, rfl⟩
        rw [hz] at hc
        have HZ := Lib.hid hz
        have hmem := (HMS.out z).1 (by rw [← hz]; exact M.getD_mem (by rw [HN2.out]; exact hlt))
        have C1 := Lib.hid (fun m => (show Calls Tryd.prog 26 #[.slice a0 len0 cap0, .int .i64 z] (wr.drewN m) fun e w' => e = .returned (.bool true) ∧ w' = wr.drewN m by have := has_any a0 len0 cap0 l z (wr.drewN m) (Hr.out.drewN m); rw [show hsB l z = true by unfold hsB; rw [List.contains_iff_mem]; exact hmem] at this; exact this.mono fun e w' ⟨he, hw⟩ => ⟨he, hw.symm⟩))
        clear hz hmem
        rcases Nat.eq_zero_or_pos k with hk0 | hk0
        · subst hk0
          rw [Nat.add_zero] at hc
          subst e1
          go_wp2
          go_quiet ((go_at_call 26; (with_reducible exact Calls.quiet_of_same (C1.out _))))
          go_wp2
          go_roundw
          case rel => exact ⟨0 + 1, by omega, by go_num, Lib.hid (below_dn HBr.out _), Lib.hid (HIr.out.drewN _), Lib.hid (Hr.out.drewN _)⟩
          case measure => simp [intOf]; omega
        · obtain ⟨b', off', e2, _, hc'⟩ := HIr.out.get (k := k - 1) (by omega)
          rw [e1] at e2
          cases e2
          obtain ⟨y, hy⟩ : ∃ y, ss.getD (k - 1) 0 = y := ⟨_, rfl⟩
          have hlty := M.srt_lt HSRT.out (i := k - 1) (k := k) (by omega) (by rw [HN2.out]; exact hlt)
          rw [HZ.out, hy] at hlty
          rw [hy] at hc'
          obtain ⟨j, rfl⟩ : ∃ j, k = j + 1 := ⟨k - 1, by omega⟩
          rw [Nat.add_sub_cancel] at hc'
          have g1 : decide (z ≤ y) = false := decide_eq_false (by omega)
          have g2 : decide ((0 : Int) < ((j + 1 : Nat) : Int)) = true := decide_eq_true (by omega)
          have g3 : (((j + 1 : Nat) : Int)) - 1 = (j : Int) := by omega
          clear hy hlty
          subst e1
          go_wp2
          go_quiet ((go_at_call 26; (with_reducible exact Calls.quiet_of_same (C1.out _))))
          go_wp2
          go_roundw
          case rel => exact ⟨j + 1 + 1, by omega, by go_num, Lib.hid (below_dn HBr.out _), Lib.hid (HIr.out.drewN _), Lib.hid (Hr.out.drewN _)⟩
          case measure => simp [intOf]; omega
      · have hltz : ¬ (k : Int) < (n2 : Int) := by omega
        have HD := HBr
        have HI2 := HIr
        have H2 := Hr
        clear hk hlt
        go_wp2
        go_loop [5] (fun i => ∃ k : Nat, k ≤ len0 ∧ i = .int .i64 k) (fun i => len0 - (intOf i).toNat)
        case atStart => exact ⟨0, Nat.zero_le _, rfl⟩
        case round =>
          obtain ⟨k, hk, rfl⟩ := hrel
          by_cases hlt : k < len0
          · have hltz2 : (k : Int) < (len0 : Int) := by omega
            obtain ⟨b, off, e1, _, hc⟩ := H2.out.get hlt
            obtain ⟨z, hz⟩ : ∃ z, l.getD k 0 = z := ⟨_, rfl⟩
            rw [hz] at hc
            have hmem := (HMS.out z).2 (by rw [← hz]; exact M.getD_mem (by rw [H2.out.len]; exact hlt))
            have C1 := Lib.hid (show Calls Tryd.prog 26 #[.slice A1 n2 c1, .int .i64 z] wr fun e w' => e = .returned (.bool true) ∧ wr = w' by have := has_any A1 n2 c1 ss z wr HI2.out; rw [show hsB ss z = true by unfold hsB; rw [List.contains_iff_mem]; exact hmem] at this; exact this)
            clear hz hmem
            subst e1
            go_wp2_with (go_at_call 26; (with_reducible refine C1.out.mono ?_); rintro e w' ⟨rfl, rfl⟩)
            go_round
            case rel => exact ⟨k + 1, by omega, by go_num⟩
            case measure => simp [intOf]; omega
          · have hltz2 : ¬ (k : Int) < (len0 : Int) := by omega
            have CL := Lib.hid (lives_any wr (HL.out.below HD.out))
            by_cases hl : l = []
            · have hn0 : n2 = 0 := by rw [← HN2.out, HNI.out hl]; rfl
              have hl0 : len0 = 0 := by rw [← H2.out.len, hl]; rfl
              have C21 := Lib.hid (show Calls Tryd.prog 21 #[.slice a0 len0 cap0] wr fun e w' => e = .returned (.tuple #[.int .i64 (mx l), .bool false]) ∧ wr = w' by have := max_any a0 len0 cap0 l wr H2.out; rw [show neB l = false by unfold neB; rw [hl]; rfl] at this; exact this)
              generalize mx l = m at *
              subst hn0 hl0
              go_wp2_with (first
                | (go_at_call 21; (with_reducible refine C21.out.mono ?_); rintro e w' ⟨rfl, rfl⟩)
                | (go_at_call 15; (with_reducible refine CL.out.mono ?_); rintro e w3 ⟨rfl, hb⟩))
              go_ret
              exact ⟨rfl, HD.out.trans (hb.mono HD.out.size)⟩
            · obtain ⟨q1, q2⟩ := HMX.out hl
              have C21 := Lib.hid (show Calls Tryd.prog 21 #[.slice a0 len0 cap0] wr fun e w' => e = .returned (.tuple #[.int .i64 (mx l), .bool true]) ∧ wr = w' by have := max_any a0 len0 cap0 l wr H2.out; rw [show neB l = true by unfold neB; exact decide_eq_true hl] at this; exact this)
              rw [HN2.out] at q1 q2
              obtain ⟨j, rfl⟩ : ∃ j, n2 = j + 1 := ⟨n2 - 1, by omega⟩
              rw [Nat.add_sub_cancel] at q1
              obtain ⟨b, off, e1, _, hc⟩ := HI2.out.get (k := j) (by omega)
              rw [← q1] at hc
              generalize mx l = m at *
              have g1 : ((((j + 1 : Nat) : Int)) == 0) = false := by rw [beq_eq_false_iff_ne]; omega
              have g3 : (((j + 1 : Nat) : Int)) - 1 = (j : Int) := by omega
              clear q1 hl
              subst e1
              go_wp2_with (first
                | (go_at_call 21; (with_reducible refine C21.out.mono ?_); rintro e w' ⟨rfl, rfl⟩)
                | (go_at_call 15; (with_reducible refine CL.out.mono ?_); rintro e w3 ⟨rfl, hb⟩))
              go_ret
              exact ⟨rfl, HD.out.trans (hb.mono HD.out.size)⟩

set_option maxRecDepth 100000 in
theorem lifted (os : Os) (started : os.Started) (H : Type) (enc : TypeId × Value → H) :
    ReturnsInHanded {} Tryd.checked os 9 .any (fun w args => (Rows.numOnceSpec.pre enc Tryd.prog Tryd.f9 [] false w args ∧ laidMetH Tryd.prog laid1 w) ∧ sizedMet enc Tryd.prog Tryd.f9 (OpenSpec.ofChange Rows.numOnceSpec) false w args)
      (Rows.numOnceSpec.post enc Tryd.prog Tryd.f9 false true false false) := by
  refine returnsInHanded_of_change_and (C := Tryd.checked) (X := fun w _ => laidMetH Tryd.prog laid1 w) (fun _ _ _ hh h => h.of_heap hh) own started (by kernel_rfl) Tryd.func9
    (ChangeSpec.witness_shaped (enc := enc) (C := Tryd.checked) (os := os) (X := fun w _ => laidMetH Tryd.prog laid1 w) false (World.doorLaid Tryd.prog 14 os) #[.slice none 0 0] 8 rfl (World.shaped_of_RefB (by kernel_rfl) (by kernel_rfl)) (by kernel_rfl) (by kernel_rfl) (by kernel_rfl) (door_met os _)) ?_
  intro W base args ds gs before hval0 hW _ hsz hLd _
  have hval : ∀ (j : Nat) t v, Tryd.f9.params[j]? = some t → args[j]? = some v → Value.okWide Tryd.prog W .any base t v := hval0
  have hW' := hW
  obtain ⟨p, q, hA0, hV, rfl, hfz, hnd⟩ := hW
  have hA : DataW.TrodAll enc Tryd.prog W 0 (fun _ => true) true Tryd.f9.params.toList args.toList ds p := hA0
  rw [Tryd.params9] at hA hval
  obtain ⟨v0, vs0, d0, ds0, p0, q0, hargs, rfl, rfl, h0, r0⟩ := trodAll_cons hA
  obtain ⟨rfl, rfl, rfl⟩ := trodAll_nil r0
  obtain rfl : args = #[v0] := by cases args; simp_all
  obtain ⟨rfl, rfl⟩ := trodVars_none hV
  obtain ⟨a0, len0, cap0, rfl⟩ := okWide_slice Tryd.underlying31 (hval 0 31 v0 rfl rfl)
  have k0 := h0
  have lt0 : ∀ x ∈ p0, x.block < W.heap.size := by obtain ⟨m, hm⟩ := k0; exact DataW.trod_lt m _ _ _ hm
  obtain ⟨z0, w0⟩ : ∃ zs, IsRow .i64 W a0 len0 cap0 zs := by
    obtain ⟨fuel, hf⟩ := h0
    rcases open_ints Tryd.underlying31 Tryd.underlying3 (by kernel_rfl) hf with ⟨hcs, _⟩ | ⟨x, l, c, zs, hcs, _, hl, hm, hz, _, hcell, hwz⟩
    · simp [Value.cells] at hcs
      obtain ⟨rfl, rfl, rfl⟩ := hcs
      exact ⟨[], .inl ⟨rfl, rfl, rfl, rfl⟩⟩
    · simp [Value.cells] at hcs
      obtain ⟨rfl, rfl, rfl⟩ := hcs
      exact ⟨zs, .inr ⟨_, rfl, hl, hm, by simpa using hz, hcell, hwz⟩⟩
  clear hA0 hval0
  refine (walk a0 len0 cap0 z0 W w0 (of_laid hLd)).mono fun e W' ⟨he, bel⟩ => ?_
  subst he
  exact ⟨_, rfl, _, _, _, [], _, [], hW', trodAll_mk1 (shut_bool Tryd.underlying4 _), (trodAll_cons_mk (Below.trod laidOut (by kernel_rfl) (of_decide_eq_true (by kernel_rfl)) k0 bel lt0) trodAll_mk0), rfl, bel.frame _, fun h => by cases h⟩

theorem over : Rows.numOnceRow.holds Tryd.pinned (OpenSpec.ofChange Rows.numOnceSpec) :=
  OpenClaim.holds_of_wide 9 Tryd.f9 rfl rfl rfl rfl rfl rfl rfl ⟨rfl, rfl, rfl, rfl, rfl⟩ rfl rfl rfl rfl rfl (by kernel_rfl) Tryd.func9 (by kernel_rfl)
    (of_decide_eq_true (by kernel_rfl)) (by unfold Func.isWrapper; first | (rw [if_pos (by decide +kernel)]; kernel_rfl) | (rw [if_neg (by decide +kernel)]; exact ⟨rfl, rfl⟩))
    (fun os started H enc _ => lifted os started H enc)

theorem proved : Rows.NumOnceCardSaid :=
  Claim7.holds_tied_plain_at .later [] [.data] true (true, "c96516d55b5b973b4fdd8285a8f92b86b99469fd7af449697676a2214949099e") false
    over (fun _ h => by cases h) (by kernel_rfl) (fun _ h => by cases h) numOnce_row_tie rfl ⟨rfl, rfl⟩ (by kernel_rfl) rfl
    (fun f fn hf hfn => by
      obtain rfl : f = 9 := Option.some.inj ((show Tryd.prog.funcNamed "fedchat/fedchatlaw01.NumOnce" = some 9 by kernel_rfl).symm.trans hf) |>.symm
      obtain rfl : fn = Tryd.f9 := (Option.some.inj (Tryd.func9.symm.trans hfn)).symm
      exact ⟨by kernel_rfl, fun j t ht => by
        rw [Tryd.params9] at ht
        have hm : t ∈ [31] := by simpa using Array.mem_of_getElem? ht
        have hall : ([31].all fun u => !Tryd.prog.wantsStandIn u) = true := by kernel_rfl
        exact (show Tryd.prog.wantsStandIn t = false by simpa using List.all_eq_true.1 hall t hm)⟩)
    (by kernel_rfl)
#print axioms proved
end Go.Proofs.YtemnidjggamciaaDoor.numOnce
