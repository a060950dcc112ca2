/- SumsUnhex: for every text the statement returns true. Conditions: none beyond the statement's own. -/
import Derived.Test.YtifoenmgbaikcaaRows
import Derived.Test.YtifoenmgbaikcaaRef
import Derived.WalkKit
import Derived.ProofKit
import Derived.OpenShut
import Derived.ShutString
import Derived.ChangeOld
import Derived.Below
import Derived.ShutString
namespace Go.Proofs.Ytifoenmgbaikcaa.sumsUnhex
open Go.ChangeShapes Go.WideShapes Go.ChangeAt Go.RowKit
open Go.ChangeMaps (open_string shut_string)
set_option linter.unusedVariables false      -- a walk need not use every 'w<i>' (that an integer argument fits its kind)

theorem own : ownKnob Try.prog.godebug = none := by kernel_rfl

/-! ### STEP 1: THE WALK: the Go text returns true. 'Below w.heap.size w w'': the world has at most new blocks (Derived/RowKit3.lean). Part the cases AHEAD of 'go_enter' where a test parts the walk; take each callee by a contract of your own. -/
theorem walk (a0 : ByteArray) (w0 : a0.size ≤ maxLen) (w : World) :
    Calls Try.prog 8 #[.string a0] w fun e w' => e = .returned (.bool true) ∧ Below w.heap.size w w' := by
  have hs : a0.size ≤ 9223372036854775807 := by unfold maxLen at w0; omega
  by_cases hn : a0.size = 16
  · by_cases hok : M.ok (bys a0)
    · have hu := unh_yes a0 hok
      have hlt := M.ok_lt hok 16
      have ht : (bys a0).take 16 = bys a0 := List.take_of_length_le (by rw [hok.1]; exact Nat.le_refl _)
      rw [ht] at hlt
      have hx : M.hex (M.np (M.dn (bys a0))) = a0 := by
        unfold M.hex
        rw [(M.ok_lo hok).2, strOf_bys]
      have c1 : ∀ w, Calls Try.prog 16 #[.string a0] w fun e w' => e = .returned (.tuple #[.int .i64 ((M.np (M.dn (bys a0)) : Nat) : Int), .bool true]) ∧ Below w.heap.size w w' := fun w => (unhex_yes a0 hn w).mono fun e w' ⟨he, hb⟩ => ⟨by rw [he, hu], hb⟩
      have c2 : ∀ w, Calls Try.prog 18 #[.string a0] w fun e w' => e = .returned (.tuple #[.int .i64 ((M.np (M.dn (bys a0)) : Nat) : Int), .bool true]) ∧ w = w' := fun w => (runhex_yes a0 hn w).mono fun e w' ⟨he, hb⟩ => ⟨by rw [he, hu], hb⟩
      have c3 : ∀ w, Calls Try.prog 15 #[.int .i64 ((M.np (M.dn (bys a0)) : Nat) : Int)] w fun e w' => e = .returned (.string a0) ∧ Below w.heap.size w w' := fun w => (hex_any _ w).mono fun e w' ⟨he, hb⟩ => ⟨by rw [he, M.lo_nat _ hlt, hx], hb⟩
      have C1 := Lib.hid c1
      have C2 := Lib.hid c2
      have C3 := Lib.hid c3
      clear c1 c2 c3 hx hu ht hn
      go_enter Try.func8, Try.ntmps8
      go_wp2_with (first
        | (go_at_call 9; refine (lives_any _).mono ?_; rintro e w4 ⟨rfl, hb4⟩)
        | (go_at_call 15; refine (C3.out _).mono ?_; rintro e w3 ⟨rfl, hb3⟩)
        | (go_at_call 16; refine (C1.out _).mono ?_; rintro e w2 ⟨rfl, hb2⟩)
        | (go_at_call 18; refine (C2.out _).mono ?_; rintro e w' ⟨rfl, rfl⟩))
      go_ret
      exact ⟨rfl, (hb2.trans (hb3.mono hb2.size)).trans (hb4.mono (Nat.le_trans hb2.size hb3.size))⟩
    · have hu := unh_no a0 hok
      have c1 : ∀ w, Calls Try.prog 16 #[.string a0] w fun e w' => e = .returned (.tuple #[.int .i64 0, .bool false]) ∧ Below w.heap.size w w' := fun w => (unhex_yes a0 hn w).mono fun e w' ⟨he, hb⟩ => ⟨by rw [he, hu], hb⟩
      have c2 : ∀ w, Calls Try.prog 18 #[.string a0] w fun e w' => e = .returned (.tuple #[.int .i64 0, .bool false]) ∧ w = w' := fun w => (runhex_yes a0 hn w).mono fun e w' ⟨he, hb⟩ => ⟨by rw [he, hu], hb⟩
      have C1 := Lib.hid c1
      have C2 := Lib.hid c2
      clear c1 c2 hu hn hok
      go_enter Try.func8, Try.ntmps8
      go_wp2_with (first
        | (go_at_call 9; refine (lives_any _).mono ?_; rintro e w4 ⟨rfl, hb4⟩)
        | (go_at_call 16; refine (C1.out _).mono ?_; rintro e w2 ⟨rfl, hb2⟩)
        | (go_at_call 18; refine (C2.out _).mono ?_; rintro e w' ⟨rfl, rfl⟩))
      go_ret
      exact ⟨rfl, hb2.trans (hb4.mono hb2.size)⟩
  · have C1 := Lib.hid (unhex_no a0 hs hn)
    have C2 := Lib.hid (runhex_no a0 hs hn)
    clear hn
    go_enter Try.func8, Try.ntmps8
    go_wp2_with (first
      | (go_at_call 9; refine (lives_any _).mono ?_; rintro e w4 ⟨rfl, hb4⟩)
      | (go_at_call 16; refine (C1.out _).mono ?_; rintro e w2 ⟨rfl, hb2⟩)
      | (go_at_call 18; refine (C2.out _).mono ?_; rintro e w' ⟨rfl, rfl⟩))
    go_ret
    exact ⟨rfl, hb2.trans (hb4.mono hb2.size)⟩

/-! ### THE ROW's STEP: WRITTEN OUT: LEAVE IT -/
set_option maxRecDepth 100000 in
theorem lifted (os : Os) (started : os.Started) (H : Type) (enc : TypeId × Value → H) :
    ReturnsInHanded {} Try.checked os 8 .any (Rows.sumsUnhexSpec.pre6 enc Try.prog Try.f8 Rows.sumsUnhexRow.domain false) (Rows.sumsUnhexSpec.post enc Try.prog Try.f8 false true false false) := by
  refine returnsInHanded_of_change (C := Try.checked) own started (by kernel_rfl) Try.func8
    (ChangeSpec.witness6 (enc := enc) (C := Try.checked) false ⟨#[], #[.string ByteArray.empty], []⟩ 8 (by kernel_rfl) (by kernel_rfl) (by kernel_rfl) (by kernel_rfl)) ?_
  intro W base args ds gs before hval0 hW hcnd _
  have hval : ∀ (j : Nat) t v, Try.f8.params[j]? = some t → args[j]? = some v → Value.okWide Try.prog W .any base t v := hval0
  have hW' := hW
  obtain ⟨p, q, hA0, hV, rfl, hfz, hnd⟩ := hW
  have hA : DataW.TrodAll enc Try.prog W 0 (fun _ => true) true Try.f8.params.toList args.toList ds p := hA0
  rw [Try.params8] at hA hval
  obtain ⟨v0, vs0, d0, ds0, p0, q0, hargs, rfl, rfl, h0, r0⟩ := trodAll_cons hA
  obtain ⟨rfl, rfl, rfl⟩ := trodAll_nil r0
  obtain rfl : args = #[v0] := by cases args; simp_all
  obtain ⟨rfl, rfl⟩ := trodVars_none hV
  obtain ⟨a0, rfl, rfl, rfl, w0⟩ := open_string Try.underlying9 (hval 0 9 v0 rfl rfl) h0
  clear hA0 hval0
  refine (walk a0 w0 W).mono fun e W' ⟨he, bel⟩ => ?_
  subst he
  exact ⟨_, rfl, _, _, _, [], _, [], hW', trodAll_mk1 (shut_bool Try.underlying4 _), (trodAll_cons_mk (shut_string Try.underlying9 w0) trodAll_mk0), rfl, bel.frame _, fun h => by cases h⟩

theorem over : Rows.sumsUnhexRow.holds Try.pinned (OpenSpec.ofChange Rows.sumsUnhexSpec) :=
  OpenClaim.holds_of_wide 8 Try.f8 rfl rfl rfl rfl rfl rfl rfl ⟨rfl, rfl, rfl, rfl, rfl⟩ rfl rfl rfl rfl rfl (by kernel_rfl) Try.func8 (by kernel_rfl)
    (of_decide_eq_true (by kernel_rfl)) (by unfold Func.isWrapper; first | (rw [if_pos (by decide +kernel)]; kernel_rfl) | (rw [if_neg (by decide +kernel)]; exact ⟨rfl, rfl⟩))
    (fun os started H enc _ => lifted os started H enc)

/-- ████ THE STATEMENT ████ -/
theorem proved : Rows.SumsUnhexSaid :=
  over
#print axioms proved
end Go.Proofs.Ytifoenmgbaikcaa.sumsUnhex
