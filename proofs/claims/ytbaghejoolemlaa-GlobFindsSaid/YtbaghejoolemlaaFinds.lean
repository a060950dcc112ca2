/- GlobFinds: for every input the statement returns true. Conditions: none beyond the statement's own. -/
import Derived.Test.YtbaghejoolemlaaRows
import Derived.Test.YtbaghejoolemlaaW9
import Derived.ProofKit
import Derived.OpenShut
import Derived.ShutString
import Derived.ChangeOld
import Derived.Below
import Derived.SliceStrings
namespace Go.Proofs.Ytbaghejoolemlaa.globFinds
open Go.ChangeShapes Go.WideShapes Go.ChangeAt Go.RowKit
open Go.ChangeMaps (open_string shut_string)
set_option linter.unusedVariables false

theorem own : ownKnob Try.prog.godebug = none := by kernel_rfl
theorem laidOut : laidOutB Try.prog = true := by kernel_rfl

theorem strs_of_row {w : World} {x : Addr} {len cap : Nat} {zs : List ByteArray} (hl : len ≤ cap) (hm : cap ≤ maxLen) (hz : zs.length = cap) (hc : ∀ i, i < zs.length → w.cell? (x.add i) = some (.string (zs.getD i ByteArray.empty))) (hw : ∀ s ∈ zs, s.size ≤ maxLen) :
    Strs w (some x) len (zs.take len) := by
  unfold maxLen at hm hw
  refine ⟨by rw [List.length_take]; omega, by omega, fun s hs => by have := hw s (List.mem_of_mem_take hs); omega, fun h0 => ?_⟩
  obtain ⟨b, off, s⟩ := x
  have hf := hc 0 (by omega)
  have hs : s = none := by simpa [Addr.add] using World.cell?_spot hf
  subst hs
  · refine ⟨b, off, rfl, World.block_lt_of_cell? w _ hf, fun i hi => ?_⟩
    have := hc i (by omega)
    rw [Addr.add_lit] at this
    rw [this, List.getD_eq_getElem?_getD, List.getD_eq_getElem?_getD, List.getElem?_take, if_pos hi]

set_option maxHeartbeats 1600000 in
theorem walk (a0 : Option Addr) (len0 cap0 : Nat) (z0 : List ByteArray) (a1 : ByteArray) (w : World) (w0 : Strs w a0 len0 z0) (v0 : len0 ≤ cap0 ∧ (a0 = none → len0 = 0 ∧ cap0 = 0)) (w1 : a1.size ≤ maxLen) :
    Calls Try.prog 5 #[.slice a0 len0 cap0, .string a1] w fun e w' => e = .returned (.bool true) ∧ Below w.heap.size w w' := by
  have hs : a1.size ≤ 9223372036854775807 := by unfold maxLen at w1; omega
  have hl := w0.2.1
  have H := Lib.hid w0
  clear w0 v0
  by_cases h : 40 < len0
  · have g : decide ((40 : Int) < (len0 : Int)) = true := by simp; omega
    go_enter Try.func5, Try.ntmps5
    go_wp2
    go_ret
    exact ⟨rfl, Below.refl _ _⟩
  · have g : decide ((40 : Int) < (len0 : Int)) = false := by simp; omega
    by_cases h2 : 200 < a1.size
    · have g2 : decide ((200 : Int) < (a1.size : Int)) = true := by simp; omega
      go_enter Try.func5, Try.ntmps5
      go_wp2
      go_ret
      exact ⟨rfl, Below.refl _ _⟩
    · have g2 : decide ((200 : Int) < (a1.size : Int)) = false := by simp; omega
      have C1 := Lib.hid (fun w h => first_any a0 len0 cap0 z0 a1 (by omega) w h)
      have C2 := Lib.hid (fun w h => rfirst_any a0 len0 cap0 z0 a1 (by omega) w h)
      have C3 := Lib.hid (fun w h => any_any a0 len0 cap0 z0 a1 (by omega) w h)
      have C4 := Lib.hid (fun w h => rany_any a0 len0 cap0 z0 a1 (by omega) w h)
      generalize fst z0 (bys a1) = x1 at *
      have e1 : (x1 == x1) = true := beq_self_eq_true _
      generalize decide (0 ≤ x1) = x2 at *
      have e2 : (x2 == x2) = true := beq_self_eq_true _
      clear h2
      go_enter Try.func5, Try.ntmps5
      go_wp2
      go_loop [5] (fun i => ∃ k : Nat, k ≤ len0 ∧ i = .int .i64 k) (fun i => len0 - (intOf i).toNat)
      case atStart => exact ⟨0, Nat.zero_le _, rfl⟩
      case round =>
        obtain ⟨k, hk, rfl⟩ := hrel
        by_cases hlt : k < len0
        · obtain ⟨b, off, rfl, t, ht, hts, hbl, hcell⟩ := H.out.str hlt
          clear ht
          by_cases h5 : 100 < t.size
          · have g5 : decide ((100 : Int) < (t.size : Int)) = true := by simp; omega
            go_wp2
            go_ret
            exact ⟨rfl, Below.refl _ _⟩
          · have g5 : decide ((100 : Int) < (t.size : Int)) = false := by simp; omega
            go_wp2
            go_round
            case rel => exact ⟨k + 1, by omega, by go_num⟩
            case measure => simp [intOf]; omega
        · go_wp2_with (first
            | (go_at_call 16; refine (live_any _).mono ?_; rintro e wl ⟨rfl, hbl⟩)
            | (go_at_call 19; refine (C1.out _ H.out).mono ?_; rintro e w1 ⟨rfl, hb1⟩)
            | (go_at_call 20; refine (C2.out _ (H.out.below hb1)).mono ?_; rintro e w2 ⟨rfl, hb2⟩; have B2 := Lib.hid (hb1.trans (hb2.mono hb1.size)))
            | (go_at_call 21; refine (C3.out _ (H.out.below B2.out)).mono ?_; rintro e w3 ⟨rfl, hb3⟩; have B3 := Lib.hid (B2.out.trans (hb3.mono B2.out.size)))
            | (go_at_call 22; refine (C4.out _ (H.out.below B3.out)).mono ?_; rintro e w4 ⟨rfl, hb4⟩; have B4 := Lib.hid (B3.out.trans (hb4.mono B3.out.size))))
          go_ret
          exact ⟨rfl, B4.out.trans (hbl.mono B4.out.size)⟩

set_option maxRecDepth 100000 in
theorem lifted (os : Os) (started : os.Started) (H : Type) (enc : TypeId × Value → H) :
    ReturnsInHanded {} Try.checked os 5 .any (Rows.globFindsSpec.pre6 enc Try.prog Try.f5 Rows.globFindsRow.domain false) (Rows.globFindsSpec.post enc Try.prog Try.f5 false true false false) := by
  refine returnsInHanded_of_change (C := Try.checked) own started (by kernel_rfl) Try.func5
    (ChangeSpec.witness6 (enc := enc) (C := Try.checked) false ⟨#[], #[.slice none 0 0, .string ByteArray.empty], []⟩ 8 (by kernel_rfl) (by kernel_rfl) (by kernel_rfl) (by kernel_rfl)) ?_
  intro W base args ds gs before hval0 hW hcnd _
  have hval : ∀ (j : Nat) t v, Try.f5.params[j]? = some t → args[j]? = some v → Value.okWide Try.prog W .any base t v := hval0
  have hW' := hW
  obtain ⟨p, q, hA0, hV, rfl, hfz, hnd⟩ := hW
  have hA : DataW.TrodAll enc Try.prog W 0 (fun _ => true) true Try.f5.params.toList args.toList ds p := hA0
  rw [Try.params5] at hA hval
  obtain ⟨v0, vs0, d0, ds0, p0, q0, hargs, rfl, rfl, h0, r0⟩ := trodAll_cons hA
  obtain ⟨v1, vs1, d1, ds1, p1, q1, rfl, rfl, rfl, h1, r1⟩ := trodAll_cons r0
  obtain ⟨rfl, rfl, rfl⟩ := trodAll_nil r1
  obtain rfl : args = #[v0, v1] := by cases args; simp_all
  obtain ⟨rfl, rfl⟩ := trodVars_none hV
  obtain ⟨a0, len0, cap0, rfl⟩ := okWide_slice Try.underlying28 (hval 0 28 v0 rfl rfl)
  have k0 := h0
  have lt0 : ∀ x ∈ p0, x.block < W.heap.size := by obtain ⟨m, hm⟩ := k0; exact DataW.trod_lt m _ _ _ hm
  obtain ⟨z0, w0, v0⟩ : ∃ zs, Strs W a0 len0 zs ∧ len0 ≤ cap0 ∧ (a0 = none → len0 = 0 ∧ cap0 = 0) := by
    obtain ⟨fuel, hf⟩ := h0
    rcases open_strings Try.underlying28 Try.underlying9 (by kernel_rfl) hf with ⟨hcs, _⟩ | ⟨x, l, c, zs, hcs, _, hl, hm, hz, _, hcell, hwz⟩
    · simp [Value.cells] at hcs
      obtain ⟨rfl, rfl, rfl⟩ := hcs
      exact ⟨[], ⟨rfl, by omega, by simp, by omega⟩, Nat.le_refl _, fun _ => ⟨rfl, rfl⟩⟩
    · simp [Value.cells] at hcs
      obtain ⟨rfl, rfl, rfl⟩ := hcs
      exact ⟨zs.take len0, strs_of_row hl hm (by simpa using hz) hcell hwz, hl, fun h => by cases h⟩
  obtain ⟨a1, rfl, rfl, rfl, w1⟩ := open_string Try.underlying9 (hval 1 9 v1 rfl rfl) h1
  clear hA0 hval0
  refine (walk a0 len0 cap0 z0 a1 W w0 v0 w1).mono fun e W' ⟨he, bel⟩ => ?_
  subst he
  exact ⟨_, rfl, _, _, _, [], _, [], hW', trodAll_mk1 (shut_bool Try.underlying4 _), (trodAll_cons_mk (Below.trod laidOut (by kernel_rfl) (of_decide_eq_true (by kernel_rfl)) k0 bel lt0) (trodAll_cons_mk (shut_string Try.underlying9 w1) trodAll_mk0)), rfl, bel.frame _, fun h => by cases h⟩

theorem over : Rows.globFindsRow.holds Try.pinned (OpenSpec.ofChange Rows.globFindsSpec) :=
  OpenClaim.holds_of_wide 5 Try.f5 rfl rfl rfl rfl rfl rfl rfl ⟨rfl, rfl, rfl, rfl, rfl⟩ rfl rfl rfl rfl rfl (by kernel_rfl) Try.func5 (by kernel_rfl)
    (of_decide_eq_true (by kernel_rfl)) (by unfold Func.isWrapper; first | (rw [if_pos (by decide +kernel)]; kernel_rfl) | (rw [if_neg (by decide +kernel)]; exact ⟨rfl, rfl⟩))
    (fun os started H enc _ => lifted os started H enc)

theorem proved : Rows.GlobFindsSaid := over
#print axioms proved
end Go.Proofs.Ytbaghejoolemlaa.globFinds
