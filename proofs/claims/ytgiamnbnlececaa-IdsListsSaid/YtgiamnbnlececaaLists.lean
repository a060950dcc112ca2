/- IdsLists: for every input the statement returns true. Conditions: none beyond the statement's own. -/
import Derived.Test.YtgiamnbnlececaaRows
import Derived.Test.YtgiamnbnlececaaW14
import Derived.ProofKit
import Derived.OpenShut
import Derived.ShutString
import Derived.ChangeOld
import Derived.Below
import Derived.SliceStrings
namespace Go.Proofs.Ytgiamnbnlececaa.idsLists
open Go.ChangeShapes Go.WideShapes Go.ChangeAt Go.RowKit
open Go.ChangeMaps (open_string shut_string)
set_option linter.unusedVariables false

theorem own : ownKnob Try.prog.godebug = none := by kernel_rfl
theorem laidOut : laidOutB Try.prog = true := by kernel_rfl

theorem strs_of_row {w : World} {x : Addr} {len cap : Nat} {zs : List ByteArray} (hl : len ≤ cap) (hm : cap ≤ maxLen) (hz : zs.length = cap) (hc : ∀ i, i < zs.length → w.cell? (x.add i) = some (.string (zs.getD i ByteArray.empty))) (hw : ∀ s ∈ zs, s.size ≤ maxLen) :
    Strs w (some x) len (zs.take len) := by
  unfold maxLen at hm hw
  refine ⟨by rw [List.length_take]; omega, by omega, fun s hs => by have := hw s (List.mem_of_mem_take hs); omega, fun h0 => ?_⟩
  obtain ⟨b, off, s⟩ := x
  have hf := hc 0 (by omega)
  have hs : s = none := by simpa [Addr.add] using World.cell?_spot hf
  subst hs
  · refine ⟨b, off, rfl, World.block_lt_of_cell? w _ hf, fun i hi => ?_⟩
    have := hc i (by omega)
    rw [Addr.add_lit] at this
    rw [this, List.getD_eq_getElem?_getD, List.getD_eq_getElem?_getD, List.getElem?_take, if_pos hi]

set_option maxHeartbeats 1600000 in
theorem walk (a0 : Option Addr) (len0 cap0 : Nat) (z0 : List ByteArray) (a1 : ByteArray) (w : World) (w0 : Strs w a0 len0 z0) (v0 : len0 ≤ cap0 ∧ (a0 = none → len0 = 0 ∧ cap0 = 0)) (w1 : a1.size ≤ maxLen) :
    Calls Try.prog 6 #[.slice a0 len0 cap0, .string a1] w fun e w' => e = .returned (.bool true) ∧ Below w.heap.size w w' := by
  by_cases hlen : 100 < len0
  · have d1 : decide ((100 : Int) < (len0 : Int)) = true := by simp; omega
    go_enter Try.func6, Try.ntmps6
    go_wp2_with (go_at_call 11; refine (awake_any _).mono ?_; rintro e wx ⟨rfl, hbx⟩; have BX := Lib.hid hbx; clear hbx)
    go_ret
    exact ⟨rfl, BX.out⟩
  · have d1 : decide ((100 : Int) < (len0 : Int)) = false := by simp; omega
    have H := Lib.hid w0
    have C1 := Lib.hid (names_any a0 len0 cap0 z0 w w0 v0.1 (by omega))
    clear w0 v0
    generalize hns : I.nm (tx z0) = ns at *
    have HNS := Lib.hid hns
    clear hns
    generalize hx : I.fnd (tx z0) a1.data.toList = x at *
    have HX := Lib.hid hx
    clear hx
    go_enter Try.func6, Try.ntmps6
    go_wp2_with (first
      | (go_at_call 23; refine C1.out.mono ?_; rintro e w4 ⟨A1, c1, rfl, hc1, hs1, hb1⟩; have B1 := Lib.hid hb1; have S1 := Lib.hid hs1; clear hb1 hs1 hc1)
      | (go_at_call 24; refine (rnames_any a0 len0 cap0 z0 _ (Strs.below H.out B1.out) (by omega)).mono ?_; rw [HNS.out]; rintro e w5 ⟨A2, c2, rfl, hc2, hs2, hb2⟩; have B2 := Lib.hid (B1.out.trans (hb2.mono B1.out.size)); have S2 := Lib.hid hs2; have S1b := Lib.hid (Strs.below S1.out hb2); clear hb2 hs2 hc2)
      | (go_at_call 22; refine (same_any A1 _ c1 _ A2 _ c2 _ _ S1b.out S2.out).mono ?_; rintro e w6 ⟨rfl, hb3⟩; have B3 := Lib.hid (B2.out.trans (hb3.mono B2.out.size)); clear hb3; rw [decide_eq_true rfl])
      | (go_at_call 25; refine (find_any a0 len0 cap0 z0 a1 _ (Strs.below H.out B3.out)).mono ?_; rw [HX.out]; rintro e w' ⟨rfl, rfl⟩)
      | (go_at_call 26; refine (rfind_any a0 len0 cap0 z0 a1 _ (Strs.below H.out B3.out)).mono ?_; rw [HX.out]; rintro e w' ⟨rfl, rfl⟩)
      | (go_at_call 11; refine (awake_any _).mono ?_; rintro e wx ⟨rfl, hbx⟩; have BX := Lib.hid hbx; clear hbx))
    go_ret
    exact ⟨rfl, B3.out.trans (BX.out.mono B3.out.size)⟩

set_option maxRecDepth 100000 in
theorem lifted (os : Os) (started : os.Started) (H : Type) (enc : TypeId × Value → H) :
    ReturnsInHanded {} Try.checked os 6 .any (Rows.idsListsSpec.pre6 enc Try.prog Try.f6 Rows.idsListsRow.domain false) (Rows.idsListsSpec.post enc Try.prog Try.f6 false true false false) := by
  refine returnsInHanded_of_change (C := Try.checked) own started (by kernel_rfl) Try.func6
    (ChangeSpec.witness6 (enc := enc) (C := Try.checked) false ⟨#[], #[.slice none 0 0, .string ByteArray.empty], []⟩ 8 (by kernel_rfl) (by kernel_rfl) (by kernel_rfl) (by kernel_rfl)) ?_
  intro W base args ds gs before hval0 hW hcnd _
  have hval : ∀ (j : Nat) t v, Try.f6.params[j]? = some t → args[j]? = some v → Value.okWide Try.prog W .any base t v := hval0
  have hW' := hW
  obtain ⟨p, q, hA0, hV, rfl, hfz, hnd⟩ := hW
  have hA : DataW.TrodAll enc Try.prog W 0 (fun _ => true) true Try.f6.params.toList args.toList ds p := hA0
  rw [Try.params6] at hA hval
  obtain ⟨v0, vs0, d0, ds0, p0, q0, hargs, rfl, rfl, h0, r0⟩ := trodAll_cons hA
  obtain ⟨v1, vs1, d1, ds1, p1, q1, rfl, rfl, rfl, h1, r1⟩ := trodAll_cons r0
  obtain ⟨rfl, rfl, rfl⟩ := trodAll_nil r1
  obtain rfl : args = #[v0, v1] := by cases args; simp_all
  obtain ⟨rfl, rfl⟩ := trodVars_none hV
  obtain ⟨a0, len0, cap0, rfl⟩ := okWide_slice Try.underlying30 (hval 0 30 v0 rfl rfl)
  have k0 := h0
  have lt0 : ∀ x ∈ p0, x.block < W.heap.size := by obtain ⟨m, hm⟩ := k0; exact DataW.trod_lt m _ _ _ hm
  obtain ⟨z0, w0, v0⟩ : ∃ zs, Strs W a0 len0 zs ∧ len0 ≤ cap0 ∧ (a0 = none → len0 = 0 ∧ cap0 = 0) := by
    obtain ⟨fuel, hf⟩ := h0
    rcases open_strings Try.underlying30 Try.underlying9 (by kernel_rfl) hf with ⟨hcs, _⟩ | ⟨x, l, c, zs, hcs, _, hl, hm, hz, _, hcell, hwz⟩
    · simp [Value.cells] at hcs
      obtain ⟨rfl, rfl, rfl⟩ := hcs
      exact ⟨[], ⟨rfl, by omega, by simp, by omega⟩, Nat.le_refl _, fun _ => ⟨rfl, rfl⟩⟩
    · simp [Value.cells] at hcs
      obtain ⟨rfl, rfl, rfl⟩ := hcs
      exact ⟨zs.take len0, strs_of_row hl hm (by simpa using hz) hcell hwz, hl, fun h => by cases h⟩
  obtain ⟨a1, rfl, rfl, rfl, w1⟩ := open_string Try.underlying9 (hval 1 9 v1 rfl rfl) h1
  clear hA0 hval0
  refine (walk a0 len0 cap0 z0 a1 W w0 v0 w1).mono fun e W' ⟨he, bel⟩ => ?_
  subst he
  exact ⟨_, rfl, _, _, _, [], _, [], hW', trodAll_mk1 (shut_bool Try.underlying4 _), (trodAll_cons_mk (Below.trod laidOut (by kernel_rfl) (of_decide_eq_true (by kernel_rfl)) k0 bel lt0) (trodAll_cons_mk (shut_string Try.underlying9 w1) trodAll_mk0)), rfl, bel.frame _, fun h => by cases h⟩

theorem over : Rows.idsListsRow.holds Try.pinned (OpenSpec.ofChange Rows.idsListsSpec) :=
  OpenClaim.holds_of_wide 6 Try.f6 rfl rfl rfl rfl rfl rfl rfl ⟨rfl, rfl, rfl, rfl, rfl⟩ rfl rfl rfl rfl rfl (by kernel_rfl) Try.func6 (by kernel_rfl)
    (of_decide_eq_true (by kernel_rfl)) (by unfold Func.isWrapper; first | (rw [if_pos (by decide +kernel)]; kernel_rfl) | (rw [if_neg (by decide +kernel)]; exact ⟨rfl, rfl⟩))
    (fun os started H enc _ => lifted os started H enc)

theorem proved : Rows.IdsListsSaid := over
#print axioms proved
end Go.Proofs.Ytgiamnbnlececaa.idsLists
