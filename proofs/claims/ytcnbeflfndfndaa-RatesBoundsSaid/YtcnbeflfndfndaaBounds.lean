/- RatesBounds: for every bucket and every list of calls the statement returns true and changes nothing. Conditions: none beyond the statement's own. -/
import Derived.Test.YtcnbeflfndfndaaRows
import Derived.Test.YtcnbeflfndfndaaB2
import Derived.Deep.SlicePairs
import Derived.Lib.SmallJoins
import Derived.ProofKit
import Derived.OpenShut
import Derived.ShutString
import Derived.ChangeOld
import Derived.Below
import Derived.SliceStrings
namespace Go.Proofs.Ytcnbeflfndfndaa.ratesBounds
open Go.ChangeShapes Go.WideShapes Go.ChangeAt Go.RowKit Go.Joins
open Go.ChangeMaps (open_string shut_string)
set_option linter.unusedVariables false

theorem own : ownKnob Try.prog.godebug = none := by kernel_rfl
theorem laidOut : laidOutB Try.prog = true := by kernel_rfl

theorem cells23 : Try.prog.cellsOf 23 = 4 := by kernel_rfl
theorem cells37 : Try.prog.cellsOf 37 = 2 := by kernel_rfl
theorem cells3 : Try.prog.cellsOf 3 = 1 := by kernel_rfl
theorem prs_of {w : World} {x : Addr} {len cap m : Nat} (hl : len ≤ cap) (hm : cap ≤ maxLen) (hlm : len ≤ m)
    (h : ∀ i, i < m → ∃ z0 z1 : Int, w.cell? (x.add (i * 2)) = some (.int .i64 z0) ∧ w.cell? (x.add (i * 2 + 1)) = some (.int .i64 z1) ∧ (-9223372036854775808 ≤ z0 ∧ z0 ≤ 9223372036854775807) ∧ (-9223372036854775808 ≤ z1 ∧ z1 ≤ 9223372036854775807)) :
    ∃ Tm Nm, Prs w (some x) len Tm Nm := by
  have each : ∀ i, ∃ z : Int × Int, ((-9223372036854775808 ≤ z.1 ∧ z.1 ≤ 9223372036854775807) ∧ (-9223372036854775808 ≤ z.2 ∧ z.2 ≤ 9223372036854775807)) ∧ (i < m → w.cell? (x.add (i * 2)) = some (.int .i64 z.1) ∧ w.cell? (x.add (i * 2 + 1)) = some (.int .i64 z.2)) := fun i => by
    by_cases hi : i < m
    · obtain ⟨z0, z1, h1, h2, h3, h4⟩ := h i hi
      exact ⟨(z0, z1), ⟨h3, h4⟩, fun _ => ⟨h1, h2⟩⟩
    · exact ⟨(0, 0), by omega, fun h => absurd h hi⟩
  obtain ⟨F, hF⟩ := Classical.axiomOfChoice each
  refine ⟨fun i => (F i).1, fun i => (F i).2, fun i => (hF i).1, by unfold maxLen at hm; omega, fun h0 => ?_⟩
  obtain ⟨b, off, s⟩ := x
  have hf := ((hF 0).2 (by omega)).1
  have hs : s = none := by simpa [Addr.add] using World.cell?_spot hf
  subst hs
  refine ⟨b, off, rfl, World.block_lt_of_cell? w _ hf, fun i hi => ?_⟩
  have := (hF i).2 (by omega)
  rw [Addr.add_lit, Addr.add_lit] at this
  exact ⟨this.1, by rw [Nat.add_assoc]; exact this.2⟩

set_option maxHeartbeats 1600000 in
theorem walk (L A M E : Int) (a1 : Option Addr) (len1 cap1 : Nat) (Tm Nm : Nat → Int) (w : World)  (hp : Prs w a1 len1 Tm Nm) :
    Calls Try.prog 8 #[bk L A M E, .slice a1 len1 cap1] w fun e w' => e = .returned (.bool true) ∧ Below w.heap.size w w' := by
  have hl1 := hp.2.1
  by_cases hlen : 60 < len1
  · have d1 : decide ((60 : Int) < (len1 : Int)) = true := by simp; omega
    go_enter Try.func8, Try.ntmps8
    go_wp2_with (go_at_call 14; refine (live_any _).mono ?_; rintro e w1 ⟨rfl, hb1⟩)
    go_ret
    exact ⟨rfl, ((Below.refl _ _).alloc (Nat.le_refl _) _).trans (hb1.mono (by simp))⟩
  · by_cases ok : Ok L A M E
    · exact bounds_good L A M E a1 len1 cap1 Tm Nm w ok (by omega) hp
    · have d1 : decide ((60 : Int) < (len1 : Int)) = false := by simp; omega
      have HBB := Lib.hid (box_start w L A M E)
      obtain ⟨k0, k1, k2, k3, kf, kl⟩ := HBB.out
      clear hp
      go_enter Try.func8, Try.ntmps8
      go_wp2_with (first
        | (go_at_call 12; refine (check_bad ok _).mono ?_; rintro e w1 ⟨rfl, hb1⟩)
        | (go_at_call 14; refine (live_any _).mono ?_; rintro e w2 ⟨rfl, hb2⟩))
      go_ret
      exact ⟨rfl, (((Below.refl _ _).alloc (Nat.le_refl _) _).trans (hb1.mono (by simp))).trans (hb2.mono (by have := hb1.size; simp at this; omega))⟩

set_option maxRecDepth 100000 in
theorem lifted (os : Os) (started : os.Started) (H : Type) (enc : TypeId × Value → H) :
    ReturnsInHanded {} Try.checked os 8 .any (Rows.ratesBoundsSpec.pre6 enc Try.prog Try.f8 Rows.ratesBoundsRow.domain false) (Rows.ratesBoundsSpec.post enc Try.prog Try.f8 false true false false) := by
  refine returnsInHanded_of_change (C := Try.checked) own started (by kernel_rfl) Try.func8
    (ChangeSpec.witness6 (enc := enc) (C := Try.checked) false ⟨#[], #[.agg #[.int .i64 0, .int .i64 0, .int .i64 0, .int .i64 0], .slice none 0 0], []⟩ 8 (by kernel_rfl) (by kernel_rfl) (by kernel_rfl) (by kernel_rfl)) ?_
  intro W base args ds gs before hval0 hW hcnd _
  have hval : ∀ (j : Nat) t v, Try.f8.params[j]? = some t → args[j]? = some v → Value.okWide Try.prog W .any base t v := hval0
  have hW' := hW
  obtain ⟨p, q, hA0, hV, rfl, hfz, hnd⟩ := hW
  have hA : DataW.TrodAll enc Try.prog W 0 (fun _ => true) true Try.f8.params.toList args.toList ds p := hA0
  rw [Try.params8] at hA hval
  obtain ⟨v0, vs0, d0, ds0, p0, q0, hargs, rfl, rfl, h0, r0⟩ := trodAll_cons hA
  obtain ⟨v1, vs1, d1, ds1, p1, q1, rfl, rfl, rfl, h1, r1⟩ := trodAll_cons r0
  obtain ⟨rfl, rfl, rfl⟩ := trodAll_nil r1
  obtain rfl : args = #[v0, v1] := by cases args; simp_all
  obtain ⟨rfl, rfl⟩ := trodVars_none hV
  have k0 := h0
  have lt0 : ∀ x ∈ p0, x.block < W.heap.size := by obtain ⟨m, hm⟩ := k0; exact DataW.trod_lt m _ _ _ hm
  obtain ⟨c0, c1, c2, c3, y0, y1, y2, y3, m, rfl, hd0, hp0, hy0, hy1, hy2, hy3⟩ := open_agg4 Try.underlying23 (by kernel_rfl) cells23 (hval 0 23 v0 rfl rfl) h0
  obtain ⟨L, e0, _, _⟩ := DataW.trod_int Try.underlying3 hy0
  obtain ⟨A, e1, _, _⟩ := DataW.trod_int Try.underlying3 hy1
  obtain ⟨M, e2, _, _⟩ := DataW.trod_int Try.underlying3 hy2
  obtain ⟨E, e3, _, _⟩ := DataW.trod_int Try.underlying3 hy3
  simp only [List.cons.injEq, and_true] at e0 e1 e2 e3
  subst e0 e1 e2 e3
  have k1 := h1
  have lt1 : ∀ x ∈ p1, x.block < W.heap.size := by obtain ⟨m, hm⟩ := k1; exact DataW.trod_lt m _ _ _ hm
  obtain ⟨a1, len1, cap1, rfl⟩ := okWide_slice Try.underlying35 (hval 1 35 v1 rfl rfl)
  obtain ⟨Tm, Nm, hp⟩ : ∃ Tm Nm, Prs W a1 len1 Tm Nm := by
    obtain ⟨fuel, hf⟩ := h1
    rcases Go.Deep.open_slice_pairs Try.underlying35 Try.underlying37 cells37 rfl rfl cells3 cells3 hf with ⟨hcs, _⟩ | ⟨x, l, c, m, n, V0, V1, D0, D1, P0, P1, hcs, _, hl, hm, hmm, _, hx⟩
    · simp [Value.cells] at hcs
      obtain ⟨rfl, rfl, rfl⟩ := hcs
      exact ⟨fun _ => 0, fun _ => 0, fun i => by show (-9223372036854775808 ≤ (0 : Int) ∧ (0 : Int) ≤ 9223372036854775807) ∧ (-9223372036854775808 ≤ (0 : Int) ∧ (0 : Int) ≤ 9223372036854775807); omega, by omega, by omega⟩
    · simp [Value.cells] at hcs
      obtain ⟨rfl, rfl, rfl⟩ := hcs
      exact prs_of (m := m) hl hm (by rw [hmm]; split <;> omega) fun i hi => by
        obtain ⟨h1, h2, h3, h4⟩ := hx i hi
        obtain ⟨z0, e0, _, w0⟩ := DataW.trod_int Try.underlying3 h3
        obtain ⟨z1, e1, _, w1⟩ := DataW.trod_int Try.underlying3 h4
        simp only [List.cons.injEq, and_true] at e0 e1
        exact ⟨z0, z1, by rw [h1, e0], by rw [h2, e1], bounds_i64 w0, bounds_i64 w1⟩
  clear hA0 hval0
  refine (walk L A M E a1 len1 cap1 Tm Nm W  hp).mono fun e W' ⟨he, bel⟩ => ?_
  subst he
  exact ⟨_, rfl, _, _, _, [], _, [], hW', trodAll_mk1 (shut_bool Try.underlying4 _), (trodAll_cons_mk (Below.trod laidOut (by kernel_rfl) (of_decide_eq_true (by kernel_rfl)) k0 bel lt0) (trodAll_cons_mk (Below.trod laidOut (by kernel_rfl) (of_decide_eq_true (by kernel_rfl)) k1 bel lt1) trodAll_mk0)), rfl, bel.frame _, fun h => by cases h⟩

theorem over : Rows.ratesBoundsRow.holds Try.pinned (OpenSpec.ofChange Rows.ratesBoundsSpec) :=
  OpenClaim.holds_of_wide 8 Try.f8 rfl rfl rfl rfl rfl rfl rfl ⟨rfl, rfl, rfl, rfl, rfl⟩ rfl rfl rfl rfl rfl (by kernel_rfl) Try.func8 (by kernel_rfl)
    (of_decide_eq_true (by kernel_rfl)) (by unfold Func.isWrapper; first | (rw [if_pos (by decide +kernel)]; kernel_rfl) | (rw [if_neg (by decide +kernel)]; exact ⟨rfl, rfl⟩))
    (fun os started H enc _ => lifted os started H enc)

theorem proved : Rows.RatesBoundsSaid := over
#print axioms proved
end Go.Proofs.Ytcnbeflfndfndaa.ratesBounds
