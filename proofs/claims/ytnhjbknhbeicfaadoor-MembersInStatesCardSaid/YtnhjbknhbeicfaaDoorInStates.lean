/- MembersInStates: for all events, states and users the statement returns true and changes nothing. Condition: the two tables start as the program lays them. -/
import Derived.Test.YtnhjbknhbeicfaaDoorW15
import Derived.Test.YtnhjbknhbeicfaaDoorG6
import Derived.Lib.SmallJoins
import Derived.ProofKit
import Derived.OpenShut
import Derived.Test.YtnhjbknhbeicfaaDoorRows
import Derived.Test.YtnhjbknhbeicfaaDoorW17
import Derived.Test.YtnhjbknhbeicfaaDoorW18
import Derived.Test.YtnhjbknhbeicfaaDoorKO3
import Derived.LaidMore
import Derived.Stop.Joined
import Derived.SevenTiedAt
import Derived.Test.YtnhjbknhbeicfaaDoorTie
import Derived.Test.YtnhjbknhbeicfaaDoorCards
import Derived.ShutString
import Derived.ChangeOld
import Derived.Below
import Derived.SliceStrings
namespace Go.Proofs.YtnhjbknhbeicfaaDoor
open Go.ChangeShapes Go.WideShapes Go.ChangeAt Go.RowKit Go.Joins Go.Deep
set_option linter.unusedVariables false

/-- A step. -/
structure Sp where
  to : Int
  self : Bool
abbrev enc2 (e : Sp) : List Value := [.int .i64 e.to, .bool e.self]
def rowP (T : Nat → Sp) (j : Nat) : List Value := enc2 (T j)
structure Sts (w : World) (A : Option Addr) (m d : Nat) (T : Nat → Sp) : Prop where
  rws : Rws w A m d 2 (rowP T)
  fit : ∀ j, j < m → True
theorem Sts.below {w w1 : World} {A : Option Addr} {m d : Nat} {T : Nat → Sp} (h : Sts w A m d T) (hb : Below w.heap.size w w1) : Sts w1 A m d T := ⟨h.rws.below hb, h.fit⟩
theorem open_ens_one (e : En) : ∀ u ∈ enc3 e, u.oneCell' = true := by
  intro u hu
  simp only [enc3, List.mem_cons, List.not_mem_nil, or_false] at hu
  rcases hu with rfl | rfl | rfl <;> rfl
theorem open_sts_one (e : Sp) : ∀ u ∈ enc2 e, u.oneCell' = true := by
  intro u hu
  simp only [enc2, List.mem_cons, List.not_mem_nil, or_false] at hu
  rcases hu with rfl | rfl <;> rfl
theorem cells59 : Tryd.prog.cellsOf 59 = 3 := by kernel_rfl
theorem cells52 : Tryd.prog.cellsOf 52 = 2 := by kernel_rfl
section
variable {H : Type} {en : TypeId × Value → H} {P : Program} {w : World} {base : Nat} {spare : Nat → Bool} {held : Bool}
theorem open_cells3 {t : TypeId} {f0 f1 f2 : Field} {c0 c1 c2 : Value} {fuel : Nat} {x : DataW H × List MemPlace} (hs : P.underlying t = some (.struct #[f0, f1, f2])) (hone : oneCellFields P #[f0, f1, f2] = true)
    (hf : DataW.trod en P w base spare held fuel t [c0, c1, c2] = some x) :
    ∃ (y0 y1 y2 : DataW H × List MemPlace) (n : Nat), DataW.trod en P w base spare held n f0.type [c0] = some y0 ∧ DataW.trod en P w base spare held n f1.type [c1] = some y1 ∧ DataW.trod en P w base spare held n f2.type [c2] = some y2 := by
  obtain ⟨xs, n, _, _, hl, hlen, hf⟩ := DataW.trod_struct hs hf
  match xs, hlen, hf with
  | [y0, y1, y2], _, hf =>
    have h0 := hf 0 f0 rfl
    have h1 := hf 1 f1 rfl
    have h2 := hf 2 f2 rfl
    obtain ⟨o0, k0⟩ := hone_of hone 0 f0 rfl
    obtain ⟨o1, k1⟩ := hone_of hone 1 f1 rfl
    obtain ⟨o2, k2⟩ := hone_of hone 2 f2 rfl
    exact ⟨y0, y1, y2, n, by simpa [Value.cells, o0, k0] using h0, by simpa [Value.cells, o1, k1] using h1, by simpa [Value.cells, o2, k2] using h2⟩
theorem open_cells2s {t : TypeId} {f0 f1 : Field} {c0 c1 : Value} {fuel : Nat} {x : DataW H × List MemPlace} (hs : P.underlying t = some (.struct #[f0, f1])) (hone : oneCellFields P #[f0, f1] = true)
    (hf : DataW.trod en P w base spare held fuel t [c0, c1] = some x) :
    ∃ (y0 y1 : DataW H × List MemPlace) (n : Nat), DataW.trod en P w base spare held n f0.type [c0] = some y0 ∧ DataW.trod en P w base spare held n f1.type [c1] = some y1 := by
  obtain ⟨xs, n, _, _, hl, hlen, hf⟩ := DataW.trod_struct hs hf
  match xs, hlen, hf with
  | [y0, y1], _, hf =>
    have h0 := hf 0 f0 rfl
    have h1 := hf 1 f1 rfl
    obtain ⟨o0, k0⟩ := hone_of hone 0 f0 rfl
    obtain ⟨o1, k1⟩ := hone_of hone 1 f1 rfl
    exact ⟨y0, y1, n, by simpa [Value.cells, o0, k0] using h0, by simpa [Value.cells, o1, k1] using h1⟩
end
section
variable {H : Type} {en : TypeId × Value → H} {w : World} {base : Nat} {spare : Nat → Bool} {held : Bool}
theorem en_open {fuel : Nat} {cs : List Value} {x : DataW H × List MemPlace} (hl : cs.length = 3) (h : DataW.trod en Tryd.prog w base spare held fuel 59 cs = some x) : ∃ p : En, enc3 p = cs ∧ i64B p.id := by
  match cs, hl, h with
  | [c0, c1, c2], _, h =>
    obtain ⟨y0, y1, y2, m, h0, h1, h2⟩ := open_cells3 Tryd.underlying59 (by kernel_rfl) h
    obtain ⟨z0, e0, _, _⟩ := DataW.trod_int Tryd.underlying37 h0
    obtain ⟨s1, e1, _, _⟩ := DataW.trod_string Tryd.underlying9 h1
    obtain ⟨z2, e2, _, w2⟩ := DataW.trod_int Tryd.underlying3 h2
    simp only [List.cons.injEq, and_true] at e0 e1 e2
    subst e0 e1 e2
    have := bounds_i64 w2
    exact ⟨⟨z0, s1, z2⟩, rfl, by unfold i64B; simp only; omega⟩
theorem sp_open {fuel : Nat} {cs : List Value} {x : DataW H × List MemPlace} (hl : cs.length = 2) (h : DataW.trod en Tryd.prog w base spare held fuel 52 cs = some x) : ∃ p : Sp, enc2 p = cs ∧ True := by
  match cs, hl, h with
  | [c0, c1], _, h =>
    obtain ⟨y0, y1, m, h0, h1⟩ := open_cells2s Tryd.underlying52 (by kernel_rfl) h
    obtain ⟨z0, e0, _, _⟩ := DataW.trod_int Tryd.underlying3 h0
    obtain ⟨b1, e1, _⟩ := DataW.trod_bool Tryd.underlying4 h1
    simp only [List.cons.injEq, and_true] at e0 e1
    subst e0 e1
    exact ⟨⟨z0, b1⟩, rfl, trivial⟩
theorem open_ens {fuel : Nat} {A : Option Addr} {len cap : Nat} {x : DataW H × List MemPlace} (h : DataW.trod en Tryd.prog w base spare held fuel 34 [.slice A len cap] = some x) : ∃ F : Nat → En, Ens w A len cap F := by
  rcases Go.Deep.open_slice Tryd.underlying34 h with ⟨hcs, _⟩ | ⟨a, l, c, m, n, D, Pl, hcs, hb, hl, hm, hmm, hx, hi⟩
  · simp at hcs
    obtain ⟨rfl, rfl, rfl⟩ := hcs
    exact ⟨fun _ => ⟨0, ⟨#[]⟩, 0⟩, Rws.zero _ _ _ _ _ (fun _ => rfl), fun j hj => absurd hj (Nat.not_lt_zero _)⟩
  · simp at hcs
    obtain ⟨rfl, rfl, rfl⟩ := hcs
    have hlm : len ≤ m := by rw [hmm]; split <;> omega
    have each : ∀ i, i < len → ∃ e : En, (∀ k v, (enc3 e)[k]? = some v → w.cell? (a.add (i * 3 + k)) = some v) ∧ i64B e.id := by
      intro i hil
      obtain ⟨cs', h1, h2⟩ := hi i (by omega)
      rw [cells59] at h1
      obtain ⟨_, hlen, hcell⟩ := World.cells?_some h1
      obtain ⟨e, he, hf⟩ := en_open hlen h2
      refine ⟨e, fun k v hv => ?_, hf⟩
      have hv' : cs'[k]? = some v := by rw [← he]; exact hv
      have hk : k < 3 := by rw [← hlen]; exact (List.getElem?_eq_some_iff.1 hv').1
      rw [← Go.Deep.add_add, hcell k hk]
      exact hv'
    obtain ⟨F, hF⟩ := choose_below (⟨0, ⟨#[]⟩, 0⟩ : En) each
    exact ⟨F, rws_of (by omega) (by decide) (fun j hj => rfl) (fun j hj => open_ens_one _) (fun j hj i v hv => (hF j hj).1 i v hv), fun j hj => (hF j hj).2⟩
theorem open_sts {fuel : Nat} {A : Option Addr} {len cap : Nat} {x : DataW H × List MemPlace} (h : DataW.trod en Tryd.prog w base spare held fuel 50 [.slice A len cap] = some x) : ∃ F : Nat → Sp, Sts w A len cap F := by
  rcases Go.Deep.open_slice Tryd.underlying50 h with ⟨hcs, _⟩ | ⟨a, l, c, m, n, D, Pl, hcs, hb, hl, hm, hmm, hx, hi⟩
  · simp at hcs
    obtain ⟨rfl, rfl, rfl⟩ := hcs
    exact ⟨fun _ => ⟨0, false⟩, Rws.zero _ _ _ _ _ (fun _ => rfl), fun j hj => absurd hj (Nat.not_lt_zero _)⟩
  · simp at hcs
    obtain ⟨rfl, rfl, rfl⟩ := hcs
    have hlm : len ≤ m := by rw [hmm]; split <;> omega
    have each : ∀ i, i < len → ∃ e : Sp, (∀ k v, (enc2 e)[k]? = some v → w.cell? (a.add (i * 2 + k)) = some v) ∧ True := by
      intro i hil
      obtain ⟨cs', h1, h2⟩ := hi i (by omega)
      rw [cells52] at h1
      obtain ⟨_, hlen, hcell⟩ := World.cells?_some h1
      obtain ⟨e, he, hf⟩ := sp_open hlen h2
      refine ⟨e, fun k v hv => ?_, hf⟩
      have hv' : cs'[k]? = some v := by rw [← he]; exact hv
      have hk : k < 2 := by rw [← hlen]; exact (List.getElem?_eq_some_iff.1 hv').1
      rw [← Go.Deep.add_add, hcell k hk]
      exact hv'
    obtain ⟨F, hF⟩ := choose_below (⟨0, false⟩ : Sp) each
    exact ⟨F, rws_of (by omega) (by decide) (fun j hj => rfl) (fun j hj => open_sts_one _) (fun j hj i v hv => (hF j hj).1 i v hv), fun j hj => (hF j hj).2⟩
end
end Go.Proofs.YtnhjbknhbeicfaaDoor

namespace Go.Proofs.YtnhjbknhbeicfaaDoor.membersInStates
open Go.ChangeShapes Go.WideShapes Go.ChangeAt Go.RowKit
open Go.ChangeMaps (open_string shut_string)
set_option linter.unusedVariables false

theorem own : ownKnob Tryd.prog.godebug = none := by kernel_rfl
theorem laidOut : laidOutB Tryd.prog = true := by kernel_rfl


set_option maxHeartbeats 1600000 in
theorem walk (a0 : Option Addr) (len0 cap0 : Nat) (E0 : Nat → Evd) (a1 : Option Addr) (len1 cap1 : Nat) (N1 : Nat → En) (a2 : ByteArray) (w : World) (H0 : Evx w a0 len0 E0) (H1 : Ens w a1 len1 cap1 N1) (w2 : a2.size ≤ maxLen) (hM : Mv w) :
    Calls Tryd.prog 6 #[.slice a0 len0 cap0, .slice a1 len1 cap1, .string a2] w fun e w' => e = .returned (.bool true) ∧ Below w.heap.size w w' := by
  have CG := Lib.hid (great13 a0 len0 cap0 20 E0 w H0)
  have HE := Lib.hid H0
  have HN := Lib.hid H1
  have HM := Lib.hid hM
  have hbig := H1.rws.big
  clear H0 H1 hM
  by_cases g1 : 40 < len1
  · have g2 : (40 : Int) < (len1 : Int) := by omega
    go_enter Tryd.func6, Tryd.ntmps6
    go_wp2_with (go_at_call 9; (with_reducible refine CG.out.mono ?_); rintro e w1 ⟨⟨q, rfl, hq⟩, hb1⟩; have HQ := Lib.hid hq; have B1 := Lib.hid hb1; clear hq hb1; cases q)
    all_goals
      go_wp2
      go_ret
      exact ⟨rfl, B1.out⟩
  have g2 : ¬ (40 : Int) < (len1 : Int) := by omega
  have hl1 : len1 ≤ 10000 := by omega
  go_enter Tryd.func6, Tryd.ntmps6
  go_wp2_with (go_at_call 9; (with_reducible refine CG.out.mono ?_); rintro e w1 ⟨⟨q, rfl, hq⟩, hb1⟩; have HQ := Lib.hid hq; have B1 := Lib.hid hb1; clear hq hb1; cases q)
  rotate_left
  · go_ret
    exact ⟨rfl, B1.out⟩
  have hq := HQ.out (by trivial)
  have hlen : len0 ≤ 10000 := by have := hq.1; omega
  have HF := Lib.hid hq.2
  have C1 := Lib.hid (instate20 a0 a1 len0 cap0 len1 cap1 E0 N1 a2 w1 (HE.out.below B1.out) (HN.out.below B1.out) HF.out hl1 hlen)
  have C2 := Lib.hid (fun W (hb : Below w.heap.size w W) => instate21 a0 a1 len0 cap0 len1 cap1 E0 N1 a2 W (HE.out.below hb) (HN.out.below hb) hl1)
  have CL := Lib.hid (fun W (hb : Below w.heap.size w W) => live_any W (HM.out.below hb))
  clear HQ hq hlen CG HF
  generalize inS E0 len0 (idl N1 len1) a2 = m at *
  have e0 : (m == m) = true := beq_self_eq_true m
  go_wp2_with (first
    | (go_at_call 20; (with_reducible refine C1.out.mono ?_); rintro e w2 ⟨rfl, hb2⟩; have B2 := Lib.hid (B1.out.trans (hb2.mono B1.out.size)); clear hb2)
    | (go_at_call 21; (with_reducible refine (C2.out _ B2.out).mono ?_); rintro e w3 ⟨rfl, hb3⟩; have B3 := Lib.hid (B2.out.trans (hb3.mono B2.out.size)); clear hb3)
    | (go_at_call 15; (with_reducible refine (CL.out _ B3.out).mono ?_); rintro e w5 ⟨rfl, hb5⟩; have B5 := Lib.hid (B3.out.trans (hb5.mono B3.out.size)); clear hb5))
  go_ret
  exact ⟨rfl, B5.out⟩

set_option maxRecDepth 100000 in
theorem lifted (os : Os) (started : os.Started) (H : Type) (enc : TypeId × Value → H) :
    ReturnsInHanded {} Tryd.checked os 6 .any (fun w args => (Rows.membersInStatesSpec.pre enc Tryd.prog Tryd.f6 [] false w args ∧ laidMetH Tryd.prog laid2 w) ∧ sizedMet enc Tryd.prog Tryd.f6 (OpenSpec.ofChange Rows.membersInStatesSpec) false w args)
      (Rows.membersInStatesSpec.post enc Tryd.prog Tryd.f6 false true false false) := by
  refine returnsInHanded_of_change_and (C := Tryd.checked) (X := fun w _ => laidMetH Tryd.prog laid2 w) (fun _ _ _ hh h => h.of_heap hh) own started (by kernel_rfl) Tryd.func6
    (ChangeSpec.witness_shaped (enc := enc) (C := Tryd.checked) (os := os) (X := fun w _ => laidMetH Tryd.prog laid2 w) false (World.doorLaid Tryd.prog 29 os) #[.slice none 0 0, .slice none 0 0, .string ByteArray.empty] 8 rfl (World.shaped_of_RefB (by kernel_rfl) (by kernel_rfl)) (by kernel_rfl) (by kernel_rfl) (by kernel_rfl) (door_met os _)) ?_
  intro W base args ds gs before hval0 hW _ hsz hLd _
  have hval : ∀ (j : Nat) t v, Tryd.f6.params[j]? = some t → args[j]? = some v → Value.okWide Tryd.prog W .any base t v := hval0
  have hW' := hW
  obtain ⟨p, q, hA0, hV, rfl, hfz, hnd⟩ := hW
  have hA : DataW.TrodAll enc Tryd.prog W 0 (fun _ => true) true Tryd.f6.params.toList args.toList ds p := hA0
  rw [Tryd.params6] at hA hval
  obtain ⟨v0, vs0, d0, ds0, p0, q0, hargs, rfl, rfl, h0, r0⟩ := trodAll_cons hA
  obtain ⟨v1, vs1, d1, ds1, p1, q1, rfl, rfl, rfl, h1, r1⟩ := trodAll_cons r0
  obtain ⟨v2, vs2, d2, ds2, p2, q2, rfl, rfl, rfl, h2, r2⟩ := trodAll_cons r1
  obtain ⟨rfl, rfl, rfl⟩ := trodAll_nil r2
  obtain rfl : args = #[v0, v1, v2] := by cases args; simp_all
  obtain ⟨rfl, rfl⟩ := trodVars_none hV
  have k0 := h0
  have lt0 : ∀ x ∈ p0, x.block < W.heap.size := by obtain ⟨m, hm⟩ := k0; exact DataW.trod_lt m _ _ _ hm
  obtain ⟨a0, len0, cap0, rfl⟩ := okWide_slice Tryd.underlying22 (hval 0 22 v0 rfl rfl)
  obtain ⟨E0, H0⟩ : ∃ E : Nat → Evd, Evx W a0 len0 E := by
    obtain ⟨fuel, hf⟩ := h0
    exact open_evx (cap := cap0) (by simpa [Value.cells] using hf)
  have k1 := h1
  have lt1 : ∀ x ∈ p1, x.block < W.heap.size := by obtain ⟨m, hm⟩ := k1; exact DataW.trod_lt m _ _ _ hm
  obtain ⟨a1, len1, cap1, rfl⟩ := okWide_slice Tryd.underlying34 (hval 1 34 v1 rfl rfl)
  obtain ⟨N1, H1⟩ : ∃ E : Nat → En, Ens W a1 len1 cap1 E := by
    obtain ⟨fuel, hf⟩ := h1
    exact open_ens (by simpa [Value.cells] using hf)
  obtain ⟨a2, rfl, rfl, rfl, w2⟩ := open_string Tryd.underlying9 (hval 2 9 v2 rfl rfl) h2
  clear hA0 hval0
  refine (walk a0 len0 cap0 E0 a1 len1 cap1 N1 a2 W H0 H1 w2 (of_laid hLd)).mono fun e W' ⟨he, bel⟩ => ?_
  subst he
  exact ⟨_, rfl, _, _, _, [], _, [], hW', trodAll_mk1 (shut_bool Tryd.underlying4 _), (trodAll_cons_mk (Below.trod laidOut (by kernel_rfl) (of_decide_eq_true (by kernel_rfl)) k0 bel lt0) (trodAll_cons_mk (Below.trod laidOut (by kernel_rfl) (of_decide_eq_true (by kernel_rfl)) k1 bel lt1) (trodAll_cons_mk (shut_string Tryd.underlying9 w2) trodAll_mk0))), rfl, bel.frame _, fun h => by cases h⟩

theorem over : Rows.membersInStatesRow.holds Tryd.pinned (OpenSpec.ofChange Rows.membersInStatesSpec) :=
  OpenClaim.holds_of_wide 6 Tryd.f6 rfl rfl rfl rfl rfl rfl rfl ⟨rfl, rfl, rfl, rfl, rfl⟩ rfl rfl rfl rfl rfl (by kernel_rfl) Tryd.func6 (by kernel_rfl)
    (of_decide_eq_true (by kernel_rfl)) (by unfold Func.isWrapper; first | (rw [if_pos (by decide +kernel)]; kernel_rfl) | (rw [if_neg (by decide +kernel)]; exact ⟨rfl, rfl⟩))
    (fun os started H enc _ => lifted os started H enc)

theorem proved : Rows.MembersInStatesCardSaid :=
  Claim7.holds_tied_plain_at .later [] [.data, .data] true (true, "93aa241184d1c29669533034c2911dd28aebf1d6a05ff6cbedcd2a5c50ea88cb") false
    over (fun _ h => by cases h) (by kernel_rfl) (fun _ h => by cases h) membersInStates_row_tie rfl ⟨rfl, rfl⟩ (by kernel_rfl) rfl
    (fun f fn hf hfn => by
      obtain rfl : f = 6 := Option.some.inj ((show Tryd.prog.funcNamed "fedchat/fedchatlaw12.MembersInStates" = some 6 by kernel_rfl).symm.trans hf) |>.symm
      obtain rfl : fn = Tryd.f6 := (Option.some.inj (Tryd.func6.symm.trans hfn)).symm
      exact ⟨by kernel_rfl, fun j t ht => by
        rw [Tryd.params6] at ht
        have hm : t ∈ [22, 34, 9] := by simpa using Array.mem_of_getElem? ht
        have hall : ([22, 34, 9].all fun u => !Tryd.prog.wantsStandIn u) = true := by kernel_rfl
        exact (show Tryd.prog.wantsStandIn t = false by simpa using List.all_eq_true.1 hall t hm)⟩)
    (by kernel_rfl)
#print axioms proved
end Go.Proofs.YtnhjbknhbeicfaaDoor.membersInStates
