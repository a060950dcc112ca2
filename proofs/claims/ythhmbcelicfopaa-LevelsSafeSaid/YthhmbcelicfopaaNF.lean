/- The walk of LevelsSafe. -/
import Derived.Test.YthhmbcelicfopaaN13
namespace Go.Proofs.Ythhmbcelicfopaa
open Go.RowKit
set_option linter.unusedVariables false
def Named (n m : Nat) (U V : Nat → ByteArray × Int) (o : ByteArray) : Prop := (∃ j, j < n ∧ isU U o j = true) ∨ (∃ j, j < m ∧ isU V o j = true)
theorem bytes_of {a b : ByteArray} (h : (a.toList == b.toList) = true) : a = b := by
  have := eq_of_beq h
  rw [ByteArray.toList_eq, ByteArray.toList_eq] at this
  obtain ⟨⟨x⟩⟩ := a
  obtain ⟨⟨y⟩⟩ := b
  simp at this
  rw [this]
theorem Named.good {n m : Nat} {U V : Nat → ByteArray × Int} {o user : ByteArray} {us vs : ByteArray → Int} (h : Named n m U V o) (k : UsersOK n m U V us vs user) : goodU us vs user o = true := by
  rcases h with ⟨j, hj, e⟩ | ⟨j, hj, e⟩
  · have := k.1 j hj
    rw [bytes_of e] at this
    exact this
  · have := k.2 j hj
    rw [bytes_of e] at this
    exact this
theorem ch_refl (n nK : Nat) (U : Nat → ByteArray × Int) (K : Nat → Int × Int) (us : ByteArray → Int) (nd : Int → Int) (f : Nat → Int) (user : ByteArray) : true = true ↔ ChOK n n nK nK U U K K us us nd nd f f user := by
  have hm : ∀ x y : Int, mayN x x y = true := fun x y => by unfold mayN; simp
  have hg : ∀ x : ByteArray, goodU us us user x = true := fun x => by unfold goodU mayU; rw [hm]; simp
  exact ⟨fun _ => ⟨fun j _ => hm _ _, fun k _ => hm _ _, fun j _ => hg _, fun j _ => hg _⟩, fun _ => rfl⟩
theorem three_boxes (w : World) (c1 c2 c3 : List Value) (T : TypeId) : Blk (((w.alloc (.cells c1.toArray 25)).alloc (.cells c2.toArray 25)).alloc (.cells c3.toArray T)) w.heap.size c1 25 ∧ Blk (((w.alloc (.cells c1.toArray 25)).alloc (.cells c2.toArray 25)).alloc (.cells c3.toArray T)) (w.heap.size + 1) c2 25 ∧
    Blk (((w.alloc (.cells c1.toArray 25)).alloc (.cells c2.toArray 25)).alloc (.cells c3.toArray T)) (w.heap.size + 1 + 1) c3 T ∧ Below w.heap.size w (((w.alloc (.cells c1.toArray 25)).alloc (.cells c2.toArray 25)).alloc (.cells c3.toArray T)) := by
  refine ⟨(two_boxes w c1 c2).1.alloc _, (two_boxes w c1 c2).2.1.alloc _, blk_at _ _ _ _ (by simp), (two_boxes w c1 c2).2.2.alloc (by simp; omega) _⟩
def IfN (b : Bool) (p : Prop) : Prop := b = true → p
theorem good_no {same : Bool} {was is own : Int} (h : mayU same was is own = true) : (decide (own < is) && (is != was) || !same && decide (own ≤ was) && (is != was)) = false := by
  unfold mayU mayN at h
  by_cases e : is = was
  · subst e; simp
  · have e' : ¬ was = is := fun h => e h.symm
    cases same <;> simp [e, e'] at h ⊢ <;> omega
theorem yes_iff {p : Prop} (h : p) : true = true ↔ p := ⟨fun _ => h, fun _ => rfl⟩
abbrev W3s (w : World) (c1 c2 : List Value) (a o : ByteArray) : World := ((w.alloc (.cells c1.toArray 25)).alloc (.cells c2.toArray 25)).alloc (.cells #[.string a, .string o] 49)
set_option maxHeartbeats 32000000 in
theorem safe_walk (uA : Option Addr) (n uC : Nat) (kA : Option Addr) (nK kC : Nat) (d x3 x4 x5 x6 x7 x8 : Int) (vA : Option Addr) (m vC : Nat) (lA : Option Addr) (mK lC : Nat) (e y3 y4 y5 y6 y7 y8 : Int) (U V : Nat → ByteArray × Int) (K M : Nat → Int × Int) (a o : ByteArray) (w : World) (hU : Rws w uA n uC 2 (rowU U)) (hK : Rws w kA nK kC 2 (rowK K)) (hV : Rws w vA m vC 2 (rowU V)) (hM : Rws w lA mK lC 2 (rowK M)) :
    Calls Try.prog 7 #[.agg (lvc uA n uC kA nK kC d x3 x4 x5 x6 x7 x8).toArray, .agg (lvc vA m vC lA mK lC e y3 y4 y5 y6 y7 y8).toArray, .agg #[.string a, .string o]] w fun e' w' => e' = .returned (.bool true) ∧ Below w.heap.size w w' := by
  have HX := Lib.hid (three_boxes w (lvc uA n uC kA nK kC d x3 x4 x5 x6 x7 x8) (lvc vA m vC lA mK lC e y3 y4 y5 y6 y7 y8) [.string a, .string o] 49)
  have HU := Lib.hid (hU.below HX.out.2.2.2)
  have HV := Lib.hid (hV.below HX.out.2.2.2)
  have HK := Lib.hid (hK.below HX.out.2.2.2)
  have HM := Lib.hid (hM.below HX.out.2.2.2)
  have hbu := hU.big
  have hbv := hV.big
  unfold maxLen at hbu hbv
  obtain ⟨us, hus⟩ := users_fun U n d
  obtain ⟨vs, hvs⟩ := users_fun V m e
  obtain ⟨nd, hnd⟩ := needs_fun K nK x3 x4
  obtain ⟨ne, hne⟩ := needs_fun M mK y3 y4
  obtain ⟨b, hb⟩ := bool_of (ChOK n m nK mK U V K M us vs nd ne (numF d x3 x4 x5 x6 x7 x8) (numF e y3 y4 y5 y6 y7 y8) a)
  have HO := Lib.hid hus
  have HP := Lib.hid hvs
  have HND := Lib.hid hnd
  have HNE := Lib.hid hne
  have Hb := Lib.hid hb
  have HG1 := Lib.hid (fun w => great9 uA n uC kA nK kC d x3 x4 x5 x6 x7 x8 w)
  have HG2 := Lib.hid (fun w => great9 vA m vC lA mK lC e y3 y4 y5 y6 y7 y8 w)
  have tk1 : True := trivial
  have tk2 : True := trivial
  clear hU hK hV hM hus hvs hnd hne hb
  have i0 := HX.out.2.2.1.cell (i := 0) rfl
  have i1 := HX.out.2.2.1.cell (i := 1) rfl
  show Calls Try.prog 7 #[.agg #[.slice uA n uC, .slice kA nK kC, .int .i64 d, .int .i64 x3, .int .i64 x4, .int .i64 x5, .int .i64 x6, .int .i64 x7, .int .i64 x8], .agg #[.slice vA m vC, .slice lA mK lC, .int .i64 e, .int .i64 y3, .int .i64 y4, .int .i64 y5, .int .i64 y6, .int .i64 y7, .int .i64 y8], .agg #[.string a, .string o]] w _
  go_enter Try.func7, Try.ntmps7
  go_upto_region 1 with (fail)
  go_cut [7, 8] from 15 to 18 (fun s7 s8 wx => s7 = .string a ∧ s8 = .string o ∧ Below (W3s w (lvc uA n uC kA nK kC d x3 x4 x5 x6 x7 x8) (lvc vA m vC lA mK lC e y3 y4 y5 y6 y7 y8) a o).heap.size (W3s w (lvc uA n uC kA nK kC d x3 x4 x5 x6 x7 x8) (lvc vA m vC lA mK lC e y3 y4 y5 y6 y7 y8) a o) wx)
  case first =>
    go_quiet (fail)
    go_wp2
    go_meet
    exact ⟨rfl, rfl, below_drewN (Below.refl _ _) _⟩
  case rest =>
    clear i0 i1
    obtain ⟨rfl, rfl, hcw⟩ := hcut
    have HT1 := Lib.hid (HX.out.1.below hcw)
    have HT2 := Lib.hid (HX.out.2.1.below hcw)
    have HU2 := Lib.hid (HU.out.below hcw)
    have HV2 := Lib.hid (HV.out.below hcw)
    have HK2 := Lib.hid (HK.out.below hcw)
    have HM2 := Lib.hid (HM.out.below hcw)
    have HW2 := Lib.hid (HX.out.2.2.2.trans (hcw.mono HX.out.2.2.2.size))
    have HSz := Lib.hid HW2.out.size
    clear HX HU HV HK HM hcw
    generalize hb3 : w.heap.size + 1 + 1 = b3 at ⊢
    generalize hb2 : w.heap.size + 1 = b2 at HT2 ⊢
    generalize hb1 : w.heap.size = b1 at HT1 ⊢
    clear hb1 hb2 hb3
    have T1 := HT1.out
    have k0 := T1.cell (i := 0) rfl
    have k1 := T1.cell (i := 1) rfl
    have k2 := T1.cell (i := 2) rfl
    have k3 := T1.cell (i := 3) rfl
    have k4 := T1.cell (i := 4) rfl
    have k5 := T1.cell (i := 5) rfl
    have k6 := T1.cell (i := 6) rfl
    have k7 := T1.cell (i := 7) rfl
    have k8 := T1.cell (i := 8) rfl
    clear T1
    cases g1 : isGreat n nK with
    | true =>
      rw [g1] at HG1
      go_wp2_with (first
      | (go_at_call 9; with_reducible refine (HG1.out _).mono ?_; rintro e0 w4 ⟨rfl, hb0⟩; have HB0 := Lib.hid hb0; clear hb0; have T2 := HT2.out.below HB0.out; have q0 := T2.cell (i := 0) rfl; have q1 := T2.cell (i := 1) rfl; have q2 := T2.cell (i := 2) rfl; have q3 := T2.cell (i := 3) rfl; have q4 := T2.cell (i := 4) rfl; have q5 := T2.cell (i := 5) rfl; have q6 := T2.cell (i := 6) rfl; have q7 := T2.cell (i := 7) rfl; have q8 := T2.cell (i := 8) rfl; clear T2)
      | (go_at_call 9; with_reducible refine (HG2.out _).mono ?_; rintro e0 w4 ⟨rfl, hb0⟩; have HB1 := Lib.hid (HB0.out.trans (hb0.mono HB0.out.size)); clear hb0 HB0; have HB0 := HB1; clear HB1; clear q0 q1 q2 q3 q4 q5 q6 q7 q8)
      | (go_at_call 10; refine (awake10 _).mono ?_; rintro e0 w5 ⟨rfl, hb0⟩; have HB2 := Lib.hid (HB0.out.trans (hb0.mono HB0.out.size)); clear hb0))
      go_ret
      exact ⟨rfl, HW2.out.trans (HB2.out.mono HSz.out)⟩
    | false =>
      rw [g1] at HG1
      cases g2 : isGreat m mK with
      | true =>
        rw [g2] at HG2
        go_wp2_with (first
      | (go_at_call 9; with_reducible refine (HG1.out _).mono ?_; rintro e0 w4 ⟨rfl, hb0⟩; have HB0 := Lib.hid hb0; clear hb0; have T2 := HT2.out.below HB0.out; have q0 := T2.cell (i := 0) rfl; have q1 := T2.cell (i := 1) rfl; have q2 := T2.cell (i := 2) rfl; have q3 := T2.cell (i := 3) rfl; have q4 := T2.cell (i := 4) rfl; have q5 := T2.cell (i := 5) rfl; have q6 := T2.cell (i := 6) rfl; have q7 := T2.cell (i := 7) rfl; have q8 := T2.cell (i := 8) rfl; clear T2)
      | (go_at_call 9; with_reducible refine (HG2.out _).mono ?_; rintro e0 w4 ⟨rfl, hb0⟩; have HB1 := Lib.hid (HB0.out.trans (hb0.mono HB0.out.size)); clear hb0 HB0; have HB0 := HB1; clear HB1; clear q0 q1 q2 q3 q4 q5 q6 q7 q8)
      | (go_at_call 10; refine (awake10 _).mono ?_; rintro e0 w5 ⟨rfl, hb0⟩; have HB2 := Lib.hid (HB0.out.trans (hb0.mono HB0.out.size)); clear hb0))
        go_ret
        exact ⟨rfl, HW2.out.trans (HB2.out.mono HSz.out)⟩
      | false =>
        rw [g2] at HG2
        cases b with
        | false =>
          have er : errOf false = 20 := rfl
          have et : errOf true = 0 := rfl
          go_wp2_with (first
      | (go_at_call 9; with_reducible refine (HG1.out _).mono ?_; rintro e0 w4 ⟨rfl, hb0⟩; have HB0 := Lib.hid hb0; clear hb0; have T2 := HT2.out.below HB0.out; have q0 := T2.cell (i := 0) rfl; have q1 := T2.cell (i := 1) rfl; have q2 := T2.cell (i := 2) rfl; have q3 := T2.cell (i := 3) rfl; have q4 := T2.cell (i := 4) rfl; have q5 := T2.cell (i := 5) rfl; have q6 := T2.cell (i := 6) rfl; have q7 := T2.cell (i := 7) rfl; have q8 := T2.cell (i := 8) rfl; clear T2)
      | (go_at_call 9; with_reducible refine (HG2.out _).mono ?_; rintro e0 w4 ⟨rfl, hb0⟩; have HB1 := Lib.hid (HB0.out.trans (hb0.mono HB0.out.size)); clear hb0 HB0; have HB0 := HB1; clear HB1; clear q0 q1 q2 q3 q4 q5 q6 q7 q8; have T1 := HT1.out.below HB0.out; have k0 := T1.cell (i := 0) rfl; have k1 := T1.cell (i := 1) rfl; have k2 := T1.cell (i := 2) rfl; have k3 := T1.cell (i := 3) rfl; have k4 := T1.cell (i := 4) rfl; have k5 := T1.cell (i := 5) rfl; have k6 := T1.cell (i := 6) rfl; have k7 := T1.cell (i := 7) rfl; have k8 := T1.cell (i := 8) rfl; clear T1)
      | (go_at_call 10; refine (awake10 _).mono ?_; rintro e0 w5 ⟨rfl, hb0⟩; have HB2 := Lib.hid (HB0.out.trans (hb0.mono HB0.out.size)); clear hb0)
      | (go_at_call 20; have _t := tk1; with_reducible refine (change20_is uA n uC kA nK kC d x3 x4 x5 x6 x7 x8 uA n uC kA nK kC d x3 x4 x5 x6 x7 x8 U U K K us us nd nd a true _ (HU2.out.below HB0.out) (HK2.out.below HB0.out) (HU2.out.below HB0.out) (HK2.out.below HB0.out) HO.out HO.out HND.out HND.out (small_kinds g1 g1) (ch_refl _ _ _ _ _ _ _ _)).mono ?_; rintro e0 w5 ⟨rfl, hb0⟩; have HB1 := Lib.hid (HB0.out.trans (hb0.mono HB0.out.size)); clear hb0 HB0; have HB0 := HB1; clear HB1 tk1; clear k0 k1 k2 k3 k4 k5 k6 k7 k8; have T1 := HT1.out.below HB0.out; have k0 := T1.cell (i := 0) rfl; have k1 := T1.cell (i := 1) rfl; have k2 := T1.cell (i := 2) rfl; have k3 := T1.cell (i := 3) rfl; have k4 := T1.cell (i := 4) rfl; have k5 := T1.cell (i := 5) rfl; have k6 := T1.cell (i := 6) rfl; have k7 := T1.cell (i := 7) rfl; have k8 := T1.cell (i := 8) rfl; clear T1; have T2 := HT2.out.below HB0.out; have q0 := T2.cell (i := 0) rfl; have q1 := T2.cell (i := 1) rfl; have q2 := T2.cell (i := 2) rfl; have q3 := T2.cell (i := 3) rfl; have q4 := T2.cell (i := 4) rfl; have q5 := T2.cell (i := 5) rfl; have q6 := T2.cell (i := 6) rfl; have q7 := T2.cell (i := 7) rfl; have q8 := T2.cell (i := 8) rfl; clear T2)
      | (go_at_call 20; have _t := tk2; with_reducible refine (change20_is uA n uC kA nK kC d x3 x4 x5 x6 x7 x8 vA m vC lA mK lC e y3 y4 y5 y6 y7 y8 U V K M us vs nd ne a _ _ (HU2.out.below HB0.out) (HK2.out.below HB0.out) (HV2.out.below HB0.out) (HM2.out.below HB0.out) HO.out HP.out HND.out HNE.out (small_kinds g1 g2) Hb.out).mono ?_; rintro e0 w5 ⟨rfl, hb0⟩; have HB1 := Lib.hid (HB0.out.trans (hb0.mono HB0.out.size)); clear hb0 HB0; have HB0 := HB1; clear HB1 tk2; clear k0 k1 k2 k3 k4 k5 k6 k7 k8 q0 q1 q2 q3 q4 q5 q6 q7 q8))
          go_ret
          exact ⟨rfl, HW2.out.trans (HB2.out.mono HSz.out)⟩
        | true =>
          have Hok := Lib.hid (Hb.out.1 rfl)
          have er : errOf true = 0 := rfl
          go_upto_region 9 with (first
      | (go_at_call 9; with_reducible refine (HG1.out _).mono ?_; rintro e0 w4 ⟨rfl, hb0⟩; have HB0 := Lib.hid hb0; clear hb0; have T2 := HT2.out.below HB0.out; have q0 := T2.cell (i := 0) rfl; have q1 := T2.cell (i := 1) rfl; have q2 := T2.cell (i := 2) rfl; have q3 := T2.cell (i := 3) rfl; have q4 := T2.cell (i := 4) rfl; have q5 := T2.cell (i := 5) rfl; have q6 := T2.cell (i := 6) rfl; have q7 := T2.cell (i := 7) rfl; have q8 := T2.cell (i := 8) rfl; clear T2)
      | (go_at_call 9; with_reducible refine (HG2.out _).mono ?_; rintro e0 w4 ⟨rfl, hb0⟩; have HB1 := Lib.hid (HB0.out.trans (hb0.mono HB0.out.size)); clear hb0 HB0; have HB0 := HB1; clear HB1; clear q0 q1 q2 q3 q4 q5 q6 q7 q8; have T1 := HT1.out.below HB0.out; have k0 := T1.cell (i := 0) rfl; have k1 := T1.cell (i := 1) rfl; have k2 := T1.cell (i := 2) rfl; have k3 := T1.cell (i := 3) rfl; have k4 := T1.cell (i := 4) rfl; have k5 := T1.cell (i := 5) rfl; have k6 := T1.cell (i := 6) rfl; have k7 := T1.cell (i := 7) rfl; have k8 := T1.cell (i := 8) rfl; clear T1)
      | (go_at_call 10; refine (awake10 _).mono ?_; rintro e0 w5 ⟨rfl, hb0⟩; have HB2 := Lib.hid (HB0.out.trans (hb0.mono HB0.out.size)); clear hb0)
      | (go_at_call 20; have _t := tk1; with_reducible refine (change20_is uA n uC kA nK kC d x3 x4 x5 x6 x7 x8 uA n uC kA nK kC d x3 x4 x5 x6 x7 x8 U U K K us us nd nd a true _ (HU2.out.below HB0.out) (HK2.out.below HB0.out) (HU2.out.below HB0.out) (HK2.out.below HB0.out) HO.out HO.out HND.out HND.out (small_kinds g1 g1) (ch_refl _ _ _ _ _ _ _ _)).mono ?_; rintro e0 w5 ⟨rfl, hb0⟩; have HB1 := Lib.hid (HB0.out.trans (hb0.mono HB0.out.size)); clear hb0 HB0; have HB0 := HB1; clear HB1 tk1; clear k0 k1 k2 k3 k4 k5 k6 k7 k8; have T1 := HT1.out.below HB0.out; have k0 := T1.cell (i := 0) rfl; have k1 := T1.cell (i := 1) rfl; have k2 := T1.cell (i := 2) rfl; have k3 := T1.cell (i := 3) rfl; have k4 := T1.cell (i := 4) rfl; have k5 := T1.cell (i := 5) rfl; have k6 := T1.cell (i := 6) rfl; have k7 := T1.cell (i := 7) rfl; have k8 := T1.cell (i := 8) rfl; clear T1; have T2 := HT2.out.below HB0.out; have q0 := T2.cell (i := 0) rfl; have q1 := T2.cell (i := 1) rfl; have q2 := T2.cell (i := 2) rfl; have q3 := T2.cell (i := 3) rfl; have q4 := T2.cell (i := 4) rfl; have q5 := T2.cell (i := 5) rfl; have q6 := T2.cell (i := 6) rfl; have q7 := T2.cell (i := 7) rfl; have q8 := T2.cell (i := 8) rfl; clear T2)
      | (go_at_call 20; have _t := tk2; with_reducible refine (change20_is uA n uC kA nK kC d x3 x4 x5 x6 x7 x8 vA m vC lA mK lC e y3 y4 y5 y6 y7 y8 U V K M us vs nd ne a _ _ (HU2.out.below HB0.out) (HK2.out.below HB0.out) (HV2.out.below HB0.out) (HM2.out.below HB0.out) HO.out HP.out HND.out HNE.out (small_kinds g1 g2) (yes_iff Hok.out)).mono ?_; rintro e0 w5 ⟨rfl, hb0⟩; have HB1 := Lib.hid (HB0.out.trans (hb0.mono HB0.out.size)); clear hb0 HB0; have HB0 := HB1; clear HB1 tk2; clear k0 k1 k2 k3 k4 k5 k6 k7 k8 q0 q1 q2 q3 q4 q5 q6 q7 q8))
          have HU6 := Lib.hid (HU2.out.below HB0.out)
          have HV6 := Lib.hid (HV2.out.below HB0.out)
          have T1 := HT1.out.below HB0.out
          have T2 := HT2.out.below HB0.out
          have HTa := Lib.hid T1
          have HTb := Lib.hid T2
          have k0 := T1.cell (i := 0) rfl
          have q0 := T2.cell (i := 0) rfl
          have HW6 := Lib.hid (HW2.out.trans (HB0.out.mono HSz.out))
          have HSz6 := Lib.hid HW6.out.size
          clear T1 T2 HT1 HT2 HU2 HV2 HK2 HM2 HB0 HSz HW2 er
          have HT1 := HTa
          have HT2 := HTb
          clear HTa HTb
          go_wp2
          go_loopg [9, 10] n (fun gg s9 s10 wr => ∃ (kk : Nat) (nm : Bool), kk ≤ n ∧ n - kk ≤ gg ∧ s10 = .int .i64 kk ∧ s9 = .bool nm ∧ w5 = wr ∧ Hid (IfN nm (Named n m U V o)))
          case atStart => exact ⟨0, _, Nat.zero_le _, by omega, rfl, rfl, rfl, Lib.hid (fun e => by cases e)⟩
          case round =>
            obtain ⟨kk, nm, hkk, hg, rfl, rfl, rfl, NM⟩ := hrel
            by_cases hlt : kk < n
            · have hltz : (kk : Int) < (n : Int) := by omega
              obtain ⟨gk, ok, rfl, cy, cn⟩ := HU6.out.user hlt
              cases nm with
              | true =>
                go_wp2
                go_roundg (n - (kk + 1))
                case measure => omega
                case rel => exact ⟨kk + 1, true, by omega, by omega, by go_num, rfl, rfl, NM⟩
              | false =>
                have HG := Lib.hid (show isU U o kk = ((U kk).1.toList == o.toList) from rfl)
                generalize (U kk).1 = ky at cy HG
                cases q : (ky.toList == o.toList) with
                | true =>
                  have HNm := Lib.hid (show Named n m U V o from .inl ⟨kk, hlt, by rw [HG.out, q]⟩)
                  go_wp2
                  go_roundg (n - (kk + 1))
                  case measure => omega
                  case rel => exact ⟨kk + 1, true, by omega, by omega, by go_num, rfl, rfl, Lib.hid (fun _ => HNm.out)⟩
                | false =>
                  go_wp2
                  go_roundg (n - (kk + 1))
                  case measure => omega
                  case rel => exact ⟨kk + 1, false, by omega, by omega, by go_num, rfl, rfl, Lib.hid (fun e => by cases e)⟩
            · have hltz : ¬ (kk : Int) < (n : Int) := by omega
              obtain rfl : n = kk := by omega

              go_wp2
              go_loopg [9, 11] m (fun gg s9 s11 wr => ∃ (kk : Nat) (nm : Bool), kk ≤ m ∧ m - kk ≤ gg ∧ s11 = .int .i64 kk ∧ s9 = .bool nm ∧ w5 = wr ∧ Hid (IfN nm (Named n m U V o)))
              case atStart => exact ⟨0, _, Nat.zero_le _, by omega, rfl, rfl, rfl, NM⟩
              case round =>
                obtain ⟨kk, nm, hkk, hg, rfl, rfl, rfl, NM⟩ := hrel
                by_cases hlt : kk < m
                · have hltz : (kk : Int) < (m : Int) := by omega
                  obtain ⟨gk, ok, rfl, cy, cn⟩ := HV6.out.user hlt
                  cases nm with
                  | true =>
                    go_wp2
                    go_roundg (m - (kk + 1))
                    case measure => omega
                    case rel => exact ⟨kk + 1, true, by omega, by omega, by go_num, rfl, rfl, NM⟩
                  | false =>
                    have HG := Lib.hid (show isU V o kk = ((V kk).1.toList == o.toList) from rfl)
                    generalize (V kk).1 = ky at cy HG
                    cases q : (ky.toList == o.toList) with
                    | true =>
                      have HNm := Lib.hid (show Named n m U V o from .inr ⟨kk, hlt, by rw [HG.out, q]⟩)
                      go_wp2
                      go_roundg (m - (kk + 1))
                      case measure => omega
                      case rel => exact ⟨kk + 1, true, by omega, by omega, by go_num, rfl, rfl, Lib.hid (fun _ => HNm.out)⟩
                    | false =>
                      go_wp2
                      go_roundg (m - (kk + 1))
                      case measure => omega
                      case rel => exact ⟨kk + 1, false, by omega, by omega, by go_num, rfl, rfl, Lib.hid (fun e => by cases e)⟩
                · have hltz : ¬ (kk : Int) < (m : Int) := by omega
                  obtain rfl : m = kk := by omega
                  go_wp2
                  clear k0 q0
                  refine wp_region_held_drew (S := (fun w' => Blk w' b1 (lvc uA n uC kA nK kC d x3 x4 x5 x6 x7 x8) 25 ∧ Blk w' b2 (lvc vA m vC lA mK lC e y3 y4 y5 y6 y7 y8) 25 ∧ Below w5.heap.size w5 w')) (by kernel_rfl) (by first | exact ⟨HT1.out.drew, HT2.out.drew, (Below.refl _ _).drew⟩ | exact ⟨hH0.1.below hb3, hH0.2.1.below hb3, hH0.2.2.trans (hb3.mono hH0.2.2.size)⟩ | exact hH0) (fun hH0 => ?_)
                  refine wpAnyH_take (i := 0) (oi := ({ dst := some 73, op := Op.load 25 (Operand.tmp 3), type := 25, pos := "law.go:79", after := #[], guard := none } : Oper)) (v := ?hv51) rfl (by kernel_rfl) (by kernel_rfl) (by kernel_rfl) (fun _ _ _ h => h) (Or.inl ⟨by rfl, ?hy51⟩) (by assumption) ?hr51
                  case hy51 => (intro w hSw; (try dsimp only at hSw); have k0 := hSw.1.cell (i := 0) rfl; have k1 := hSw.1.cell (i := 1) rfl; have k2 := hSw.1.cell (i := 2) rfl; have k3 := hSw.1.cell (i := 3) rfl; have k4 := hSw.1.cell (i := 4) rfl; have k5 := hSw.1.cell (i := 5) rfl; have k6 := hSw.1.cell (i := 6) rfl; have k7 := hSw.1.cell (i := 7) rfl; have k8 := hSw.1.cell (i := 8) rfl; clear hSw; go_simp; (try with_reducible rfl))
                  try simp only [Act.put, List.setIfInBounds_toArray, List.set_cons_zero, List.set_cons_succ]
                  refine wpAnyH_take (i := 1) (oi := ({ dst := some 74, op := Op.move (Operand.tmp 7), type := 9, pos := "law.go:79", after := #[], guard := none } : Oper)) (v := ?hv52) rfl (by kernel_rfl) (by kernel_rfl) (by kernel_rfl) (fun _ _ _ h => h) (Or.inl ⟨by rfl, ?hy52⟩) (by assumption) ?hr52
                  case hy52 => (intro w hSw; (try dsimp only at hSw); go_simp; (try with_reducible rfl))
                  try simp only [Act.put, List.setIfInBounds_toArray, List.set_cons_zero, List.set_cons_succ]
                  refine wpAnyH_take (i := 3) (oi := ({ dst := some 76, op := Op.load 25 (Operand.tmp 3), type := 25, pos := "law.go:79", after := #[], guard := none } : Oper)) (v := ?hv53) rfl (by kernel_rfl) (by kernel_rfl) (by kernel_rfl) (fun _ _ _ h => h) (Or.inl ⟨by rfl, ?hy53⟩) (by assumption) ?hr53
                  case hy53 => (intro w hSw; (try dsimp only at hSw); have k0 := hSw.1.cell (i := 0) rfl; have k1 := hSw.1.cell (i := 1) rfl; have k2 := hSw.1.cell (i := 2) rfl; have k3 := hSw.1.cell (i := 3) rfl; have k4 := hSw.1.cell (i := 4) rfl; have k5 := hSw.1.cell (i := 5) rfl; have k6 := hSw.1.cell (i := 6) rfl; have k7 := hSw.1.cell (i := 7) rfl; have k8 := hSw.1.cell (i := 8) rfl; clear hSw; go_simp; (try with_reducible rfl))
                  try simp only [Act.put, List.setIfInBounds_toArray, List.set_cons_zero, List.set_cons_succ]
                  refine wpAnyH_take (i := 4) (oi := ({ dst := some 77, op := Op.move (Operand.tmp 8), type := 9, pos := "law.go:79", after := #[], guard := none } : Oper)) (v := ?hv54) rfl (by kernel_rfl) (by kernel_rfl) (by kernel_rfl) (fun _ _ _ h => h) (Or.inl ⟨by rfl, ?hy54⟩) (by assumption) ?hr54
                  case hy54 => (intro w hSw; (try dsimp only at hSw); go_simp; (try with_reducible rfl))
                  try simp only [Act.put, List.setIfInBounds_toArray, List.set_cons_zero, List.set_cons_succ]
                  refine wpAnyH_take (i := 6) (oi := ({ dst := some 79, op := Op.load 25 (Operand.tmp 4), type := 25, pos := "law.go:79", after := #[], guard := none } : Oper)) (v := ?hv55) rfl (by kernel_rfl) (by kernel_rfl) (by kernel_rfl) (fun _ _ _ h => h) (Or.inl ⟨by rfl, ?hy55⟩) (by assumption) ?hr55
                  case hy55 => (intro w hSw; (try dsimp only at hSw); have k0 := hSw.2.1.cell (i := 0) rfl; have k1 := hSw.2.1.cell (i := 1) rfl; have k2 := hSw.2.1.cell (i := 2) rfl; have k3 := hSw.2.1.cell (i := 3) rfl; have k4 := hSw.2.1.cell (i := 4) rfl; have k5 := hSw.2.1.cell (i := 5) rfl; have k6 := hSw.2.1.cell (i := 6) rfl; have k7 := hSw.2.1.cell (i := 7) rfl; have k8 := hSw.2.1.cell (i := 8) rfl; clear hSw; go_simp; (try with_reducible rfl))
                  try simp only [Act.put, List.setIfInBounds_toArray, List.set_cons_zero, List.set_cons_succ]
                  refine wpAnyH_take (i := 7) (oi := ({ dst := some 80, op := Op.move (Operand.tmp 8), type := 9, pos := "law.go:79", after := #[], guard := none } : Oper)) (v := ?hv56) rfl (by kernel_rfl) (by kernel_rfl) (by kernel_rfl) (fun _ _ _ h => h) (Or.inl ⟨by rfl, ?hy56⟩) (by assumption) ?hr56
                  case hy56 => (intro w hSw; (try dsimp only at hSw); go_simp; (try with_reducible rfl))
                  try simp only [Act.put, List.setIfInBounds_toArray, List.set_cons_zero, List.set_cons_succ]
                  refine wpAnyH_ready (rs := [2]) (by kernel_rfl) (by simp) ?_
                  refine AllReadyH.cons (o := ({ dst := some 75, op := Op.call { callee := Callee.value (Operand.func 11), args := #[Operand.tmp 73, Operand.tmp 74], argTypes := #[25, 9] }, type := 3, pos := "law.go:79", after := #[{ on := 0, ground := Ground.data }, { on := 1, ground := Ground.data }], guard := none } : Oper)) rfl (fun KK hKK => ?_) AllReadyH.nil
                  (go_simp; (with_reducible refine (user21_is uA n uC kA nK kC d x3 x4 x5 x6 x7 x8 U a _ _ (HU6.out.below hH0.2.2) (HO.out a)).mono ?_); rintro e0 w3 ⟨rfl, hb3⟩)
                  refine hKK.out _ _ (by first | exact ⟨HT1.out.drew, HT2.out.drew, (Below.refl _ _).drew⟩ | exact ⟨hH0.1.below hb3, hH0.2.1.below hb3, hH0.2.2.trans (hb3.mono hH0.2.2.size)⟩ | exact hH0) (fun hH1 => ?_)
                  clear hKK KK hH0
                  try simp only [Act.put, List.setIfInBounds_toArray, List.set_cons_zero, List.set_cons_succ]
                  refine wpAnyH_ready (rs := [5]) (by kernel_rfl) (by simp) ?_
                  refine AllReadyH.cons (o := ({ dst := some 78, op := Op.call { callee := Callee.value (Operand.func 11), args := #[Operand.tmp 76, Operand.tmp 77], argTypes := #[25, 9] }, type := 3, pos := "law.go:79", after := #[{ on := 3, ground := Ground.data }, { on := 4, ground := Ground.data }, { on := 2, ground := Ground.chain }], guard := none } : Oper)) rfl (fun KK hKK => ?_) AllReadyH.nil
                  (go_simp; (with_reducible refine (user21_is uA n uC kA nK kC d x3 x4 x5 x6 x7 x8 U o _ _ (HU6.out.below hH1.2.2) (HO.out o)).mono ?_); rintro e0 w3 ⟨rfl, hb3⟩)
                  refine hKK.out _ _ (by first | exact ⟨HT1.out.drew, HT2.out.drew, (Below.refl _ _).drew⟩ | exact ⟨hH1.1.below hb3, hH1.2.1.below hb3, hH1.2.2.trans (hb3.mono hH1.2.2.size)⟩ | exact hH1) (fun hH2 => ?_)
                  clear hKK KK hH1
                  try simp only [Act.put, List.setIfInBounds_toArray, List.set_cons_zero, List.set_cons_succ]
                  refine wpAnyH_ready (rs := [8]) (by kernel_rfl) (by simp) ?_
                  refine AllReadyH.cons (o := ({ dst := some 81, op := Op.call { callee := Callee.value (Operand.func 11), args := #[Operand.tmp 79, Operand.tmp 80], argTypes := #[25, 9] }, type := 3, pos := "law.go:79", after := #[{ on := 6, ground := Ground.data }, { on := 7, ground := Ground.data }, { on := 5, ground := Ground.chain }], guard := none } : Oper)) rfl (fun KK hKK => ?_) AllReadyH.nil
                  (go_simp; (with_reducible refine (user21_is vA m vC lA mK lC e y3 y4 y5 y6 y7 y8 V o _ _ (HV6.out.below hH2.2.2) (HP.out o)).mono ?_); rintro e0 w3 ⟨rfl, hb3⟩)
                  refine hKK.out _ _ (by first | exact ⟨HT1.out.drew, HT2.out.drew, (Below.refl _ _).drew⟩ | exact ⟨hH2.1.below hb3, hH2.2.1.below hb3, hH2.2.2.trans (hb3.mono hH2.2.2.size)⟩ | exact hH2) (fun hH3 => ?_)
                  clear hKK KK hH2
                  try simp only [Act.put, List.setIfInBounds_toArray, List.set_cons_zero, List.set_cons_succ]
                  refine wpAnyH_take (i := 9) (oi := ({ dst := some 12, op := Op.assign (Operand.tmp 75), type := 3, pos := "law.go:79", after := #[{ on := 2, ground := Ground.data }, { on := 8, ground := Ground.chain }, { on := 0, ground := Ground.phase }, { on := 1, ground := Ground.phase }, { on := 2, ground := Ground.phase }, { on := 3, ground := Ground.textOnly Departure.lateStores }, { on := 4, ground := Ground.textOnly Departure.lateStores }, { on := 5, ground := Ground.textOnly Departure.lateStoresUnsure }, { on := 6, ground := Ground.textOnly Departure.lateStores }, { on := 7, ground := Ground.textOnly Departure.lateStores }, { on := 8, ground := Ground.textOnly Departure.lateStoresUnsure }], guard := none } : Oper)) (v := ?hv57) rfl (by kernel_rfl) (by kernel_rfl) (by kernel_rfl) (fun _ _ _ h => h) (Or.inl ⟨by rfl, ?hy57⟩) (by assumption) ?hr57
                  case hy57 => (intro w hSw; (try dsimp only at hSw); go_simp; (try with_reducible rfl))
                  try simp only [Act.put, List.setIfInBounds_toArray, List.set_cons_zero, List.set_cons_succ]
                  refine wpAnyH_take (i := 10) (oi := ({ dst := some 13, op := Op.assign (Operand.tmp 78), type := 3, pos := "law.go:79", after := #[{ on := 5, ground := Ground.data }, { on := 9, ground := Ground.chain }, { on := 0, ground := Ground.phase }, { on := 1, ground := Ground.phase }, { on := 2, ground := Ground.phase }, { on := 3, ground := Ground.phase }, { on := 4, ground := Ground.phase }, { on := 5, ground := Ground.phase }, { on := 6, ground := Ground.textOnly Departure.lateStores }, { on := 7, ground := Ground.textOnly Departure.lateStores }, { on := 8, ground := Ground.textOnly Departure.lateStoresUnsure }, { on := 9, ground := Ground.phase }], guard := none } : Oper)) (v := ?hv58) rfl (by kernel_rfl) (by kernel_rfl) (by kernel_rfl) (fun _ _ _ h => h) (Or.inl ⟨by rfl, ?hy58⟩) (by assumption) ?hr58
                  case hy58 => (intro w hSw; (try dsimp only at hSw); go_simp; (try with_reducible rfl))
                  try simp only [Act.put, List.setIfInBounds_toArray, List.set_cons_zero, List.set_cons_succ]
                  refine wpAnyH_take (i := 11) (oi := ({ dst := some 14, op := Op.assign (Operand.tmp 81), type := 3, pos := "law.go:79", after := #[{ on := 8, ground := Ground.data }, { on := 10, ground := Ground.chain }, { on := 0, ground := Ground.phase }, { on := 1, ground := Ground.phase }, { on := 2, ground := Ground.phase }, { on := 3, ground := Ground.phase }, { on := 4, ground := Ground.phase }, { on := 5, ground := Ground.phase }, { on := 6, ground := Ground.phase }, { on := 7, ground := Ground.phase }, { on := 8, ground := Ground.phase }, { on := 9, ground := Ground.phase }, { on := 10, ground := Ground.phase }], guard := none } : Oper)) (v := ?hv59) rfl (by kernel_rfl) (by kernel_rfl) (by kernel_rfl) (fun _ _ _ h => h) (Or.inl ⟨by rfl, ?hy59⟩) (by assumption) ?hr59
                  case hy59 => (intro w hSw; (try dsimp only at hSw); go_simp; (try with_reducible rfl))
                  try simp only [Act.put, List.setIfInBounds_toArray, List.set_cons_zero, List.set_cons_succ]
                  refine wpAnyH_done (by kernel_rfl) ?_ _
                  have hBl := hH3.2.2
                  clear hH3
                  have T1 := HT1.out.below hBl
                  have T2 := HT2.out.below hBl
                  have HC7 := Lib.hid (T1.cell (i := 7) rfl)
                  have HD7 := Lib.hid (T2.cell (i := 7) rfl)
                  have HW8 := Lib.hid (HW6.out.trans (hBl.mono HSz6.out))
                  have HGd := Lib.hid (fun h => Named.good (NM.out h) Hok.out.users)
                  have HBan := Lib.hid (Hok.out.nums 5 (by omega))
                  unfold goodU at HGd
                  clear T1 T2 hBl NM HO HP HND HNE HG1 HG2 Hok HU6 HV6 HT1 HT2 HW6
                  go_upto_region 18 with (fail)
                  generalize us a = own at HGd HBan ⊢
                  generalize us o = was at HGd ⊢
                  generalize vs o = is at HGd ⊢
                  go_cut [110] from 82 to 110 (fun s110 wx => s110 = .bool false ∧ w3 = wx)
                  case first =>
                    cases nm with
                    | false =>
                      go_wp2
                      go_meet
                      exact ⟨rfl, rfl⟩
                    | true =>
                      have HG := Lib.hid (HGd.out rfl)
                      have h := good_no HG.out
                      have hb : (is != was) = !(is == was) := rfl
                      rw [hb] at h
                      clear hb
                      generalize c1 : decide (own < is) = k1 at h
                      generalize c3 : (is == was) = k3 at h
                      generalize c4 : (o.toList == a.toList) = k4 at h
                      generalize c5 : decide (own ≤ was) = k5 at h
                      cases k1 <;> cases k3 <;> cases k4 <;> cases k5
                      all_goals first
                        | (exact absurd h (by decide))
                        | (clear h HG; have c6 : (is != was) = !(is == was) := rfl; rw [c3] at c6; simp only [Bool.not_true, Bool.not_false] at c6; go_wp2; go_meet; (try rw [c6]); exact ⟨rfl, rfl⟩)
                  case rest =>
                    obtain ⟨rfl, rfl⟩ := hcut
                    have c7 := HC7.out
                    have d7 := HD7.out
                    have hm : mayN x7 y7 own = true := HBan.out
                    cases e1 : (x7 == y7) with
                    | true =>
                      go_wp2_with (go_at_call 10; refine (awake10 _).mono ?_; rintro e0 w9 ⟨rfl, hb0⟩; have HB9 := Lib.hid hb0; clear hb0)
                      go_ret
                      exact ⟨rfl, HW8.out.trans (HB9.out.mono HW8.out.size)⟩
                    | false =>
                      have e2 : decide (x7 ≤ own) = true := by unfold mayN at hm; rw [e1] at hm; simp only [Bool.false_or, Bool.and_eq_true] at hm; exact hm.1
                      have e3 : decide (y7 ≤ own) = true := by unfold mayN at hm; rw [e1] at hm; simp only [Bool.false_or, Bool.and_eq_true] at hm; exact hm.2
                      clear hm
                      go_wp2_with (go_at_call 10; refine (awake10 _).mono ?_; rintro e0 w9 ⟨rfl, hb0⟩; have HB9 := Lib.hid hb0; clear hb0)
                      go_ret
                      exact ⟨rfl, HW8.out.trans (HB9.out.mono HW8.out.size)⟩
end Go.Proofs.Ythhmbcelicfopaa
