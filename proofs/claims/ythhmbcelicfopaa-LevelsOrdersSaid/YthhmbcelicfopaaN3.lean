/- May the level of a user change so (the reference's mayUser)? -/
import Derived.Test.YthhmbcelicfopaaN2
namespace Go.Proofs.Ythhmbcelicfopaa
open Go.RowKit
set_option linter.unusedVariables false

theorem user21_is (uA : Option Addr) (n uC : Nat) (kA : Option Addr) (nK kC : Nat) (d x3 x4 x5 x6 x7 x8 : Int) (U : Nat → ByteArray × Int) (u : ByteArray) (r : Int) (w : World) (hU : Rws w uA n uC 2 (rowU U)) (hr : UserPost U u n d r) :
    Calls Try.prog 11 #[.agg (lvc uA n uC kA nK kC d x3 x4 x5 x6 x7 x8).toArray, .string u] w fun e w' => e = .returned (.int .i64 r) ∧ Below w.heap.size w w' :=
  (user21 uA n uC kA nK kC U d x3 x4 x5 x6 x7 x8 u w hU).mono fun e w' ⟨q, he, hq, hb⟩ => ⟨by rw [he, hq.one hr], hb⟩
theorem user24_is (uA : Option Addr) (n uC : Nat) (kA : Option Addr) (nK kC : Nat) (d x3 x4 x5 x6 x7 x8 : Int) (U : Nat → ByteArray × Int) (u : ByteArray) (r : Int) (w : World) (hU : Rws w uA n uC 2 (rowU U)) (hr : UserPost U u n d r) :
    Calls Try.prog 12 #[.agg (lvc uA n uC kA nK kC d x3 x4 x5 x6 x7 x8).toArray, .string u] w fun e w' => e = .returned (.int .i64 r) ∧ Below w.heap.size w w' :=
  (user24 uA n uC kA nK kC U d x3 x4 x5 x6 x7 x8 u w hU).mono fun e w' ⟨q, he, hq, hb⟩ => ⟨by rw [he, hq.one hr], hb⟩
def mayU (same : Bool) (was is own : Int) : Bool := mayN was is own && ((was == is) || same || decide (was < own))
/-- Two boxes of levels, one behind the other. -/
theorem two_boxes (w : World) (c1 c2 : List Value) : Blk ((w.alloc (.cells c1.toArray 25)).alloc (.cells c2.toArray 25)) w.heap.size c1 25 ∧ Blk ((w.alloc (.cells c1.toArray 25)).alloc (.cells c2.toArray 25)) (w.heap.size + 1) c2 25 ∧
    Below w.heap.size w ((w.alloc (.cells c1.toArray 25)).alloc (.cells c2.toArray 25)) :=
  ⟨(blk_new w c1 25).alloc _, alloc2_blk w _ c2 25, (Below.alloc (Below.refl w.heap.size w) (Nat.le_refl _) _).alloc (by simp) _⟩

set_option maxHeartbeats 8000000 in
theorem mayUser33 (uA : Option Addr) (n uC : Nat) (kA : Option Addr) (nK kC : Nat) (d x3 x4 x5 x6 x7 x8 : Int) (vA : Option Addr) (m vC : Nat) (lA : Option Addr) (mK lC : Nat) (e y3 y4 y5 y6 y7 y8 : Int) (U V : Nat → ByteArray × Int) (t u : ByteArray) (own was is : Int) (w : World) (hU : Rws w uA n uC 2 (rowU U)) (hV : Rws w vA m vC 2 (rowU V))
    (ho : UserPost U u n d own) (hw : UserPost U t n d was) (hi : UserPost V t m e is) :
    Calls Try.prog 33 #[.agg (lvc uA n uC kA nK kC d x3 x4 x5 x6 x7 x8).toArray, .agg (lvc vA m vC lA mK lC e y3 y4 y5 y6 y7 y8).toArray, .string t, .string u] w fun e w' => e = .returned (.bool (mayU (t.toList == u.toList) was is own)) ∧ Below w.heap.size w w' := by
  have HX := Lib.hid (two_boxes w (lvc uA n uC kA nK kC d x3 x4 x5 x6 x7 x8) (lvc vA m vC lA mK lC e y3 y4 y5 y6 y7 y8))
  have HU := Lib.hid (hU.below HX.out.2.2)
  have HV := Lib.hid (hV.below HX.out.2.2)
  have HO := Lib.hid ho
  have HW := Lib.hid hw
  have HI := Lib.hid hi
  clear hU hV ho hw hi
  generalize hres : mayU (t.toList == u.toList) was is own = res
  have HRes := Lib.hid hres
  clear hres
  show Calls Try.prog 33 #[.agg #[.slice uA n uC, .slice kA nK kC, .int .i64 d, .int .i64 x3, .int .i64 x4, .int .i64 x5, .int .i64 x6, .int .i64 x7, .int .i64 x8], .agg #[.slice vA m vC, .slice lA mK lC, .int .i64 e, .int .i64 y3, .int .i64 y4, .int .i64 y5, .int .i64 y6, .int .i64 y7, .int .i64 y8], .string t, .string u] w _
  go_enter Try.func33, Try.ntmps33
  go_upto_region 1 with (fail)
  generalize hw2 : ((w.alloc _).alloc _) = w2 at HX HU HV ⊢
  clear hw2
  have T1 := HX.out.1
  have T2 := HX.out.2.1
  have HSz := Lib.hid HX.out.2.2.size
  have HXB := Lib.hid HX.out.2.2
  clear HX
  have k0 := T1.cell (i := 0) rfl
  have k1 := T1.cell (i := 1) rfl
  have k2 := T1.cell (i := 2) rfl
  have k3 := T1.cell (i := 3) rfl
  have k4 := T1.cell (i := 4) rfl
  have k5 := T1.cell (i := 5) rfl
  have k6 := T1.cell (i := 6) rfl
  have k7 := T1.cell (i := 7) rfl
  have k8 := T1.cell (i := 8) rfl
  have q0 := T2.cell (i := 0) rfl
  have q1 := T2.cell (i := 1) rfl
  have q2 := T2.cell (i := 2) rfl
  have q3 := T2.cell (i := 3) rfl
  have q4 := T2.cell (i := 4) rfl
  have q5 := T2.cell (i := 5) rfl
  have q6 := T2.cell (i := 6) rfl
  have q7 := T2.cell (i := 7) rfl
  have q8 := T2.cell (i := 8) rfl
  have HT1 := Lib.hid T1
  have HT2 := Lib.hid T2
  clear T1 T2
  have HB := Lib.hid (Below.refl w2.heap.size w2)
  generalize hb1 : w.heap.size + 1 = b2 at HT2 q0 q1 q2 q3 q4 q5 q6 q7 q8 ⊢
  generalize hb0 : w.heap.size = b1 at HT1 k0 k1 k2 k3 k4 k5 k6 k7 k8 ⊢
  clear hb1 hb0
  go_region_held3 (fun w' => w'.cell? ⟨b1, 0, none⟩ = some (.slice uA n uC) ∧ w'.cell? ⟨b1, 1, none⟩ = some (.slice kA nK kC) ∧ w'.cell? ⟨b1, 2, none⟩ = some (.int .i64 d) ∧ w'.cell? ⟨b1, 3, none⟩ = some (.int .i64 x3) ∧ w'.cell? ⟨b1, 4, none⟩ = some (.int .i64 x4) ∧ w'.cell? ⟨b1, 5, none⟩ = some (.int .i64 x5) ∧ w'.cell? ⟨b1, 6, none⟩ = some (.int .i64 x6) ∧ w'.cell? ⟨b1, 7, none⟩ = some (.int .i64 x7) ∧ w'.cell? ⟨b1, 8, none⟩ = some (.int .i64 x8) ∧ w'.cell? ⟨b2, 0, none⟩ = some (.slice vA m vC) ∧ w'.cell? ⟨b2, 1, none⟩ = some (.slice lA mK lC) ∧ w'.cell? ⟨b2, 2, none⟩ = some (.int .i64 e) ∧ w'.cell? ⟨b2, 3, none⟩ = some (.int .i64 y3) ∧ w'.cell? ⟨b2, 4, none⟩ = some (.int .i64 y4) ∧ w'.cell? ⟨b2, 5, none⟩ = some (.int .i64 y5) ∧ w'.cell? ⟨b2, 6, none⟩ = some (.int .i64 y6) ∧ w'.cell? ⟨b2, 7, none⟩ = some (.int .i64 y7) ∧ w'.cell? ⟨b2, 8, none⟩ = some (.int .i64 y8)) (first | exact ⟨k0, k1, k2, k3, k4, k5, k6, k7, k8, q0, q1, q2, q3, q4, q5, q6, q7, q8⟩ | go_keep)
    (first
      | (go_at_call 12; (with_reducible refine (user24_is uA n uC kA nK kC d x3 x4 x5 x6 x7 x8 U u own _ (HU.out.below HB.out.drew) HO.out).mono ?_); rintro e0 w3 ⟨rfl, hb3⟩; have HBb := Lib.hid (HB.out.drew.trans (hb3.mono HB.out.size)); clear hb3 HB; clear k0 k1 k2 k3 k4 k5 k6 k7 k8 q0 q1 q2 q3 q4 q5 q6 q7 q8; have T1 := HT1.out.below HBb.out; have T2 := HT2.out.below HBb.out; have k0 := T1.cell (i := 0) rfl; have k1 := T1.cell (i := 1) rfl; have k2 := T1.cell (i := 2) rfl; have k3 := T1.cell (i := 3) rfl; have k4 := T1.cell (i := 4) rfl; have k5 := T1.cell (i := 5) rfl; have k6 := T1.cell (i := 6) rfl; have k7 := T1.cell (i := 7) rfl; have k8 := T1.cell (i := 8) rfl; have q0 := T2.cell (i := 0) rfl; have q1 := T2.cell (i := 1) rfl; have q2 := T2.cell (i := 2) rfl; have q3 := T2.cell (i := 3) rfl; have q4 := T2.cell (i := 4) rfl; have q5 := T2.cell (i := 5) rfl; have q6 := T2.cell (i := 6) rfl; have q7 := T2.cell (i := 7) rfl; have q8 := T2.cell (i := 8) rfl; clear T1 T2; have HB := Lib.hid HBb.out; clear HBb)
      | (go_at_call 12; (with_reducible refine (user24_is uA n uC kA nK kC d x3 x4 x5 x6 x7 x8 U u own _ (HU.out.below HB.out) HO.out).mono ?_); rintro e0 w3 ⟨rfl, hb3⟩; have HBb := Lib.hid (HB.out.trans (hb3.mono HB.out.size)); clear hb3 HB; clear k0 k1 k2 k3 k4 k5 k6 k7 k8 q0 q1 q2 q3 q4 q5 q6 q7 q8; have T1 := HT1.out.below HBb.out; have T2 := HT2.out.below HBb.out; have k0 := T1.cell (i := 0) rfl; have k1 := T1.cell (i := 1) rfl; have k2 := T1.cell (i := 2) rfl; have k3 := T1.cell (i := 3) rfl; have k4 := T1.cell (i := 4) rfl; have k5 := T1.cell (i := 5) rfl; have k6 := T1.cell (i := 6) rfl; have k7 := T1.cell (i := 7) rfl; have k8 := T1.cell (i := 8) rfl; have q0 := T2.cell (i := 0) rfl; have q1 := T2.cell (i := 1) rfl; have q2 := T2.cell (i := 2) rfl; have q3 := T2.cell (i := 3) rfl; have q4 := T2.cell (i := 4) rfl; have q5 := T2.cell (i := 5) rfl; have q6 := T2.cell (i := 6) rfl; have q7 := T2.cell (i := 7) rfl; have q8 := T2.cell (i := 8) rfl; clear T1 T2; have HB := Lib.hid HBb.out; clear HBb)
      | (go_at_call 12; (with_reducible refine (user24_is uA n uC kA nK kC d x3 x4 x5 x6 x7 x8 U t was _ (HU.out.below HB.out.drew) HW.out).mono ?_); rintro e0 w3 ⟨rfl, hb3⟩; have HBb := Lib.hid (HB.out.drew.trans (hb3.mono HB.out.size)); clear hb3 HB; clear k0 k1 k2 k3 k4 k5 k6 k7 k8 q0 q1 q2 q3 q4 q5 q6 q7 q8; have T1 := HT1.out.below HBb.out; have T2 := HT2.out.below HBb.out; have k0 := T1.cell (i := 0) rfl; have k1 := T1.cell (i := 1) rfl; have k2 := T1.cell (i := 2) rfl; have k3 := T1.cell (i := 3) rfl; have k4 := T1.cell (i := 4) rfl; have k5 := T1.cell (i := 5) rfl; have k6 := T1.cell (i := 6) rfl; have k7 := T1.cell (i := 7) rfl; have k8 := T1.cell (i := 8) rfl; have q0 := T2.cell (i := 0) rfl; have q1 := T2.cell (i := 1) rfl; have q2 := T2.cell (i := 2) rfl; have q3 := T2.cell (i := 3) rfl; have q4 := T2.cell (i := 4) rfl; have q5 := T2.cell (i := 5) rfl; have q6 := T2.cell (i := 6) rfl; have q7 := T2.cell (i := 7) rfl; have q8 := T2.cell (i := 8) rfl; clear T1 T2; have HB := Lib.hid HBb.out; clear HBb)
      | (go_at_call 12; (with_reducible refine (user24_is uA n uC kA nK kC d x3 x4 x5 x6 x7 x8 U t was _ (HU.out.below HB.out) HW.out).mono ?_); rintro e0 w3 ⟨rfl, hb3⟩; have HBb := Lib.hid (HB.out.trans (hb3.mono HB.out.size)); clear hb3 HB; clear k0 k1 k2 k3 k4 k5 k6 k7 k8 q0 q1 q2 q3 q4 q5 q6 q7 q8; have T1 := HT1.out.below HBb.out; have T2 := HT2.out.below HBb.out; have k0 := T1.cell (i := 0) rfl; have k1 := T1.cell (i := 1) rfl; have k2 := T1.cell (i := 2) rfl; have k3 := T1.cell (i := 3) rfl; have k4 := T1.cell (i := 4) rfl; have k5 := T1.cell (i := 5) rfl; have k6 := T1.cell (i := 6) rfl; have k7 := T1.cell (i := 7) rfl; have k8 := T1.cell (i := 8) rfl; have q0 := T2.cell (i := 0) rfl; have q1 := T2.cell (i := 1) rfl; have q2 := T2.cell (i := 2) rfl; have q3 := T2.cell (i := 3) rfl; have q4 := T2.cell (i := 4) rfl; have q5 := T2.cell (i := 5) rfl; have q6 := T2.cell (i := 6) rfl; have q7 := T2.cell (i := 7) rfl; have q8 := T2.cell (i := 8) rfl; clear T1 T2; have HB := Lib.hid HBb.out; clear HBb)
      | (go_at_call 12; (with_reducible refine (user24_is vA m vC lA mK lC e y3 y4 y5 y6 y7 y8 V t is _ (HV.out.below HB.out.drew) HI.out).mono ?_); rintro e0 w3 ⟨rfl, hb3⟩; have HBb := Lib.hid (HB.out.drew.trans (hb3.mono HB.out.size)); clear hb3 HB; clear k0 k1 k2 k3 k4 k5 k6 k7 k8 q0 q1 q2 q3 q4 q5 q6 q7 q8; have T1 := HT1.out.below HBb.out; have T2 := HT2.out.below HBb.out; have k0 := T1.cell (i := 0) rfl; have k1 := T1.cell (i := 1) rfl; have k2 := T1.cell (i := 2) rfl; have k3 := T1.cell (i := 3) rfl; have k4 := T1.cell (i := 4) rfl; have k5 := T1.cell (i := 5) rfl; have k6 := T1.cell (i := 6) rfl; have k7 := T1.cell (i := 7) rfl; have k8 := T1.cell (i := 8) rfl; have q0 := T2.cell (i := 0) rfl; have q1 := T2.cell (i := 1) rfl; have q2 := T2.cell (i := 2) rfl; have q3 := T2.cell (i := 3) rfl; have q4 := T2.cell (i := 4) rfl; have q5 := T2.cell (i := 5) rfl; have q6 := T2.cell (i := 6) rfl; have q7 := T2.cell (i := 7) rfl; have q8 := T2.cell (i := 8) rfl; clear T1 T2; have HB := Lib.hid HBb.out; clear HBb)
      | (go_at_call 12; (with_reducible refine (user24_is vA m vC lA mK lC e y3 y4 y5 y6 y7 y8 V t is _ (HV.out.below HB.out) HI.out).mono ?_); rintro e0 w3 ⟨rfl, hb3⟩; have HBb := Lib.hid (HB.out.trans (hb3.mono HB.out.size)); clear hb3 HB; clear k0 k1 k2 k3 k4 k5 k6 k7 k8 q0 q1 q2 q3 q4 q5 q6 q7 q8; have T1 := HT1.out.below HBb.out; have T2 := HT2.out.below HBb.out; have k0 := T1.cell (i := 0) rfl; have k1 := T1.cell (i := 1) rfl; have k2 := T1.cell (i := 2) rfl; have k3 := T1.cell (i := 3) rfl; have k4 := T1.cell (i := 4) rfl; have k5 := T1.cell (i := 5) rfl; have k6 := T1.cell (i := 6) rfl; have k7 := T1.cell (i := 7) rfl; have k8 := T1.cell (i := 8) rfl; have q0 := T2.cell (i := 0) rfl; have q1 := T2.cell (i := 1) rfl; have q2 := T2.cell (i := 2) rfl; have q3 := T2.cell (i := 3) rfl; have q4 := T2.cell (i := 4) rfl; have q5 := T2.cell (i := 5) rfl; have q6 := T2.cell (i := 6) rfl; have q7 := T2.cell (i := 7) rfl; have q8 := T2.cell (i := 8) rfl; clear T1 T2; have HB := Lib.hid HBb.out; clear HBb))
  all_goals
    clear k0 k1 k2 k3 k4 k5 k6 k7 k8 q0 q1 q2 q3 q4 q5 q6 q7 q8
    cases gm : mayN was is own with
    | false =>
      have HF := Lib.hid (show res = false by rw [← HRes.out]; unfold mayU; rw [gm]; rfl)
      have HM := Lib.hid (fun w => may32 was is own w)
      rw [gm] at HM
      clear gm
      go_wp2_with (go_at_call 32; refine (HM.out _).mono ?_; rintro e w' ⟨rfl, rfl⟩)
      go_ret
      exact ⟨by rw [HF.out]; rfl, HXB.out.trans (HB.out.mono HSz.out)⟩
    | true =>
      have HM := Lib.hid (fun w => may32 was is own w)
      rw [gm] at HM
      have HN := Lib.hid (show mayU (t.toList == u.toList) was is own = ((was == is) || (t.toList == u.toList) || decide (was < own)) by unfold mayU; rw [gm]; rfl)
      clear gm
      cases g2 : (was == is) with
      | true =>
        have HF := Lib.hid (show res = true by rw [← HRes.out, HN.out, g2]; rfl)
        go_wp2_with (go_at_call 32; refine (HM.out _).mono ?_; rintro e w' ⟨rfl, rfl⟩)
        go_ret
        exact ⟨by rw [HF.out]; rfl, HXB.out.trans (HB.out.mono HSz.out)⟩
      | false =>
        cases g3 : (t.toList == u.toList) with
        | true =>
          have HF := Lib.hid (show res = true by rw [← HRes.out, HN.out, g2, g3]; rfl)
          go_wp2_with (go_at_call 32; refine (HM.out _).mono ?_; rintro e w' ⟨rfl, rfl⟩)
          go_ret
          exact ⟨by rw [HF.out]; rfl, HXB.out.trans (HB.out.mono HSz.out)⟩
        | false =>
          cases g4 : (decide (was < own)) with
          | true =>
            have HF := Lib.hid (show res = true by rw [← HRes.out, HN.out, g2, g3, g4]; rfl)
            go_wp2_with (go_at_call 32; refine (HM.out _).mono ?_; rintro e w' ⟨rfl, rfl⟩)
            go_ret
            exact ⟨by rw [HF.out]; rfl, HXB.out.trans (HB.out.mono HSz.out)⟩
          | false =>
            have HF := Lib.hid (show res = false by rw [← HRes.out, HN.out, g2, g3, g4]; rfl)
            go_wp2_with (go_at_call 32; refine (HM.out _).mono ?_; rintro e w' ⟨rfl, rfl⟩)
            go_ret
            exact ⟨by rw [HF.out]; rfl, HXB.out.trans (HB.out.mono HSz.out)⟩
end Go.Proofs.Ythhmbcelicfopaa
