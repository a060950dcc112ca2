/- levels.usersHinder. -/
import Derived.Test.YthhmbcelicfopaaN5
import Derived.WalkMore
namespace Go.Proofs.Ythhmbcelicfopaa
open Go.RowKit
set_option linter.unusedVariables false

def goodU (us vs : ByteArray → Int) (user : ByteArray) (x : ByteArray) : Bool := mayU (x.toList == user.toList) (us x) (vs x) (us user)
/-- May the levels of all users of both lists change so? -/
def UsersOK (n m : Nat) (U V : Nat → ByteArray × Int) (us vs : ByteArray → Int) (user : ByteArray) : Prop := (∀ j, j < n → goodU us vs user (U j).1 = true) ∧ (∀ j, j < m → goodU us vs user (V j).1 = true)
def HPost (w : World) (OK : Prop) (e : Ending) (w' : World) : Prop := ((OK ∧ e = .returned (.bool false)) ∨ (¬ OK ∧ e = .returned (.bool true))) ∧ Below w.heap.size w w'
theorem mayU_call {same : Bool} {was is own : Int} (h : same = true ∨ was = is ∨ was < own) : mayU same was is own = mayN was is own := by
  unfold mayU
  rcases h with h | h | h <;> simp [h]
theorem mayU_bad {was is own : Int} (h1 : was ≠ is) (h2 : own ≤ was) : mayU false was is own = false := by
  unfold mayU
  have : ¬ was < own := by omega
  simp [h1, this]

set_option maxHeartbeats 8000000 in
theorem hinder31 (uA : Option Addr) (n uC : Nat) (kA : Option Addr) (nK kC : Nat) (d x3 x4 x5 x6 x7 x8 : Int) (vA : Option Addr) (m vC : Nat) (lA : Option Addr) (mK lC : Nat) (e y3 y4 y5 y6 y7 y8 : Int) (U V : Nat → ByteArray × Int) (us vs : ByteArray → Int) (user : ByteArray) (cb : Nat) (w : World) (hU : Rws w uA n uC 2 (rowU U)) (hV : Rws w vA m vC 2 (rowU V))
    (hu : ∀ x, UserPost U x n d (us x)) (hv : ∀ x, UserPost V x m e (vs x)) (hcb : cb < w.heap.size) (hc : w.cell? ⟨cb, 0, none⟩ = some (.int .i64 (us user))) :
    Calls Try.prog 31 #[.agg (lvc uA n uC kA nK kC d x3 x4 x5 x6 x7 x8).toArray, .agg (lvc vA m vC lA mK lC e y3 y4 y5 y6 y7 y8).toArray, .string user, .func (.func 28) #[] #[.pointer (some ⟨cb, 0, none⟩)]] w (HPost w (UsersOK n m U V us vs user)) := by
  have HX := Lib.hid (two_boxes w (lvc uA n uC kA nK kC d x3 x4 x5 x6 x7 x8) (lvc vA m vC lA mK lC e y3 y4 y5 y6 y7 y8))
  have HU := Lib.hid (hU.below HX.out.2.2)
  have HV := Lib.hid (hV.below HX.out.2.2)
  have HO := Lib.hid hu
  have HP := Lib.hid hv
  have HCb := Lib.hid (show (((w.alloc (.cells (lvc uA n uC kA nK kC d x3 x4 x5 x6 x7 x8).toArray 25)).alloc (.cells (lvc vA m vC lA mK lC e y3 y4 y5 y6 y7 y8).toArray 25)).cell? ⟨cb, 0, none⟩ = some (.int .i64 (us user))) from (HX.out.2.2.cell (p := ⟨cb, 0, none⟩) hcb).trans hc)
  have HCl := Lib.hid hcb
  have hb1 := hU.big
  have hb2 := hV.big
  unfold maxLen at hb1 hb2
  clear hU hV hu hv hcb hc
  show Calls Try.prog 31 #[.agg #[.slice uA n uC, .slice kA nK kC, .int .i64 d, .int .i64 x3, .int .i64 x4, .int .i64 x5, .int .i64 x6, .int .i64 x7, .int .i64 x8], .agg #[.slice vA m vC, .slice lA mK lC, .int .i64 e, .int .i64 y3, .int .i64 y4, .int .i64 y5, .int .i64 y6, .int .i64 y7, .int .i64 y8], .string user, .func (.func 28) #[] #[.pointer (some ⟨cb, 0, none⟩)]] w _
  go_enter Try.func31, Try.ntmps31
  go_wp2
  go_step3
  go_wp2_with (go_at_call 11; (with_reducible refine (user21_is uA n uC kA nK kC d x3 x4 x5 x6 x7 x8 U user (us user) _ HU.out (HO.out user)).mono ?_); rintro e0 w1 ⟨rfl, hb1⟩; have HB1 := Lib.hid hb1; clear hb1)
  have HW1 := Lib.hid (HX.out.2.2.trans (HB1.out.mono HX.out.2.2.size))
  have T1 := HX.out.1.below HB1.out
  have T2 := HX.out.2.1.below HB1.out
  have HT1 := Lib.hid (T1.alloc (.cells #[.slice uA n uC, .slice vA m vC] 22))
  have HT2 := Lib.hid (T2.alloc (.cells #[.slice uA n uC, .slice vA m vC] 22))
  have HU2 := Lib.hid ((HU.out.below HB1.out).below (Below.alloc (Below.refl _ w1) (Nat.le_refl _) (.cells #[.slice uA n uC, .slice vA m vC] 22)))
  have HV2 := Lib.hid ((HV.out.below HB1.out).below (Below.alloc (Below.refl _ w1) (Nat.le_refl _) (.cells #[.slice uA n uC, .slice vA m vC] 22)))
  have HW2 := Lib.hid (Below.alloc HW1.out HW1.out.size (.cells #[.slice uA n uC, .slice vA m vC] 22))
  have HGl := Lib.hid (blk_new w1 [.slice uA n uC, .slice vA m vC] 22)
  have HCl2 := Lib.hid (show cb < (w1.alloc (.cells #[.slice uA n uC, .slice vA m vC] 22)).heap.size from Nat.lt_of_lt_of_le HCl.out HW2.out.size)
  have HCb2 := Lib.hid (((HW2.out.cell (p := ⟨cb, 0, none⟩) HCl.out)).trans ((HX.out.2.2.cell (p := ⟨cb, 0, none⟩) HCl.out).symm.trans HCb.out))
  clear HCb
  have HCb := HCb2
  have k0 := T1.cell (i := 0) rfl
  have q0 := T2.cell (i := 0) rfl
  clear T1 T2 HU HV HB1
  have HSz := Lib.hid HW2.out.size
  generalize hb2 : w.heap.size + 1 = b2 at HT2 q0 ⊢
  generalize hb0 : w.heap.size = b1 at HT1 k0 ⊢
  clear hb2 hb0
  go_step3
  go_wp2
  clear k0 q0
  generalize hgl : w1.heap.size = gl at HGl ⊢
  clear hgl
  generalize hw2 : (w1.alloc _) = w2 at HT1 HT2 HU2 HV2 HW2 HGl HCl2 HCb HSz ⊢
  clear hw2 HCb2
  go_loopg [10, 27] 2 (fun gg s10 s27 wr => ∃ i : Nat, i ≤ 2 ∧ 2 - i ≤ gg ∧ s27 = .int .i64 i ∧ s10 = .bool false ∧ Hid (Below w2.heap.size w2 wr) ∧ Hid ((1 ≤ i → ∀ j, j < n → goodU us vs user (U j).1 = true) ∧ (2 ≤ i → ∀ j, j < m → goodU us vs user (V j).1 = true)))
  case atStart => exact ⟨0, by omega, by omega, rfl, rfl, Lib.hid (Below.refl _ w2), Lib.hid ⟨fun h => absurd h (by omega), fun h => absurd h (by omega)⟩⟩
  case round =>
    obtain ⟨i, hi, hg, rfl, rfl, BW, A⟩ := hrel
    by_cases hi0 : i = 0
    · subst hi0
      have g0 := (HGl.out.below BW.out).cell (i := 0) rfl
      go_wp2
      obtain ⟨wo, rfl⟩ : ∃ wo : World, wo = wr := ⟨_, rfl⟩
      go_loopg [10, 33] n (fun gg2 s10 s33 wr => ∃ jj : Nat, jj ≤ n ∧ n - jj ≤ gg2 ∧ s33 = .int .i64 jj ∧ s10 = .bool false ∧ Hid (Below w2.heap.size w2 wr) ∧ Hid (∀ j, j < jj → goodU us vs user (U j).1 = true))
      case atStart => exact ⟨0, Nat.zero_le _, by omega, rfl, rfl, BW, Lib.hid (fun j hj => absurd hj (Nat.not_lt_zero _))⟩
      case round =>
        obtain ⟨jj, hjj, hg2, rfl, rfl, BW2, A2⟩ := hrel
        by_cases hlt : jj < n
        · have hltz : (jj : Int) < (n : Int) := by omega
          obtain ⟨gk, ok, rfl, cy, cn⟩ := (HU2.out.below BW2.out).user hlt
          generalize hky : (U jj).1 = ky at cy
          generalize (U jj).2 = nn at cn
          have Hky := Lib.hid hky
          clear hky
          go_upto_region 9 with (fail)
          have HB5 := Lib.hid (Below.alloc BW2.out BW2.out.size (.cells #[.string ky, .int .i64 nn] 51))
          have N5 := blk_new wr [.string ky, .int .i64 nn] 51
          have C5 := Lib.hid N5
          generalize hb5 : wr.heap.size = b5 at N5 C5 ⊢
          have Hb5 := Lib.hid hb5
          clear hb5
          generalize hw5 : (wr.alloc _) = w5 at HB5 N5 C5 ⊢
          clear hw5
          have T1 := HT1.out.below HB5.out
          have T2 := HT2.out.below HB5.out
          have k0 := T1.cell (i := 0) rfl
          have k1 := T1.cell (i := 1) rfl
          have k2 := T1.cell (i := 2) rfl
          have k3 := T1.cell (i := 3) rfl
          have k4 := T1.cell (i := 4) rfl
          have k5 := T1.cell (i := 5) rfl
          have k6 := T1.cell (i := 6) rfl
          have k7 := T1.cell (i := 7) rfl
          have k8 := T1.cell (i := 8) rfl
          have q0 := T2.cell (i := 0) rfl
          have q1 := T2.cell (i := 1) rfl
          have q2 := T2.cell (i := 2) rfl
          have q3 := T2.cell (i := 3) rfl
          have q4 := T2.cell (i := 4) rfl
          have q5 := T2.cell (i := 5) rfl
          have q6 := T2.cell (i := 6) rfl
          have q7 := T2.cell (i := 7) rfl
          have q8 := T2.cell (i := 8) rfl
          have n0 := N5.cell (i := 0) rfl
          clear T1 T2 N5
          have HB := Lib.hid (Below.refl w5.heap.size w5)
          go_region_held3 (fun w' => w'.cell? ⟨b1, 0, none⟩ = some (.slice (some ⟨gk, ok, none⟩) n uC) ∧ w'.cell? ⟨b1, 1, none⟩ = some (.slice kA nK kC) ∧ w'.cell? ⟨b1, 2, none⟩ = some (.int .i64 d) ∧ w'.cell? ⟨b1, 3, none⟩ = some (.int .i64 x3) ∧ w'.cell? ⟨b1, 4, none⟩ = some (.int .i64 x4) ∧ w'.cell? ⟨b1, 5, none⟩ = some (.int .i64 x5) ∧ w'.cell? ⟨b1, 6, none⟩ = some (.int .i64 x6) ∧ w'.cell? ⟨b1, 7, none⟩ = some (.int .i64 x7) ∧ w'.cell? ⟨b1, 8, none⟩ = some (.int .i64 x8) ∧ w'.cell? ⟨b2, 0, none⟩ = some (.slice vA m vC) ∧ w'.cell? ⟨b2, 1, none⟩ = some (.slice lA mK lC) ∧ w'.cell? ⟨b2, 2, none⟩ = some (.int .i64 e) ∧ w'.cell? ⟨b2, 3, none⟩ = some (.int .i64 y3) ∧ w'.cell? ⟨b2, 4, none⟩ = some (.int .i64 y4) ∧ w'.cell? ⟨b2, 5, none⟩ = some (.int .i64 y5) ∧ w'.cell? ⟨b2, 6, none⟩ = some (.int .i64 y6) ∧ w'.cell? ⟨b2, 7, none⟩ = some (.int .i64 y7) ∧ w'.cell? ⟨b2, 8, none⟩ = some (.int .i64 y8) ∧ w'.cell? ⟨b5, 0, none⟩ = some (.string ky)) (first | exact ⟨k0, k1, k2, k3, k4, k5, k6, k7, k8, q0, q1, q2, q3, q4, q5, q6, q7, q8, n0⟩ | go_keep)
            (first
              | (go_at_call 11; (with_reducible refine (user21_is (some ⟨gk, ok, none⟩) n uC kA nK kC d x3 x4 x5 x6 x7 x8 U ky (us ky) _ (HU2.out.below (HB5.out.trans (HB.out.drew.mono HB5.out.size))) (HO.out ky)).mono ?_); rintro e0 w3 ⟨rfl, hb3⟩; have HBb := Lib.hid (HB.out.drew.trans (hb3.mono HB.out.size)); clear hb3 HB; clear k0 k1 k2 k3 k4 k5 k6 k7 k8 q0 q1 q2 q3 q4 q5 q6 q7 q8 n0; have T1 := HT1.out.below (HB5.out.trans (HBb.out.mono HB5.out.size)); have T2 := HT2.out.below (HB5.out.trans (HBb.out.mono HB5.out.size)); have N5 := C5.out.below HBb.out; have k0 := T1.cell (i := 0) rfl; have k1 := T1.cell (i := 1) rfl; have k2 := T1.cell (i := 2) rfl; have k3 := T1.cell (i := 3) rfl; have k4 := T1.cell (i := 4) rfl; have k5 := T1.cell (i := 5) rfl; have k6 := T1.cell (i := 6) rfl; have k7 := T1.cell (i := 7) rfl; have k8 := T1.cell (i := 8) rfl; have q0 := T2.cell (i := 0) rfl; have q1 := T2.cell (i := 1) rfl; have q2 := T2.cell (i := 2) rfl; have q3 := T2.cell (i := 3) rfl; have q4 := T2.cell (i := 4) rfl; have q5 := T2.cell (i := 5) rfl; have q6 := T2.cell (i := 6) rfl; have q7 := T2.cell (i := 7) rfl; have q8 := T2.cell (i := 8) rfl; have n0 := N5.cell (i := 0) rfl; clear T1 T2 N5; have HB := Lib.hid HBb.out; clear HBb)
              | (go_at_call 11; (with_reducible refine (user21_is (some ⟨gk, ok, none⟩) n uC kA nK kC d x3 x4 x5 x6 x7 x8 U ky (us ky) _ (HU2.out.below (HB5.out.trans (HB.out.mono HB5.out.size))) (HO.out ky)).mono ?_); rintro e0 w3 ⟨rfl, hb3⟩; have HBb := Lib.hid (HB.out.trans (hb3.mono HB.out.size)); clear hb3 HB; clear k0 k1 k2 k3 k4 k5 k6 k7 k8 q0 q1 q2 q3 q4 q5 q6 q7 q8 n0; have T1 := HT1.out.below (HB5.out.trans (HBb.out.mono HB5.out.size)); have T2 := HT2.out.below (HB5.out.trans (HBb.out.mono HB5.out.size)); have N5 := C5.out.below HBb.out; have k0 := T1.cell (i := 0) rfl; have k1 := T1.cell (i := 1) rfl; have k2 := T1.cell (i := 2) rfl; have k3 := T1.cell (i := 3) rfl; have k4 := T1.cell (i := 4) rfl; have k5 := T1.cell (i := 5) rfl; have k6 := T1.cell (i := 6) rfl; have k7 := T1.cell (i := 7) rfl; have k8 := T1.cell (i := 8) rfl; have q0 := T2.cell (i := 0) rfl; have q1 := T2.cell (i := 1) rfl; have q2 := T2.cell (i := 2) rfl; have q3 := T2.cell (i := 3) rfl; have q4 := T2.cell (i := 4) rfl; have q5 := T2.cell (i := 5) rfl; have q6 := T2.cell (i := 6) rfl; have q7 := T2.cell (i := 7) rfl; have q8 := T2.cell (i := 8) rfl; have n0 := N5.cell (i := 0) rfl; clear T1 T2 N5; have HB := Lib.hid HBb.out; clear HBb)
              | (go_at_call 11; (with_reducible refine (user21_is vA m vC lA mK lC e y3 y4 y5 y6 y7 y8 V ky (vs ky) _ (HV2.out.below (HB5.out.trans (HB.out.drew.mono HB5.out.size))) (HP.out ky)).mono ?_); rintro e0 w3 ⟨rfl, hb3⟩; have HBb := Lib.hid (HB.out.drew.trans (hb3.mono HB.out.size)); clear hb3 HB; clear k0 k1 k2 k3 k4 k5 k6 k7 k8 q0 q1 q2 q3 q4 q5 q6 q7 q8 n0; have T1 := HT1.out.below (HB5.out.trans (HBb.out.mono HB5.out.size)); have T2 := HT2.out.below (HB5.out.trans (HBb.out.mono HB5.out.size)); have N5 := C5.out.below HBb.out; have k0 := T1.cell (i := 0) rfl; have k1 := T1.cell (i := 1) rfl; have k2 := T1.cell (i := 2) rfl; have k3 := T1.cell (i := 3) rfl; have k4 := T1.cell (i := 4) rfl; have k5 := T1.cell (i := 5) rfl; have k6 := T1.cell (i := 6) rfl; have k7 := T1.cell (i := 7) rfl; have k8 := T1.cell (i := 8) rfl; have q0 := T2.cell (i := 0) rfl; have q1 := T2.cell (i := 1) rfl; have q2 := T2.cell (i := 2) rfl; have q3 := T2.cell (i := 3) rfl; have q4 := T2.cell (i := 4) rfl; have q5 := T2.cell (i := 5) rfl; have q6 := T2.cell (i := 6) rfl; have q7 := T2.cell (i := 7) rfl; have q8 := T2.cell (i := 8) rfl; have n0 := N5.cell (i := 0) rfl; clear T1 T2 N5; have HB := Lib.hid HBb.out; clear HBb)
              | (go_at_call 11; (with_reducible refine (user21_is vA m vC lA mK lC e y3 y4 y5 y6 y7 y8 V ky (vs ky) _ (HV2.out.below (HB5.out.trans (HB.out.mono HB5.out.size))) (HP.out ky)).mono ?_); rintro e0 w3 ⟨rfl, hb3⟩; have HBb := Lib.hid (HB.out.trans (hb3.mono HB.out.size)); clear hb3 HB; clear k0 k1 k2 k3 k4 k5 k6 k7 k8 q0 q1 q2 q3 q4 q5 q6 q7 q8 n0; have T1 := HT1.out.below (HB5.out.trans (HBb.out.mono HB5.out.size)); have T2 := HT2.out.below (HB5.out.trans (HBb.out.mono HB5.out.size)); have N5 := C5.out.below HBb.out; have k0 := T1.cell (i := 0) rfl; have k1 := T1.cell (i := 1) rfl; have k2 := T1.cell (i := 2) rfl; have k3 := T1.cell (i := 3) rfl; have k4 := T1.cell (i := 4) rfl; have k5 := T1.cell (i := 5) rfl; have k6 := T1.cell (i := 6) rfl; have k7 := T1.cell (i := 7) rfl; have k8 := T1.cell (i := 8) rfl; have q0 := T2.cell (i := 0) rfl; have q1 := T2.cell (i := 1) rfl; have q2 := T2.cell (i := 2) rfl; have q3 := T2.cell (i := 3) rfl; have q4 := T2.cell (i := 4) rfl; have q5 := T2.cell (i := 5) rfl; have q6 := T2.cell (i := 6) rfl; have q7 := T2.cell (i := 7) rfl; have q8 := T2.cell (i := 8) rfl; have n0 := N5.cell (i := 0) rfl; clear T1 T2 N5; have HB := Lib.hid HBb.out; clear HBb))
          clear k0 k1 k2 k3 k4 k5 k6 k7 k8 q0 q1 q2 q3 q4 q5 q6 q7 q8 n0
          have HB7 := Lib.hid (HB5.out.trans (HB.out.mono HB5.out.size))
          have CC := HB7.out.cell (p := ⟨cb, 0, none⟩) HCl2.out
          have cc := CC.trans HCb.out
          have n0 := (C5.out.below HB.out).cell (i := 0) rfl
          clear CC
          cases gs : (ky.toList == user.toList) with
          | true =>
            cases gm : mayN (us ky) (vs ky) (us user) with
            | true =>
              have HF := Lib.hid (show goodU us vs user (U jj).1 = true by rw [Hky.out]; show mayU (ky.toList == user.toList) (us ky) (vs ky) (us user) = _; rw [gs, mayU_call (.inl rfl), gm])
              have HA3 := Lib.hid (fun w h => above28 (us ky) (vs ky) (us user) cb w h)
              rw [gm] at HA3
              clear gm
              go_wp2_with (go_at_call 28; refine (HA3.out _ cc).mono ?_; rintro e1 w' ⟨rfl, rfl⟩)
              go_roundg (n - (jj + 1))
              case measure => omega
              case rel =>
                refine ⟨jj + 1, by omega, by omega, by go_num, rfl, HB7, Lib.hid (fun j hj => ?_)⟩
                by_cases e : j = jj
                · subst e; exact HF.out
                · exact A2.out j (by omega)
            | false =>
              have HF := Lib.hid (show goodU us vs user (U jj).1 = false by rw [Hky.out]; show mayU (ky.toList == user.toList) (us ky) (vs ky) (us user) = _; rw [gs, mayU_call (.inl rfl), gm])
              have HA3 := Lib.hid (fun w h => above28 (us ky) (vs ky) (us user) cb w h)
              rw [gm] at HA3
              clear gm
              go_wp2_with (go_at_call 28; refine (HA3.out _ cc).mono ?_; rintro e1 w' ⟨rfl, rfl⟩)
              (try rw [Exit.noGoto_ret])
              go_ret
              exact ⟨.inr ⟨(fun h => by have := h.1 jj hlt; rw [HF.out] at this; cases this), rfl⟩, HW2.out.trans (HB7.out.mono HSz.out)⟩
          | false =>
            cases gw : (us ky == vs ky) with
            | true =>
              have gw2 : (us ky != vs ky) = false := by simpa using gw
              cases gm : mayN (us ky) (vs ky) (us user) with
              | true =>
                have HF := Lib.hid (show goodU us vs user (U jj).1 = true by rw [Hky.out]; show mayU (ky.toList == user.toList) (us ky) (vs ky) (us user) = _; rw [mayU_call (.inr (.inl (by simpa using gw))), gm])
                have HA3 := Lib.hid (fun w h => above28 (us ky) (vs ky) (us user) cb w h)
                rw [gm] at HA3
                clear gm
                go_wp2_with (go_at_call 28; refine (HA3.out _ cc).mono ?_; rintro e1 w' ⟨rfl, rfl⟩)
                go_roundg (n - (jj + 1))
                case measure => omega
                case rel =>
                  refine ⟨jj + 1, by omega, by omega, by go_num, rfl, HB7, Lib.hid (fun j hj => ?_)⟩
                  by_cases e : j = jj
                  · subst e; exact HF.out
                  · exact A2.out j (by omega)
              | false =>
                have HF := Lib.hid (show goodU us vs user (U jj).1 = false by rw [Hky.out]; show mayU (ky.toList == user.toList) (us ky) (vs ky) (us user) = _; rw [mayU_call (.inr (.inl (by simpa using gw))), gm])
                have HA3 := Lib.hid (fun w h => above28 (us ky) (vs ky) (us user) cb w h)
                rw [gm] at HA3
                clear gm
                go_wp2_with (go_at_call 28; refine (HA3.out _ cc).mono ?_; rintro e1 w' ⟨rfl, rfl⟩)
                (try rw [Exit.noGoto_ret])
                go_ret
                exact ⟨.inr ⟨(fun h => by have := h.1 jj hlt; rw [HF.out] at this; cases this), rfl⟩, HW2.out.trans (HB7.out.mono HSz.out)⟩
            | false =>
              have gw2 : (us ky != vs ky) = true := by simpa using gw
              cases go : decide (us user ≤ us ky) with
              | false =>
                have go2 : us ky < us user := by simpa using go
                have HM := Lib.hid (mayU_call (same := ky.toList == user.toList) (is := vs ky) (.inr (.inr go2)))
                clear go2
                cases gm : mayN (us ky) (vs ky) (us user) with
                | true =>
                  have HF := Lib.hid (show goodU us vs user (U jj).1 = true by rw [Hky.out]; show mayU (ky.toList == user.toList) (us ky) (vs ky) (us user) = _; rw [HM.out, gm])
                  have HA3 := Lib.hid (fun w h => above28 (us ky) (vs ky) (us user) cb w h)
                  rw [gm] at HA3
                  clear gm
                  go_wp2_with (go_at_call 28; refine (HA3.out _ cc).mono ?_; rintro e1 w' ⟨rfl, rfl⟩)
                  go_roundg (n - (jj + 1))
                  case measure => omega
                  case rel =>
                    refine ⟨jj + 1, by omega, by omega, by go_num, rfl, HB7, Lib.hid (fun j hj => ?_)⟩
                    by_cases e : j = jj
                    · subst e; exact HF.out
                    · exact A2.out j (by omega)
                | false =>
                  have HF := Lib.hid (show goodU us vs user (U jj).1 = false by rw [Hky.out]; show mayU (ky.toList == user.toList) (us ky) (vs ky) (us user) = _; rw [HM.out, gm])
                  have HA3 := Lib.hid (fun w h => above28 (us ky) (vs ky) (us user) cb w h)
                  rw [gm] at HA3
                  clear gm
                  go_wp2_with (go_at_call 28; refine (HA3.out _ cc).mono ?_; rintro e1 w' ⟨rfl, rfl⟩)
                  (try rw [Exit.noGoto_ret])
                  go_ret
                  exact ⟨.inr ⟨(fun h => by have := h.1 jj hlt; rw [HF.out] at this; cases this), rfl⟩, HW2.out.trans (HB7.out.mono HSz.out)⟩
              | true =>
                have HF := Lib.hid (show goodU us vs user (U jj).1 = false by rw [Hky.out]; show mayU (ky.toList == user.toList) (us ky) (vs ky) (us user) = _; rw [gs]; exact mayU_bad (by simpa using gw) (by simpa using go))
                go_wp2
                (try rw [Exit.noGoto_ret])
                go_ret
                exact ⟨.inr ⟨(fun h => by have := h.1 jj hlt; rw [HF.out] at this; cases this), rfl⟩, HW2.out.trans (HB7.out.mono HSz.out)⟩
        · have hltz : ¬ (jj : Int) < (n : Int) := by omega
          obtain rfl : n = jj := by omega
          go_wp2
          go_roundg (2 - (1))
          case measure => omega
          case rel => exact ⟨1, by omega, by omega, rfl, rfl, BW2, Lib.hid ⟨fun _ => A2.out, fun h => absurd h (by omega)⟩⟩

    by_cases hi1 : i = 1
    · subst hi1
      have g1 := (HGl.out.below BW.out).cell (i := 1) rfl
      go_wp2
      obtain ⟨wo, rfl⟩ : ∃ wo : World, wo = wr := ⟨_, rfl⟩
      go_loopg [10, 33] m (fun gg2 s10 s33 wr => ∃ jj : Nat, jj ≤ m ∧ m - jj ≤ gg2 ∧ s33 = .int .i64 jj ∧ s10 = .bool false ∧ Hid (Below w2.heap.size w2 wr) ∧ Hid (∀ j, j < jj → goodU us vs user (V j).1 = true))
      case atStart => exact ⟨0, Nat.zero_le _, by omega, rfl, rfl, BW, Lib.hid (fun j hj => absurd hj (Nat.not_lt_zero _))⟩
      case round =>
        obtain ⟨jj, hjj, hg2, rfl, rfl, BW2, A2⟩ := hrel
        by_cases hlt : jj < m
        · have hltz : (jj : Int) < (m : Int) := by omega
          obtain ⟨gk, ok, rfl, cy, cn⟩ := (HV2.out.below BW2.out).user hlt
          generalize hky : (V jj).1 = ky at cy
          generalize (V jj).2 = nn at cn
          have Hky := Lib.hid hky
          clear hky
          go_upto_region 9 with (fail)
          have HB5 := Lib.hid (Below.alloc BW2.out BW2.out.size (.cells #[.string ky, .int .i64 nn] 51))
          have N5 := blk_new wr [.string ky, .int .i64 nn] 51
          have C5 := Lib.hid N5
          generalize hb5 : wr.heap.size = b5 at N5 C5 ⊢
          have Hb5 := Lib.hid hb5
          clear hb5
          generalize hw5 : (wr.alloc _) = w5 at HB5 N5 C5 ⊢
          clear hw5
          have T1 := HT1.out.below HB5.out
          have T2 := HT2.out.below HB5.out
          have k0 := T1.cell (i := 0) rfl
          have k1 := T1.cell (i := 1) rfl
          have k2 := T1.cell (i := 2) rfl
          have k3 := T1.cell (i := 3) rfl
          have k4 := T1.cell (i := 4) rfl
          have k5 := T1.cell (i := 5) rfl
          have k6 := T1.cell (i := 6) rfl
          have k7 := T1.cell (i := 7) rfl
          have k8 := T1.cell (i := 8) rfl
          have q0 := T2.cell (i := 0) rfl
          have q1 := T2.cell (i := 1) rfl
          have q2 := T2.cell (i := 2) rfl
          have q3 := T2.cell (i := 3) rfl
          have q4 := T2.cell (i := 4) rfl
          have q5 := T2.cell (i := 5) rfl
          have q6 := T2.cell (i := 6) rfl
          have q7 := T2.cell (i := 7) rfl
          have q8 := T2.cell (i := 8) rfl
          have n0 := N5.cell (i := 0) rfl
          clear T1 T2 N5
          have HB := Lib.hid (Below.refl w5.heap.size w5)
          go_region_held3 (fun w' => w'.cell? ⟨b1, 0, none⟩ = some (.slice uA n uC) ∧ w'.cell? ⟨b1, 1, none⟩ = some (.slice kA nK kC) ∧ w'.cell? ⟨b1, 2, none⟩ = some (.int .i64 d) ∧ w'.cell? ⟨b1, 3, none⟩ = some (.int .i64 x3) ∧ w'.cell? ⟨b1, 4, none⟩ = some (.int .i64 x4) ∧ w'.cell? ⟨b1, 5, none⟩ = some (.int .i64 x5) ∧ w'.cell? ⟨b1, 6, none⟩ = some (.int .i64 x6) ∧ w'.cell? ⟨b1, 7, none⟩ = some (.int .i64 x7) ∧ w'.cell? ⟨b1, 8, none⟩ = some (.int .i64 x8) ∧ w'.cell? ⟨b2, 0, none⟩ = some (.slice (some ⟨gk, ok, none⟩) m vC) ∧ w'.cell? ⟨b2, 1, none⟩ = some (.slice lA mK lC) ∧ w'.cell? ⟨b2, 2, none⟩ = some (.int .i64 e) ∧ w'.cell? ⟨b2, 3, none⟩ = some (.int .i64 y3) ∧ w'.cell? ⟨b2, 4, none⟩ = some (.int .i64 y4) ∧ w'.cell? ⟨b2, 5, none⟩ = some (.int .i64 y5) ∧ w'.cell? ⟨b2, 6, none⟩ = some (.int .i64 y6) ∧ w'.cell? ⟨b2, 7, none⟩ = some (.int .i64 y7) ∧ w'.cell? ⟨b2, 8, none⟩ = some (.int .i64 y8) ∧ w'.cell? ⟨b5, 0, none⟩ = some (.string ky)) (first | exact ⟨k0, k1, k2, k3, k4, k5, k6, k7, k8, q0, q1, q2, q3, q4, q5, q6, q7, q8, n0⟩ | go_keep)
            (first
              | (go_at_call 11; (with_reducible refine (user21_is uA n uC kA nK kC d x3 x4 x5 x6 x7 x8 U ky (us ky) _ (HU2.out.below (HB5.out.trans (HB.out.drew.mono HB5.out.size))) (HO.out ky)).mono ?_); rintro e0 w3 ⟨rfl, hb3⟩; have HBb := Lib.hid (HB.out.drew.trans (hb3.mono HB.out.size)); clear hb3 HB; clear k0 k1 k2 k3 k4 k5 k6 k7 k8 q0 q1 q2 q3 q4 q5 q6 q7 q8 n0; have T1 := HT1.out.below (HB5.out.trans (HBb.out.mono HB5.out.size)); have T2 := HT2.out.below (HB5.out.trans (HBb.out.mono HB5.out.size)); have N5 := C5.out.below HBb.out; have k0 := T1.cell (i := 0) rfl; have k1 := T1.cell (i := 1) rfl; have k2 := T1.cell (i := 2) rfl; have k3 := T1.cell (i := 3) rfl; have k4 := T1.cell (i := 4) rfl; have k5 := T1.cell (i := 5) rfl; have k6 := T1.cell (i := 6) rfl; have k7 := T1.cell (i := 7) rfl; have k8 := T1.cell (i := 8) rfl; have q0 := T2.cell (i := 0) rfl; have q1 := T2.cell (i := 1) rfl; have q2 := T2.cell (i := 2) rfl; have q3 := T2.cell (i := 3) rfl; have q4 := T2.cell (i := 4) rfl; have q5 := T2.cell (i := 5) rfl; have q6 := T2.cell (i := 6) rfl; have q7 := T2.cell (i := 7) rfl; have q8 := T2.cell (i := 8) rfl; have n0 := N5.cell (i := 0) rfl; clear T1 T2 N5; have HB := Lib.hid HBb.out; clear HBb)
              | (go_at_call 11; (with_reducible refine (user21_is uA n uC kA nK kC d x3 x4 x5 x6 x7 x8 U ky (us ky) _ (HU2.out.below (HB5.out.trans (HB.out.mono HB5.out.size))) (HO.out ky)).mono ?_); rintro e0 w3 ⟨rfl, hb3⟩; have HBb := Lib.hid (HB.out.trans (hb3.mono HB.out.size)); clear hb3 HB; clear k0 k1 k2 k3 k4 k5 k6 k7 k8 q0 q1 q2 q3 q4 q5 q6 q7 q8 n0; have T1 := HT1.out.below (HB5.out.trans (HBb.out.mono HB5.out.size)); have T2 := HT2.out.below (HB5.out.trans (HBb.out.mono HB5.out.size)); have N5 := C5.out.below HBb.out; have k0 := T1.cell (i := 0) rfl; have k1 := T1.cell (i := 1) rfl; have k2 := T1.cell (i := 2) rfl; have k3 := T1.cell (i := 3) rfl; have k4 := T1.cell (i := 4) rfl; have k5 := T1.cell (i := 5) rfl; have k6 := T1.cell (i := 6) rfl; have k7 := T1.cell (i := 7) rfl; have k8 := T1.cell (i := 8) rfl; have q0 := T2.cell (i := 0) rfl; have q1 := T2.cell (i := 1) rfl; have q2 := T2.cell (i := 2) rfl; have q3 := T2.cell (i := 3) rfl; have q4 := T2.cell (i := 4) rfl; have q5 := T2.cell (i := 5) rfl; have q6 := T2.cell (i := 6) rfl; have q7 := T2.cell (i := 7) rfl; have q8 := T2.cell (i := 8) rfl; have n0 := N5.cell (i := 0) rfl; clear T1 T2 N5; have HB := Lib.hid HBb.out; clear HBb)
              | (go_at_call 11; (with_reducible refine (user21_is (some ⟨gk, ok, none⟩) m vC lA mK lC e y3 y4 y5 y6 y7 y8 V ky (vs ky) _ (HV2.out.below (HB5.out.trans (HB.out.drew.mono HB5.out.size))) (HP.out ky)).mono ?_); rintro e0 w3 ⟨rfl, hb3⟩; have HBb := Lib.hid (HB.out.drew.trans (hb3.mono HB.out.size)); clear hb3 HB; clear k0 k1 k2 k3 k4 k5 k6 k7 k8 q0 q1 q2 q3 q4 q5 q6 q7 q8 n0; have T1 := HT1.out.below (HB5.out.trans (HBb.out.mono HB5.out.size)); have T2 := HT2.out.below (HB5.out.trans (HBb.out.mono HB5.out.size)); have N5 := C5.out.below HBb.out; have k0 := T1.cell (i := 0) rfl; have k1 := T1.cell (i := 1) rfl; have k2 := T1.cell (i := 2) rfl; have k3 := T1.cell (i := 3) rfl; have k4 := T1.cell (i := 4) rfl; have k5 := T1.cell (i := 5) rfl; have k6 := T1.cell (i := 6) rfl; have k7 := T1.cell (i := 7) rfl; have k8 := T1.cell (i := 8) rfl; have q0 := T2.cell (i := 0) rfl; have q1 := T2.cell (i := 1) rfl; have q2 := T2.cell (i := 2) rfl; have q3 := T2.cell (i := 3) rfl; have q4 := T2.cell (i := 4) rfl; have q5 := T2.cell (i := 5) rfl; have q6 := T2.cell (i := 6) rfl; have q7 := T2.cell (i := 7) rfl; have q8 := T2.cell (i := 8) rfl; have n0 := N5.cell (i := 0) rfl; clear T1 T2 N5; have HB := Lib.hid HBb.out; clear HBb)
              | (go_at_call 11; (with_reducible refine (user21_is (some ⟨gk, ok, none⟩) m vC lA mK lC e y3 y4 y5 y6 y7 y8 V ky (vs ky) _ (HV2.out.below (HB5.out.trans (HB.out.mono HB5.out.size))) (HP.out ky)).mono ?_); rintro e0 w3 ⟨rfl, hb3⟩; have HBb := Lib.hid (HB.out.trans (hb3.mono HB.out.size)); clear hb3 HB; clear k0 k1 k2 k3 k4 k5 k6 k7 k8 q0 q1 q2 q3 q4 q5 q6 q7 q8 n0; have T1 := HT1.out.below (HB5.out.trans (HBb.out.mono HB5.out.size)); have T2 := HT2.out.below (HB5.out.trans (HBb.out.mono HB5.out.size)); have N5 := C5.out.below HBb.out; have k0 := T1.cell (i := 0) rfl; have k1 := T1.cell (i := 1) rfl; have k2 := T1.cell (i := 2) rfl; have k3 := T1.cell (i := 3) rfl; have k4 := T1.cell (i := 4) rfl; have k5 := T1.cell (i := 5) rfl; have k6 := T1.cell (i := 6) rfl; have k7 := T1.cell (i := 7) rfl; have k8 := T1.cell (i := 8) rfl; have q0 := T2.cell (i := 0) rfl; have q1 := T2.cell (i := 1) rfl; have q2 := T2.cell (i := 2) rfl; have q3 := T2.cell (i := 3) rfl; have q4 := T2.cell (i := 4) rfl; have q5 := T2.cell (i := 5) rfl; have q6 := T2.cell (i := 6) rfl; have q7 := T2.cell (i := 7) rfl; have q8 := T2.cell (i := 8) rfl; have n0 := N5.cell (i := 0) rfl; clear T1 T2 N5; have HB := Lib.hid HBb.out; clear HBb))
          clear k0 k1 k2 k3 k4 k5 k6 k7 k8 q0 q1 q2 q3 q4 q5 q6 q7 q8 n0
          have HB7 := Lib.hid (HB5.out.trans (HB.out.mono HB5.out.size))
          have CC := HB7.out.cell (p := ⟨cb, 0, none⟩) HCl2.out
          have cc := CC.trans HCb.out
          have n0 := (C5.out.below HB.out).cell (i := 0) rfl
          clear CC
          cases gs : (ky.toList == user.toList) with
          | true =>
            cases gm : mayN (us ky) (vs ky) (us user) with
            | true =>
              have HF := Lib.hid (show goodU us vs user (V jj).1 = true by rw [Hky.out]; show mayU (ky.toList == user.toList) (us ky) (vs ky) (us user) = _; rw [gs, mayU_call (.inl rfl), gm])
              have HA3 := Lib.hid (fun w h => above28 (us ky) (vs ky) (us user) cb w h)
              rw [gm] at HA3
              clear gm
              go_wp2_with (go_at_call 28; refine (HA3.out _ cc).mono ?_; rintro e1 w' ⟨rfl, rfl⟩)
              go_roundg (m - (jj + 1))
              case measure => omega
              case rel =>
                refine ⟨jj + 1, by omega, by omega, by go_num, rfl, HB7, Lib.hid (fun j hj => ?_)⟩
                by_cases e : j = jj
                · subst e; exact HF.out
                · exact A2.out j (by omega)
            | false =>
              have HF := Lib.hid (show goodU us vs user (V jj).1 = false by rw [Hky.out]; show mayU (ky.toList == user.toList) (us ky) (vs ky) (us user) = _; rw [gs, mayU_call (.inl rfl), gm])
              have HA3 := Lib.hid (fun w h => above28 (us ky) (vs ky) (us user) cb w h)
              rw [gm] at HA3
              clear gm
              go_wp2_with (go_at_call 28; refine (HA3.out _ cc).mono ?_; rintro e1 w' ⟨rfl, rfl⟩)
              (try rw [Exit.noGoto_ret])
              go_ret
              exact ⟨.inr ⟨(fun h => by have := h.2 jj hlt; rw [HF.out] at this; cases this), rfl⟩, HW2.out.trans (HB7.out.mono HSz.out)⟩
          | false =>
            cases gw : (us ky == vs ky) with
            | true =>
              have gw2 : (us ky != vs ky) = false := by simpa using gw
              cases gm : mayN (us ky) (vs ky) (us user) with
              | true =>
                have HF := Lib.hid (show goodU us vs user (V jj).1 = true by rw [Hky.out]; show mayU (ky.toList == user.toList) (us ky) (vs ky) (us user) = _; rw [mayU_call (.inr (.inl (by simpa using gw))), gm])
                have HA3 := Lib.hid (fun w h => above28 (us ky) (vs ky) (us user) cb w h)
                rw [gm] at HA3
                clear gm
                go_wp2_with (go_at_call 28; refine (HA3.out _ cc).mono ?_; rintro e1 w' ⟨rfl, rfl⟩)
                go_roundg (m - (jj + 1))
                case measure => omega
                case rel =>
                  refine ⟨jj + 1, by omega, by omega, by go_num, rfl, HB7, Lib.hid (fun j hj => ?_)⟩
                  by_cases e : j = jj
                  · subst e; exact HF.out
                  · exact A2.out j (by omega)
              | false =>
                have HF := Lib.hid (show goodU us vs user (V jj).1 = false by rw [Hky.out]; show mayU (ky.toList == user.toList) (us ky) (vs ky) (us user) = _; rw [mayU_call (.inr (.inl (by simpa using gw))), gm])
                have HA3 := Lib.hid (fun w h => above28 (us ky) (vs ky) (us user) cb w h)
                rw [gm] at HA3
                clear gm
                go_wp2_with (go_at_call 28; refine (HA3.out _ cc).mono ?_; rintro e1 w' ⟨rfl, rfl⟩)
                (try rw [Exit.noGoto_ret])
                go_ret
                exact ⟨.inr ⟨(fun h => by have := h.2 jj hlt; rw [HF.out] at this; cases this), rfl⟩, HW2.out.trans (HB7.out.mono HSz.out)⟩
            | false =>
              have gw2 : (us ky != vs ky) = true := by simpa using gw
              cases go : decide (us user ≤ us ky) with
              | false =>
                have go2 : us ky < us user := by simpa using go
                have HM := Lib.hid (mayU_call (same := ky.toList == user.toList) (is := vs ky) (.inr (.inr go2)))
                clear go2
                cases gm : mayN (us ky) (vs ky) (us user) with
                | true =>
                  have HF := Lib.hid (show goodU us vs user (V jj).1 = true by rw [Hky.out]; show mayU (ky.toList == user.toList) (us ky) (vs ky) (us user) = _; rw [HM.out, gm])
                  have HA3 := Lib.hid (fun w h => above28 (us ky) (vs ky) (us user) cb w h)
                  rw [gm] at HA3
                  clear gm
                  go_wp2_with (go_at_call 28; refine (HA3.out _ cc).mono ?_; rintro e1 w' ⟨rfl, rfl⟩)
                  go_roundg (m - (jj + 1))
                  case measure => omega
                  case rel =>
                    refine ⟨jj + 1, by omega, by omega, by go_num, rfl, HB7, Lib.hid (fun j hj => ?_)⟩
                    by_cases e : j = jj
                    · subst e; exact HF.out
                    · exact A2.out j (by omega)
                | false =>
                  have HF := Lib.hid (show goodU us vs user (V jj).1 = false by rw [Hky.out]; show mayU (ky.toList == user.toList) (us ky) (vs ky) (us user) = _; rw [HM.out, gm])
                  have HA3 := Lib.hid (fun w h => above28 (us ky) (vs ky) (us user) cb w h)
                  rw [gm] at HA3
                  clear gm
                  go_wp2_with (go_at_call 28; refine (HA3.out _ cc).mono ?_; rintro e1 w' ⟨rfl, rfl⟩)
                  (try rw [Exit.noGoto_ret])
                  go_ret
                  exact ⟨.inr ⟨(fun h => by have := h.2 jj hlt; rw [HF.out] at this; cases this), rfl⟩, HW2.out.trans (HB7.out.mono HSz.out)⟩
              | true =>
                have HF := Lib.hid (show goodU us vs user (V jj).1 = false by rw [Hky.out]; show mayU (ky.toList == user.toList) (us ky) (vs ky) (us user) = _; rw [gs]; exact mayU_bad (by simpa using gw) (by simpa using go))
                go_wp2
                (try rw [Exit.noGoto_ret])
                go_ret
                exact ⟨.inr ⟨(fun h => by have := h.2 jj hlt; rw [HF.out] at this; cases this), rfl⟩, HW2.out.trans (HB7.out.mono HSz.out)⟩
        · have hltz : ¬ (jj : Int) < (m : Int) := by omega
          obtain rfl : m = jj := by omega
          go_wp2
          go_roundg (2 - (2))
          case measure => omega
          case rel => exact ⟨2, by omega, by omega, rfl, rfl, BW2, Lib.hid ⟨fun _ => A.out.1 (by omega), fun _ => A2.out⟩⟩

    have : i = 2 := by omega
    subst this
    go_wp2
    (try rw [Exit.noGoto_ret])
    go_ret
    exact ⟨.inl ⟨⟨A.out.1 (by omega), A.out.2 (by omega)⟩, rfl⟩, HW2.out.trans (BW.out.mono HSz.out)⟩
end Go.Proofs.Ythhmbcelicfopaa
