/- The reference's Change: its walk. -/
import Derived.Test.YthhmbcelicfopaaN7
namespace Go.Proofs.Ythhmbcelicfopaa
open Go.RowKit
set_option linter.unusedVariables false

theorem numbers25x (uA : Option Addr) (n uC : Nat) (kA : Option Addr) (nK kC : Nat) (d x3 x4 x5 x6 x7 x8 : Int) (w : World) :
    Calls Try.prog 25 #[.agg (lvc uA n uC kA nK kC d x3 x4 x5 x6 x7 x8).toArray] w fun e w' => e = .returned (.slice (some ⟨w.heap.size + 1, 0, none⟩) 7 7) ∧ (w.alloc (.cells (lvc uA n uC kA nK kC d x3 x4 x5 x6 x7 x8).toArray 25)).alloc (.cells (nums d x3 x4 x5 x6 x7 x8).toArray 3) = w' := by
  show Calls Try.prog 25 #[.agg #[.slice uA n uC, .slice kA nK kC, .int .i64 d, .int .i64 x3, .int .i64 x4, .int .i64 x5, .int .i64 x6, .int .i64 x7, .int .i64 x8]] w _
  go_enter Try.func25, Try.ntmps25
  go_wp2
  go_ret
  exact ⟨rfl, rfl⟩
theorem kinds_get (K : Nat → Int × Int) {n j : Nat} (h : j < n) : (kinds K n)[j]? = some (K j).1 := by
  unfold kinds
  rw [List.getElem?_map, List.getElem?_range h]; rfl
def NumRel2 (w2 : World) (c1 c2 : List Value) (s8 s9 : Value) (w : World) : Prop :=
  ∃ g8 g9, s8 = .slice (some ⟨g8, 0, none⟩) 7 7 ∧ s9 = .slice (some ⟨g9, 0, none⟩) 7 7 ∧ Blk w g8 c1 3 ∧ Blk w g9 c2 3 ∧ Below w2.heap.size w2 w

set_option maxHeartbeats 32000000 in
theorem rchange21 (uA : Option Addr) (n uC : Nat) (kA : Option Addr) (nK kC : Nat) (d x3 x4 x5 x6 x7 x8 : Int) (vA : Option Addr) (m vC : Nat) (lA : Option Addr) (mK lC : Nat) (e y3 y4 y5 y6 y7 y8 : Int) (U V : Nat → ByteArray × Int) (K M : Nat → Int × Int) (us vs : ByteArray → Int) (nd ne : Int → Int) (user : ByteArray) (w : World) (hU : Rws w uA n uC 2 (rowU U)) (hV : Rws w vA m vC 2 (rowU V)) (hK : Rws w kA nK kC 2 (rowK K)) (hM : Rws w lA mK lC 2 (rowK M))
    (hu : ∀ x, UserPost U x n d (us x)) (hv : ∀ x, UserPost V x m e (vs x)) (hnd : ∀ k, NeedPost K k nK x3 x4 (nd k)) (hne : ∀ k, NeedPost M k mK y3 y4 (ne k)) (hbk : (nK + mK) * 8 ≤ 140737488355328) :
    Calls Try.prog 21 #[.agg (lvc uA n uC kA nK kC d x3 x4 x5 x6 x7 x8).toArray, .agg (lvc vA m vC lA mK lC e y3 y4 y5 y6 y7 y8).toArray, .string user] w (ChPost w (ChOK n m nK mK U V K M us vs nd ne (numF d x3 x4 x5 x6 x7 x8) (numF e y3 y4 y5 y6 y7 y8) user)) := by
  have HX := Lib.hid (two_boxes w (lvc uA n uC kA nK kC d x3 x4 x5 x6 x7 x8) (lvc vA m vC lA mK lC e y3 y4 y5 y6 y7 y8))
  have HU := Lib.hid (hU.below HX.out.2.2)
  have HV := Lib.hid (hV.below HX.out.2.2)
  have HK := Lib.hid (hK.below HX.out.2.2)
  have HM := Lib.hid (hM.below HX.out.2.2)
  have HND := Lib.hid hnd
  have HNE := Lib.hid hne
  have HO := Lib.hid hu
  have HP := Lib.hid hv
  have hb1 := hU.big
  have hb2 := hV.big
  unfold maxLen at hb1 hb2
  have hbk2 : nK + mK ≤ 9223372036854775807 := by omega
  clear hU hV hu hv hK hM hnd hne hbk
  show Calls Try.prog 21 #[.agg #[.slice uA n uC, .slice kA nK kC, .int .i64 d, .int .i64 x3, .int .i64 x4, .int .i64 x5, .int .i64 x6, .int .i64 x7, .int .i64 x8], .agg #[.slice vA m vC, .slice lA mK lC, .int .i64 e, .int .i64 y3, .int .i64 y4, .int .i64 y5, .int .i64 y6, .int .i64 y7, .int .i64 y8], .string user] w _
  go_enter Try.func21, Try.ntmps21
  go_upto_region 2 with (go_at_call 12; (with_reducible refine (user24_is uA n uC kA nK kC d x3 x4 x5 x6 x7 x8 U user (us user) _ HU.out (HO.out user)).mono ?_); rintro e0 w2 ⟨rfl, hb1⟩; have HB1 := Lib.hid hb1; clear hb1)
  have HW2 := Lib.hid (HX.out.2.2.trans (HB1.out.mono HX.out.2.2.size))
  have T1 := HX.out.1.below HB1.out
  have T2 := HX.out.2.1.below HB1.out
  have HT1 := Lib.hid T1
  have HT2 := Lib.hid T2
  have HU2 := Lib.hid (HU.out.below HB1.out)
  have HV2 := Lib.hid (HV.out.below HB1.out)
  have HK2 := Lib.hid (HK.out.below HB1.out)
  have HM2 := Lib.hid (HM.out.below HB1.out)
  have HSz := Lib.hid HW2.out.size
  clear HU HV HK HM HB1
  generalize hb2 : w.heap.size + 1 = b2 at HT2 T2 ⊢
  generalize hb0 : w.heap.size = b1 at HT1 T1 ⊢
  clear hb2 hb0
  go_cut [8, 9] from 18 to 21 (fun s8 s9 wx => NumRel2 w2 (nums d x3 x4 x5 x6 x7 x8) (nums e y3 y4 y5 y6 y7 y8) s8 s9 wx)
  case first =>
    have k0 := T1.cell (i := 0) rfl
    have k1 := T1.cell (i := 1) rfl
    have k2 := T1.cell (i := 2) rfl
    have k3 := T1.cell (i := 3) rfl
    have k4 := T1.cell (i := 4) rfl
    have k5 := T1.cell (i := 5) rfl
    have k6 := T1.cell (i := 6) rfl
    have k7 := T1.cell (i := 7) rfl
    have k8 := T1.cell (i := 8) rfl
    have q0 := T2.cell (i := 0) rfl
    have q1 := T2.cell (i := 1) rfl
    have q2 := T2.cell (i := 2) rfl
    have q3 := T2.cell (i := 3) rfl
    have q4 := T2.cell (i := 4) rfl
    have q5 := T2.cell (i := 5) rfl
    have q6 := T2.cell (i := 6) rfl
    have q7 := T2.cell (i := 7) rfl
    have q8 := T2.cell (i := 8) rfl
    clear T1 T2
    have hl1 := HT1.out.lt
    have hl2 := HT2.out.lt
    go_region_held3 (fun w' => w'.cell? ⟨b1, 0, none⟩ = some (.slice uA n uC) ∧ w'.cell? ⟨b1, 1, none⟩ = some (.slice kA nK kC) ∧ w'.cell? ⟨b1, 2, none⟩ = some (.int .i64 d) ∧ w'.cell? ⟨b1, 3, none⟩ = some (.int .i64 x3) ∧ w'.cell? ⟨b1, 4, none⟩ = some (.int .i64 x4) ∧ w'.cell? ⟨b1, 5, none⟩ = some (.int .i64 x5) ∧ w'.cell? ⟨b1, 6, none⟩ = some (.int .i64 x6) ∧ w'.cell? ⟨b1, 7, none⟩ = some (.int .i64 x7) ∧ w'.cell? ⟨b1, 8, none⟩ = some (.int .i64 x8) ∧ w'.cell? ⟨b2, 0, none⟩ = some (.slice vA m vC) ∧ w'.cell? ⟨b2, 1, none⟩ = some (.slice lA mK lC) ∧ w'.cell? ⟨b2, 2, none⟩ = some (.int .i64 e) ∧ w'.cell? ⟨b2, 3, none⟩ = some (.int .i64 y3) ∧ w'.cell? ⟨b2, 4, none⟩ = some (.int .i64 y4) ∧ w'.cell? ⟨b2, 5, none⟩ = some (.int .i64 y5) ∧ w'.cell? ⟨b2, 6, none⟩ = some (.int .i64 y6) ∧ w'.cell? ⟨b2, 7, none⟩ = some (.int .i64 y7) ∧ w'.cell? ⟨b2, 8, none⟩ = some (.int .i64 y8)) (first | exact ⟨k0, k1, k2, k3, k4, k5, k6, k7, k8, q0, q1, q2, q3, q4, q5, q6, q7, q8⟩ | exact boxesS (by repeat (first | exact HT1.out | refine Blk.drew ?_ | refine Blk.alloc ?_ _)) (by repeat (first | exact HT2.out | refine Blk.drew ?_ | refine Blk.alloc ?_ _)))
      (first
        | (go_at_call 25; (with_reducible refine (numbers25x uA n uC kA nK kC d x3 x4 x5 x6 x7 x8 _).mono ?_); rintro e0 w3 ⟨rfl, rfl⟩)
        | (go_at_call 25; (with_reducible refine (numbers25x vA m vC lA mK lC e y3 y4 y5 y6 y7 y8 _).mono ?_); rintro e0 w3 ⟨rfl, rfl⟩))
    all_goals go_wp2
    all_goals go_meet
    all_goals refine ⟨_, _, rfl, rfl, ?_, ?_, ?_⟩
    all_goals first
      | ((repeat (first | refine Blk.drew ?_ | (refine blk_at _ _ _ _ ?_; simp; done) | refine Blk.alloc ?_ _)); done)
      | ((repeat (first | exact Below.refl _ _ | refine Below.drew ?_ | refine Below.alloc ?_ (by simp <;> omega) _)); done)
  case rest =>
    clear T1 T2
    obtain ⟨g8, g9, rfl, rfl, hg8, hg9, hb3⟩ := hcut
    have H8 := Lib.hid hg8
    have H9 := Lib.hid hg9
    have HB3 := Lib.hid hb3
    clear hg8 hg9 hb3
    go_wp2
    go_loopg [10] 7 (fun gg s10 wr => ∃ i : Nat, i ≤ 7 ∧ 7 - i ≤ gg ∧ s10 = .int .i64 i ∧ Hid (Below wc.heap.size wc wr) ∧ Hid (∀ j, j < i → mayN (numF d x3 x4 x5 x6 x7 x8 j) (numF e y3 y4 y5 y6 y7 y8 j) (us user) = true))
    case atStart => exact ⟨0, by omega, by omega, rfl, Lib.hid (Below.refl _ wc), Lib.hid (fun j hj => absurd hj (Nat.not_lt_zero _))⟩
    case round =>
      obtain ⟨i, hi, hg, rfl, BW, A⟩ := hrel
      by_cases hlt : i < 7
      · have hltz : (i : Int) < 7 := by omega
        have c8 := (H8.out.below BW.out).cell (numF_get d x3 x4 x5 x6 x7 x8 i hlt)
        have c9 := (H9.out.below BW.out).cell (numF_get e y3 y4 y5 y6 y7 y8 i hlt)
        generalize hz1 : numF d x3 x4 x5 x6 x7 x8 i = z1 at c8
        generalize hz2 : numF e y3 y4 y5 y6 y7 y8 i = z2 at c9
        have Hz1 := Lib.hid hz1
        have Hz2 := Lib.hid hz2
        clear hz1 hz2
        have HA3 := Lib.hid (fun w => may32 z1 z2 (us user) w)
        cases gm : mayN z1 z2 (us user)
        all_goals
          rw [gm] at HA3
          have GM0 : mayN (numF d x3 x4 x5 x6 x7 x8 i) (numF e y3 y4 y5 y6 y7 y8 i) (us user) = mayN z1 z2 (us user) := by rw [Hz1.out, Hz2.out]
          have GM := Lib.hid (GM0.trans gm)
          clear gm GM0
          go_upto_region 6 with (fail)
          go_region_held3 (fun w' => w'.cell? ⟨g8, i, none⟩ = some (.int .i64 z1) ∧ w'.cell? ⟨g9, i, none⟩ = some (.int .i64 z2)) (first | exact ⟨c8, c9⟩ | go_keep)
            ((go_at_call 32; refine (HA3.out _).mono ?_; rintro e1 w' ⟨rfl, rfl⟩))
          go_wp2
          first
            | (go_ret
               exact ⟨.inr ⟨(fun h => by have := h.nums i hlt; rw [GM.out] at this; cases this), rfl⟩, HW2.out.trans ((HB3.out.trans (BW.out.drew.mono HB3.out.size)).mono HSz.out)⟩)
            | (go_roundg (7 - (i + 1))
               case measure => omega
               case rel =>
                 refine ⟨i + 1, by omega, by omega, by go_num, Lib.hid BW.out.drew, Lib.hid (fun j hj => ?_)⟩
                 by_cases e : j = i
                 · subst e; exact GM.out
                 · exact A.out j (by omega))
      · have hltz : ¬ (i : Int) < 7 := by omega
        have HBr := Lib.hid (HB3.out.trans (BW.out.mono HB3.out.size))
        clear BW HB3 H8 H9
        go_wp2
        go_loopg [11, 12] (nK + mK) (fun gg s11 s12 wr => ∃ jj : Nat, jj ≤ nK + mK ∧ nK + mK - jj ≤ gg ∧ s11 = .int .i64 jj ∧ Hid (Below w2.heap.size w2 wr) ∧ Hid (∀ j, j < jj → ∀ k, (kinds K nK ++ kinds M mK)[j]? = some k → mayN (nd k) (ne k) (us user) = true))
        case atStart => exact ⟨0, Nat.zero_le _, by omega, rfl, HBr, Lib.hid (fun j hj => absurd hj (Nat.not_lt_zero _))⟩
        case round =>
          clear HBr
          obtain ⟨jj, hjj, hg2, rfl, HBr, A2⟩ := hrel
          have T1 := HT1.out.below HBr.out
          have T2 := HT2.out.below HBr.out
          have k0 := T1.cell (i := 0) rfl
          have k1 := T1.cell (i := 1) rfl
          have k2 := T1.cell (i := 2) rfl
          have k3 := T1.cell (i := 3) rfl
          have k4 := T1.cell (i := 4) rfl
          have k5 := T1.cell (i := 5) rfl
          have k6 := T1.cell (i := 6) rfl
          have k7 := T1.cell (i := 7) rfl
          have k8 := T1.cell (i := 8) rfl
          have q0 := T2.cell (i := 0) rfl
          have q1 := T2.cell (i := 1) rfl
          have q2 := T2.cell (i := 2) rfl
          have q3 := T2.cell (i := 3) rfl
          have q4 := T2.cell (i := 4) rfl
          have q5 := T2.cell (i := 5) rfl
          have q6 := T2.cell (i := 6) rfl
          have q7 := T2.cell (i := 7) rfl
          have q8 := T2.cell (i := 8) rfl
          clear T1 T2
          by_cases hlt2 : jj < nK + mK
          · have hltz2 : (jj : Int) < (nK : Int) + (mK : Int) := by omega
            by_cases hjk : jj < nK
            · have hjz : (jj : Int) < (nK : Int) := by omega
              obtain ⟨gk, ok, rfl, cy, cn⟩ := (HK2.out.below HBr.out).kind (j := jj) (by omega)
              generalize hky : (K (jj)).1 = k at cy
              have HYj := Lib.hid (show (kinds K nK ++ kinds M mK)[jj]? = some k by rw [List.getElem?_append_left (by rw [kinds_len]; omega), kinds_get K (by omega), hky])
              clear hky cn
              go_upto_region 15 with (fail)
              clear cy
              have HB := Lib.hid (Below.refl wr.heap.size wr)
              have HA3 := Lib.hid (fun w => may32 (nd k) (ne k) (us user) w)
              cases gm : mayN (nd k) (ne k) (us user)
              all_goals
                rw [gm] at HA3
                have GM := Lib.hid gm
                clear gm
                go_region_held3 (fun w' => w'.cell? ⟨b1, 0, none⟩ = some (.slice uA n uC) ∧ w'.cell? ⟨b1, 1, none⟩ = some (.slice (some ⟨gk, ok, none⟩) nK kC) ∧ w'.cell? ⟨b1, 2, none⟩ = some (.int .i64 d) ∧ w'.cell? ⟨b1, 3, none⟩ = some (.int .i64 x3) ∧ w'.cell? ⟨b1, 4, none⟩ = some (.int .i64 x4) ∧ w'.cell? ⟨b1, 5, none⟩ = some (.int .i64 x5) ∧ w'.cell? ⟨b1, 6, none⟩ = some (.int .i64 x6) ∧ w'.cell? ⟨b1, 7, none⟩ = some (.int .i64 x7) ∧ w'.cell? ⟨b1, 8, none⟩ = some (.int .i64 x8) ∧ w'.cell? ⟨b2, 0, none⟩ = some (.slice vA m vC) ∧ w'.cell? ⟨b2, 1, none⟩ = some (.slice lA mK lC) ∧ w'.cell? ⟨b2, 2, none⟩ = some (.int .i64 e) ∧ w'.cell? ⟨b2, 3, none⟩ = some (.int .i64 y3) ∧ w'.cell? ⟨b2, 4, none⟩ = some (.int .i64 y4) ∧ w'.cell? ⟨b2, 5, none⟩ = some (.int .i64 y5) ∧ w'.cell? ⟨b2, 6, none⟩ = some (.int .i64 y6) ∧ w'.cell? ⟨b2, 7, none⟩ = some (.int .i64 y7) ∧ w'.cell? ⟨b2, 8, none⟩ = some (.int .i64 y8)) (first | exact ⟨k0, k1, k2, k3, k4, k5, k6, k7, k8, q0, q1, q2, q3, q4, q5, q6, q7, q8⟩ | go_keep)
                  (first
                    | (go_at_call 14; (with_reducible refine (needs14 uA n uC (some ⟨gk, ok, none⟩) nK kC K d x3 x4 x5 x6 x7 x8 k (nd k) _ (HK2.out.below (HBr.out.trans (HB.out.drew.mono HBr.out.size))) (HND.out k)).mono ?_); rintro e0 w3 ⟨rfl, hb3⟩; (first | have HBb := Lib.hid (HB.out.trans (hb3.mono HB.out.size)) | have HBb := Lib.hid (HB.out.drew.trans (hb3.mono HB.out.size))); clear HB; have HB := Lib.hid HBb.out; clear HBb hb3; have HBc := Lib.hid (HBr.out.trans (HB.out.mono HBr.out.size)); clear k0 k1 k2 k3 k4 k5 k6 k7 k8 q0 q1 q2 q3 q4 q5 q6 q7 q8; have T1 := HT1.out.below HBc.out; have T2 := HT2.out.below HBc.out; have k0 := T1.cell (i := 0) rfl; have k1 := T1.cell (i := 1) rfl; have k2 := T1.cell (i := 2) rfl; have k3 := T1.cell (i := 3) rfl; have k4 := T1.cell (i := 4) rfl; have k5 := T1.cell (i := 5) rfl; have k6 := T1.cell (i := 6) rfl; have k7 := T1.cell (i := 7) rfl; have k8 := T1.cell (i := 8) rfl; have q0 := T2.cell (i := 0) rfl; have q1 := T2.cell (i := 1) rfl; have q2 := T2.cell (i := 2) rfl; have q3 := T2.cell (i := 3) rfl; have q4 := T2.cell (i := 4) rfl; have q5 := T2.cell (i := 5) rfl; have q6 := T2.cell (i := 6) rfl; have q7 := T2.cell (i := 7) rfl; have q8 := T2.cell (i := 8) rfl; clear T1 T2 HBc)
                    | (go_at_call 14; (with_reducible refine (needs14 uA n uC (some ⟨gk, ok, none⟩) nK kC K d x3 x4 x5 x6 x7 x8 k (nd k) _ (HK2.out.below (HBr.out.trans (HB.out.mono HBr.out.size))) (HND.out k)).mono ?_); rintro e0 w3 ⟨rfl, hb3⟩; (first | have HBb := Lib.hid (HB.out.trans (hb3.mono HB.out.size)) | have HBb := Lib.hid (HB.out.drew.trans (hb3.mono HB.out.size))); clear HB; have HB := Lib.hid HBb.out; clear HBb hb3; have HBc := Lib.hid (HBr.out.trans (HB.out.mono HBr.out.size)); clear k0 k1 k2 k3 k4 k5 k6 k7 k8 q0 q1 q2 q3 q4 q5 q6 q7 q8; have T1 := HT1.out.below HBc.out; have T2 := HT2.out.below HBc.out; have k0 := T1.cell (i := 0) rfl; have k1 := T1.cell (i := 1) rfl; have k2 := T1.cell (i := 2) rfl; have k3 := T1.cell (i := 3) rfl; have k4 := T1.cell (i := 4) rfl; have k5 := T1.cell (i := 5) rfl; have k6 := T1.cell (i := 6) rfl; have k7 := T1.cell (i := 7) rfl; have k8 := T1.cell (i := 8) rfl; have q0 := T2.cell (i := 0) rfl; have q1 := T2.cell (i := 1) rfl; have q2 := T2.cell (i := 2) rfl; have q3 := T2.cell (i := 3) rfl; have q4 := T2.cell (i := 4) rfl; have q5 := T2.cell (i := 5) rfl; have q6 := T2.cell (i := 6) rfl; have q7 := T2.cell (i := 7) rfl; have q8 := T2.cell (i := 8) rfl; clear T1 T2 HBc)
                    | (go_at_call 14; (with_reducible refine (needs14 vA m vC lA mK lC M e y3 y4 y5 y6 y7 y8 k (ne k) _ (HM2.out.below (HBr.out.trans (HB.out.drew.mono HBr.out.size))) (HNE.out k)).mono ?_); rintro e0 w3 ⟨rfl, hb3⟩; (first | have HBb := Lib.hid (HB.out.trans (hb3.mono HB.out.size)) | have HBb := Lib.hid (HB.out.drew.trans (hb3.mono HB.out.size))); clear HB; have HB := Lib.hid HBb.out; clear HBb hb3; have HBc := Lib.hid (HBr.out.trans (HB.out.mono HBr.out.size)); clear k0 k1 k2 k3 k4 k5 k6 k7 k8 q0 q1 q2 q3 q4 q5 q6 q7 q8; have T1 := HT1.out.below HBc.out; have T2 := HT2.out.below HBc.out; have k0 := T1.cell (i := 0) rfl; have k1 := T1.cell (i := 1) rfl; have k2 := T1.cell (i := 2) rfl; have k3 := T1.cell (i := 3) rfl; have k4 := T1.cell (i := 4) rfl; have k5 := T1.cell (i := 5) rfl; have k6 := T1.cell (i := 6) rfl; have k7 := T1.cell (i := 7) rfl; have k8 := T1.cell (i := 8) rfl; have q0 := T2.cell (i := 0) rfl; have q1 := T2.cell (i := 1) rfl; have q2 := T2.cell (i := 2) rfl; have q3 := T2.cell (i := 3) rfl; have q4 := T2.cell (i := 4) rfl; have q5 := T2.cell (i := 5) rfl; have q6 := T2.cell (i := 6) rfl; have q7 := T2.cell (i := 7) rfl; have q8 := T2.cell (i := 8) rfl; clear T1 T2 HBc)
                    | (go_at_call 14; (with_reducible refine (needs14 vA m vC lA mK lC M e y3 y4 y5 y6 y7 y8 k (ne k) _ (HM2.out.below (HBr.out.trans (HB.out.mono HBr.out.size))) (HNE.out k)).mono ?_); rintro e0 w3 ⟨rfl, hb3⟩; (first | have HBb := Lib.hid (HB.out.trans (hb3.mono HB.out.size)) | have HBb := Lib.hid (HB.out.drew.trans (hb3.mono HB.out.size))); clear HB; have HB := Lib.hid HBb.out; clear HBb hb3; have HBc := Lib.hid (HBr.out.trans (HB.out.mono HBr.out.size)); clear k0 k1 k2 k3 k4 k5 k6 k7 k8 q0 q1 q2 q3 q4 q5 q6 q7 q8; have T1 := HT1.out.below HBc.out; have T2 := HT2.out.below HBc.out; have k0 := T1.cell (i := 0) rfl; have k1 := T1.cell (i := 1) rfl; have k2 := T1.cell (i := 2) rfl; have k3 := T1.cell (i := 3) rfl; have k4 := T1.cell (i := 4) rfl; have k5 := T1.cell (i := 5) rfl; have k6 := T1.cell (i := 6) rfl; have k7 := T1.cell (i := 7) rfl; have k8 := T1.cell (i := 8) rfl; have q0 := T2.cell (i := 0) rfl; have q1 := T2.cell (i := 1) rfl; have q2 := T2.cell (i := 2) rfl; have q3 := T2.cell (i := 3) rfl; have q4 := T2.cell (i := 4) rfl; have q5 := T2.cell (i := 5) rfl; have q6 := T2.cell (i := 6) rfl; have q7 := T2.cell (i := 7) rfl; have q8 := T2.cell (i := 8) rfl; clear T1 T2 HBc)
                    | (go_at_call 32; refine (HA3.out _).mono ?_; rintro e1 w' ⟨rfl, rfl⟩))
                clear k0 k1 k2 k3 k4 k5 k6 k7 k8 q0 q1 q2 q3 q4 q5 q6 q7 q8
                go_wp2
                first
                  | (go_ret
                     exact ⟨.inr ⟨(fun h => by have := h.kinds k (List.mem_of_getElem? HYj.out); rw [GM.out] at this; cases this), rfl⟩, HW2.out.trans ((HBr.out.trans (HB.out.mono HBr.out.size)).mono HSz.out)⟩)
                  | (go_roundg (nK + mK - (jj + 1))
                     case measure => omega
                     case rel =>
                       refine ⟨jj + 1, by omega, by omega, by go_num, Lib.hid (HBr.out.trans (HB.out.mono HBr.out.size)), Lib.hid (fun j hj x hx => ?_)⟩
                       by_cases e : j = jj
                       · subst e; rw [HYj.out] at hx; cases hx; exact GM.out
                       · exact A2.out j (by omega) x hx)
            · have hjz : ¬ (jj : Int) < (nK : Int) := by omega
              have hsub : (jj : Int) - (nK : Int) = ((jj - nK : Nat) : Int) := by omega
              obtain ⟨gk, ok, rfl, cy, cn⟩ := (HM2.out.below HBr.out).kind (j := jj - nK) (by omega)
              generalize hky : (M (jj - nK)).1 = k at cy
              have HYj := Lib.hid (show (kinds K nK ++ kinds M mK)[jj]? = some k by rw [List.getElem?_append_right (by rw [kinds_len]; omega), kinds_len, kinds_get M (by omega), hky])
              clear hky cn
              go_upto_region 15 with (fail)
              clear cy
              have HB := Lib.hid (Below.refl wr.heap.size wr)
              have HA3 := Lib.hid (fun w => may32 (nd k) (ne k) (us user) w)
              cases gm : mayN (nd k) (ne k) (us user)
              all_goals
                rw [gm] at HA3
                have GM := Lib.hid gm
                clear gm
                go_region_held3 (fun w' => w'.cell? ⟨b1, 0, none⟩ = some (.slice uA n uC) ∧ w'.cell? ⟨b1, 1, none⟩ = some (.slice kA nK kC) ∧ w'.cell? ⟨b1, 2, none⟩ = some (.int .i64 d) ∧ w'.cell? ⟨b1, 3, none⟩ = some (.int .i64 x3) ∧ w'.cell? ⟨b1, 4, none⟩ = some (.int .i64 x4) ∧ w'.cell? ⟨b1, 5, none⟩ = some (.int .i64 x5) ∧ w'.cell? ⟨b1, 6, none⟩ = some (.int .i64 x6) ∧ w'.cell? ⟨b1, 7, none⟩ = some (.int .i64 x7) ∧ w'.cell? ⟨b1, 8, none⟩ = some (.int .i64 x8) ∧ w'.cell? ⟨b2, 0, none⟩ = some (.slice vA m vC) ∧ w'.cell? ⟨b2, 1, none⟩ = some (.slice (some ⟨gk, ok, none⟩) mK lC) ∧ w'.cell? ⟨b2, 2, none⟩ = some (.int .i64 e) ∧ w'.cell? ⟨b2, 3, none⟩ = some (.int .i64 y3) ∧ w'.cell? ⟨b2, 4, none⟩ = some (.int .i64 y4) ∧ w'.cell? ⟨b2, 5, none⟩ = some (.int .i64 y5) ∧ w'.cell? ⟨b2, 6, none⟩ = some (.int .i64 y6) ∧ w'.cell? ⟨b2, 7, none⟩ = some (.int .i64 y7) ∧ w'.cell? ⟨b2, 8, none⟩ = some (.int .i64 y8)) (first | exact ⟨k0, k1, k2, k3, k4, k5, k6, k7, k8, q0, q1, q2, q3, q4, q5, q6, q7, q8⟩ | go_keep)
                  (first
                    | (go_at_call 14; (with_reducible refine (needs14 uA n uC kA nK kC K d x3 x4 x5 x6 x7 x8 k (nd k) _ (HK2.out.below (HBr.out.trans (HB.out.drew.mono HBr.out.size))) (HND.out k)).mono ?_); rintro e0 w3 ⟨rfl, hb3⟩; (first | have HBb := Lib.hid (HB.out.trans (hb3.mono HB.out.size)) | have HBb := Lib.hid (HB.out.drew.trans (hb3.mono HB.out.size))); clear HB; have HB := Lib.hid HBb.out; clear HBb hb3; have HBc := Lib.hid (HBr.out.trans (HB.out.mono HBr.out.size)); clear k0 k1 k2 k3 k4 k5 k6 k7 k8 q0 q1 q2 q3 q4 q5 q6 q7 q8; have T1 := HT1.out.below HBc.out; have T2 := HT2.out.below HBc.out; have k0 := T1.cell (i := 0) rfl; have k1 := T1.cell (i := 1) rfl; have k2 := T1.cell (i := 2) rfl; have k3 := T1.cell (i := 3) rfl; have k4 := T1.cell (i := 4) rfl; have k5 := T1.cell (i := 5) rfl; have k6 := T1.cell (i := 6) rfl; have k7 := T1.cell (i := 7) rfl; have k8 := T1.cell (i := 8) rfl; have q0 := T2.cell (i := 0) rfl; have q1 := T2.cell (i := 1) rfl; have q2 := T2.cell (i := 2) rfl; have q3 := T2.cell (i := 3) rfl; have q4 := T2.cell (i := 4) rfl; have q5 := T2.cell (i := 5) rfl; have q6 := T2.cell (i := 6) rfl; have q7 := T2.cell (i := 7) rfl; have q8 := T2.cell (i := 8) rfl; clear T1 T2 HBc)
                    | (go_at_call 14; (with_reducible refine (needs14 uA n uC kA nK kC K d x3 x4 x5 x6 x7 x8 k (nd k) _ (HK2.out.below (HBr.out.trans (HB.out.mono HBr.out.size))) (HND.out k)).mono ?_); rintro e0 w3 ⟨rfl, hb3⟩; (first | have HBb := Lib.hid (HB.out.trans (hb3.mono HB.out.size)) | have HBb := Lib.hid (HB.out.drew.trans (hb3.mono HB.out.size))); clear HB; have HB := Lib.hid HBb.out; clear HBb hb3; have HBc := Lib.hid (HBr.out.trans (HB.out.mono HBr.out.size)); clear k0 k1 k2 k3 k4 k5 k6 k7 k8 q0 q1 q2 q3 q4 q5 q6 q7 q8; have T1 := HT1.out.below HBc.out; have T2 := HT2.out.below HBc.out; have k0 := T1.cell (i := 0) rfl; have k1 := T1.cell (i := 1) rfl; have k2 := T1.cell (i := 2) rfl; have k3 := T1.cell (i := 3) rfl; have k4 := T1.cell (i := 4) rfl; have k5 := T1.cell (i := 5) rfl; have k6 := T1.cell (i := 6) rfl; have k7 := T1.cell (i := 7) rfl; have k8 := T1.cell (i := 8) rfl; have q0 := T2.cell (i := 0) rfl; have q1 := T2.cell (i := 1) rfl; have q2 := T2.cell (i := 2) rfl; have q3 := T2.cell (i := 3) rfl; have q4 := T2.cell (i := 4) rfl; have q5 := T2.cell (i := 5) rfl; have q6 := T2.cell (i := 6) rfl; have q7 := T2.cell (i := 7) rfl; have q8 := T2.cell (i := 8) rfl; clear T1 T2 HBc)
                    | (go_at_call 14; (with_reducible refine (needs14 vA m vC (some ⟨gk, ok, none⟩) mK lC M e y3 y4 y5 y6 y7 y8 k (ne k) _ (HM2.out.below (HBr.out.trans (HB.out.drew.mono HBr.out.size))) (HNE.out k)).mono ?_); rintro e0 w3 ⟨rfl, hb3⟩; (first | have HBb := Lib.hid (HB.out.trans (hb3.mono HB.out.size)) | have HBb := Lib.hid (HB.out.drew.trans (hb3.mono HB.out.size))); clear HB; have HB := Lib.hid HBb.out; clear HBb hb3; have HBc := Lib.hid (HBr.out.trans (HB.out.mono HBr.out.size)); clear k0 k1 k2 k3 k4 k5 k6 k7 k8 q0 q1 q2 q3 q4 q5 q6 q7 q8; have T1 := HT1.out.below HBc.out; have T2 := HT2.out.below HBc.out; have k0 := T1.cell (i := 0) rfl; have k1 := T1.cell (i := 1) rfl; have k2 := T1.cell (i := 2) rfl; have k3 := T1.cell (i := 3) rfl; have k4 := T1.cell (i := 4) rfl; have k5 := T1.cell (i := 5) rfl; have k6 := T1.cell (i := 6) rfl; have k7 := T1.cell (i := 7) rfl; have k8 := T1.cell (i := 8) rfl; have q0 := T2.cell (i := 0) rfl; have q1 := T2.cell (i := 1) rfl; have q2 := T2.cell (i := 2) rfl; have q3 := T2.cell (i := 3) rfl; have q4 := T2.cell (i := 4) rfl; have q5 := T2.cell (i := 5) rfl; have q6 := T2.cell (i := 6) rfl; have q7 := T2.cell (i := 7) rfl; have q8 := T2.cell (i := 8) rfl; clear T1 T2 HBc)
                    | (go_at_call 14; (with_reducible refine (needs14 vA m vC (some ⟨gk, ok, none⟩) mK lC M e y3 y4 y5 y6 y7 y8 k (ne k) _ (HM2.out.below (HBr.out.trans (HB.out.mono HBr.out.size))) (HNE.out k)).mono ?_); rintro e0 w3 ⟨rfl, hb3⟩; (first | have HBb := Lib.hid (HB.out.trans (hb3.mono HB.out.size)) | have HBb := Lib.hid (HB.out.drew.trans (hb3.mono HB.out.size))); clear HB; have HB := Lib.hid HBb.out; clear HBb hb3; have HBc := Lib.hid (HBr.out.trans (HB.out.mono HBr.out.size)); clear k0 k1 k2 k3 k4 k5 k6 k7 k8 q0 q1 q2 q3 q4 q5 q6 q7 q8; have T1 := HT1.out.below HBc.out; have T2 := HT2.out.below HBc.out; have k0 := T1.cell (i := 0) rfl; have k1 := T1.cell (i := 1) rfl; have k2 := T1.cell (i := 2) rfl; have k3 := T1.cell (i := 3) rfl; have k4 := T1.cell (i := 4) rfl; have k5 := T1.cell (i := 5) rfl; have k6 := T1.cell (i := 6) rfl; have k7 := T1.cell (i := 7) rfl; have k8 := T1.cell (i := 8) rfl; have q0 := T2.cell (i := 0) rfl; have q1 := T2.cell (i := 1) rfl; have q2 := T2.cell (i := 2) rfl; have q3 := T2.cell (i := 3) rfl; have q4 := T2.cell (i := 4) rfl; have q5 := T2.cell (i := 5) rfl; have q6 := T2.cell (i := 6) rfl; have q7 := T2.cell (i := 7) rfl; have q8 := T2.cell (i := 8) rfl; clear T1 T2 HBc)
                    | (go_at_call 32; refine (HA3.out _).mono ?_; rintro e1 w' ⟨rfl, rfl⟩))
                clear k0 k1 k2 k3 k4 k5 k6 k7 k8 q0 q1 q2 q3 q4 q5 q6 q7 q8
                go_wp2
                first
                  | (go_ret
                     exact ⟨.inr ⟨(fun h => by have := h.kinds k (List.mem_of_getElem? HYj.out); rw [GM.out] at this; cases this), rfl⟩, HW2.out.trans ((HBr.out.trans (HB.out.mono HBr.out.size)).mono HSz.out)⟩)
                  | (go_roundg (nK + mK - (jj + 1))
                     case measure => omega
                     case rel =>
                       refine ⟨jj + 1, by omega, by omega, by go_num, Lib.hid (HBr.out.trans (HB.out.mono HBr.out.size)), Lib.hid (fun j hj x hx => ?_)⟩
                       by_cases e : j = jj
                       · subst e; rw [HYj.out] at hx; cases hx; exact GM.out
                       · exact A2.out j (by omega) x hx)
          · have hltz2 : ¬ (jj : Int) < (nK : Int) + (mK : Int) := by omega
            have HKi := Lib.hid (fun (k : Int) (hk : k ∈ kinds K nK ++ kinds M mK) => by
              obtain ⟨j, hj, e⟩ := List.getElem_of_mem hk
              exact A2.out j (by rw [List.length_append, kinds_len, kinds_len] at hj; omega) k (by rw [List.getElem?_eq_getElem hj, e]))
            have HNi := Lib.hid (fun (j : Nat) (hj : j < 7) => A.out j (by omega))
            clear A2 A
            go_wp2
            clear k0 k1 k2 k3 k4 k5 k6 k7 k8 q0 q1 q2 q3 q4 q5 q6 q7 q8
            go_loopg [13] n (fun gg s13 wr => ∃ jj : Nat, jj ≤ n ∧ n - jj ≤ gg ∧ s13 = .int .i64 jj ∧ Hid (Below w2.heap.size w2 wr) ∧ Hid (∀ j, j < jj → goodU us vs user (U j).1 = true))
            case atStart => exact ⟨0, Nat.zero_le _, by omega, rfl, HBr, Lib.hid (fun j hj => absurd hj (Nat.not_lt_zero _))⟩
            case round =>
              clear HBr
              obtain ⟨jj, hjj, hg13, rfl, HBr, Z0⟩ := hrel
              by_cases hlt : jj < n
              · have hltz : (jj : Int) < (n : Int) := by omega
                obtain ⟨gk, ok, rfl, cy, cn⟩ := (HU2.out.below HBr.out).user hlt
                generalize hky : (U jj).1 = ky at cy
                have Hky := Lib.hid hky
                clear hky cn
                have T1 := HT1.out.below HBr.out
                have T2 := HT2.out.below HBr.out
                have k0 := T1.cell (i := 0) rfl
                have k1 := T1.cell (i := 1) rfl
                have k2 := T1.cell (i := 2) rfl
                have k3 := T1.cell (i := 3) rfl
                have k4 := T1.cell (i := 4) rfl
                have k5 := T1.cell (i := 5) rfl
                have k6 := T1.cell (i := 6) rfl
                have k7 := T1.cell (i := 7) rfl
                have k8 := T1.cell (i := 8) rfl
                have q0 := T2.cell (i := 0) rfl
                have q1 := T2.cell (i := 1) rfl
                have q2 := T2.cell (i := 2) rfl
                have q3 := T2.cell (i := 3) rfl
                have q4 := T2.cell (i := 4) rfl
                have q5 := T2.cell (i := 5) rfl
                have q6 := T2.cell (i := 6) rfl
                have q7 := T2.cell (i := 7) rfl
                have q8 := T2.cell (i := 8) rfl
                clear T1 T2
                go_upto_region 20 with (fail)
                have HB := Lib.hid (Below.refl wr.heap.size wr)
                have HA3 := Lib.hid (fun w hU hV => mayUser33 (some ⟨gk, ok, none⟩) n uC kA nK kC d x3 x4 x5 x6 x7 x8 vA m vC lA mK lC e y3 y4 y5 y6 y7 y8 U V ky user (us user) (us ky) (vs ky) w hU hV (HO.out user) (HO.out ky) (HP.out ky))
                cases gm : mayU (ky.toList == user.toList) (us ky) (vs ky) (us user)
                all_goals
                  rw [gm] at HA3
                  have GM0 : goodU us vs user (U jj).1 = mayU (ky.toList == user.toList) (us ky) (vs ky) (us user) := by rw [Hky.out]; rfl
                  have GM := Lib.hid (GM0.trans gm)
                  clear gm GM0
                  go_region_held3 (fun w' => w'.cell? ⟨b1, 0, none⟩ = some (.slice (some ⟨gk, ok, none⟩) n uC) ∧ w'.cell? ⟨b1, 1, none⟩ = some (.slice kA nK kC) ∧ w'.cell? ⟨b1, 2, none⟩ = some (.int .i64 d) ∧ w'.cell? ⟨b1, 3, none⟩ = some (.int .i64 x3) ∧ w'.cell? ⟨b1, 4, none⟩ = some (.int .i64 x4) ∧ w'.cell? ⟨b1, 5, none⟩ = some (.int .i64 x5) ∧ w'.cell? ⟨b1, 6, none⟩ = some (.int .i64 x6) ∧ w'.cell? ⟨b1, 7, none⟩ = some (.int .i64 x7) ∧ w'.cell? ⟨b1, 8, none⟩ = some (.int .i64 x8) ∧ w'.cell? ⟨b2, 0, none⟩ = some (.slice vA m vC) ∧ w'.cell? ⟨b2, 1, none⟩ = some (.slice lA mK lC) ∧ w'.cell? ⟨b2, 2, none⟩ = some (.int .i64 e) ∧ w'.cell? ⟨b2, 3, none⟩ = some (.int .i64 y3) ∧ w'.cell? ⟨b2, 4, none⟩ = some (.int .i64 y4) ∧ w'.cell? ⟨b2, 5, none⟩ = some (.int .i64 y5) ∧ w'.cell? ⟨b2, 6, none⟩ = some (.int .i64 y6) ∧ w'.cell? ⟨b2, 7, none⟩ = some (.int .i64 y7) ∧ w'.cell? ⟨b2, 8, none⟩ = some (.int .i64 y8) ∧ w'.cell? ⟨gk, ok + jj * 2, none⟩ = some (.string ky)) (first | exact ⟨k0, k1, k2, k3, k4, k5, k6, k7, k8, q0, q1, q2, q3, q4, q5, q6, q7, q8, cy⟩ | go_keep)
                    (first
                      | (go_at_call 33; (with_reducible refine (HA3.out _ (HU2.out.below (HBr.out.trans (HB.out.drew.mono HBr.out.size))) (HV2.out.below (HBr.out.trans (HB.out.drew.mono HBr.out.size)))).mono ?_); rintro e0 w3 ⟨rfl, hb3⟩; have cy2 := ((HB.out.drew.trans (hb3.mono HB.out.size)).cell (p := ⟨gk, ok + jj * 2, none⟩) (World.block_lt_of_cell? _ _ cy)).trans cy; (first | have HBb := Lib.hid (HB.out.trans (hb3.mono HB.out.size)) | have HBb := Lib.hid (HB.out.drew.trans (hb3.mono HB.out.size))); clear HB; have HB := Lib.hid HBb.out; clear HBb hb3; have HBc := Lib.hid (HBr.out.trans (HB.out.mono HBr.out.size)); clear k0 k1 k2 k3 k4 k5 k6 k7 k8 q0 q1 q2 q3 q4 q5 q6 q7 q8; have T1 := HT1.out.below HBc.out; have T2 := HT2.out.below HBc.out; have k0 := T1.cell (i := 0) rfl; have k1 := T1.cell (i := 1) rfl; have k2 := T1.cell (i := 2) rfl; have k3 := T1.cell (i := 3) rfl; have k4 := T1.cell (i := 4) rfl; have k5 := T1.cell (i := 5) rfl; have k6 := T1.cell (i := 6) rfl; have k7 := T1.cell (i := 7) rfl; have k8 := T1.cell (i := 8) rfl; have q0 := T2.cell (i := 0) rfl; have q1 := T2.cell (i := 1) rfl; have q2 := T2.cell (i := 2) rfl; have q3 := T2.cell (i := 3) rfl; have q4 := T2.cell (i := 4) rfl; have q5 := T2.cell (i := 5) rfl; have q6 := T2.cell (i := 6) rfl; have q7 := T2.cell (i := 7) rfl; have q8 := T2.cell (i := 8) rfl; clear T1 T2 HBc; clear cy; have cy := cy2; clear cy2))
                  clear k0 k1 k2 k3 k4 k5 k6 k7 k8 q0 q1 q2 q3 q4 q5 q6 q7 q8 cy
                  go_wp2
                  first
                    | (go_ret
                       exact ⟨.inr ⟨(fun h => by have := h.users.1 jj hlt; rw [GM.out] at this; cases this), rfl⟩, HW2.out.trans ((HBr.out.trans (HB.out.mono HBr.out.size)).mono HSz.out)⟩)
                    | (go_roundg (n - (jj + 1))
                       case measure => omega
                       case rel =>
                         refine ⟨jj + 1, by omega, by omega, by go_num, Lib.hid (HBr.out.trans (HB.out.mono HBr.out.size)), Lib.hid (fun j hj => ?_)⟩
                         by_cases e : j = jj
                         · subst e; exact GM.out
                         · exact Z0.out j (by omega))
              · have hltz : ¬ (jj : Int) < (n : Int) := by omega
                obtain rfl : n = jj := by omega
                have i0 := (HT1.out.below HBr.out).cell (i := 0) rfl
                go_wp2
                clear i0
                go_loopg [14] m (fun gg s14 wr => ∃ jj : Nat, jj ≤ m ∧ m - jj ≤ gg ∧ s14 = .int .i64 jj ∧ Hid (Below w2.heap.size w2 wr) ∧ Hid (∀ j, j < jj → goodU us vs user (V j).1 = true))
                case atStart => exact ⟨0, Nat.zero_le _, by omega, rfl, HBr, Lib.hid (fun j hj => absurd hj (Nat.not_lt_zero _))⟩
                case round =>
                  clear HBr
                  obtain ⟨jj, hjj, hg14, rfl, HBr, Z1⟩ := hrel
                  by_cases hlt : jj < m
                  · have hltz : (jj : Int) < (m : Int) := by omega
                    obtain ⟨gk, ok, rfl, cy, cn⟩ := (HV2.out.below HBr.out).user hlt
                    generalize hky : (V jj).1 = ky at cy
                    have Hky := Lib.hid hky
                    clear hky cn
                    have T1 := HT1.out.below HBr.out
                    have T2 := HT2.out.below HBr.out
                    have k0 := T1.cell (i := 0) rfl
                    have k1 := T1.cell (i := 1) rfl
                    have k2 := T1.cell (i := 2) rfl
                    have k3 := T1.cell (i := 3) rfl
                    have k4 := T1.cell (i := 4) rfl
                    have k5 := T1.cell (i := 5) rfl
                    have k6 := T1.cell (i := 6) rfl
                    have k7 := T1.cell (i := 7) rfl
                    have k8 := T1.cell (i := 8) rfl
                    have q0 := T2.cell (i := 0) rfl
                    have q1 := T2.cell (i := 1) rfl
                    have q2 := T2.cell (i := 2) rfl
                    have q3 := T2.cell (i := 3) rfl
                    have q4 := T2.cell (i := 4) rfl
                    have q5 := T2.cell (i := 5) rfl
                    have q6 := T2.cell (i := 6) rfl
                    have q7 := T2.cell (i := 7) rfl
                    have q8 := T2.cell (i := 8) rfl
                    clear T1 T2
                    go_upto_region 25 with (fail)
                    have HB := Lib.hid (Below.refl wr.heap.size wr)
                    have HA3 := Lib.hid (fun w hU hV => mayUser33 uA n uC kA nK kC d x3 x4 x5 x6 x7 x8 (some ⟨gk, ok, none⟩) m vC lA mK lC e y3 y4 y5 y6 y7 y8 U V ky user (us user) (us ky) (vs ky) w hU hV (HO.out user) (HO.out ky) (HP.out ky))
                    cases gm : mayU (ky.toList == user.toList) (us ky) (vs ky) (us user)
                    all_goals
                      rw [gm] at HA3
                      have GM0 : goodU us vs user (V jj).1 = mayU (ky.toList == user.toList) (us ky) (vs ky) (us user) := by rw [Hky.out]; rfl
                      have GM := Lib.hid (GM0.trans gm)
                      clear gm GM0
                      go_region_held3 (fun w' => w'.cell? ⟨b1, 0, none⟩ = some (.slice uA n uC) ∧ w'.cell? ⟨b1, 1, none⟩ = some (.slice kA nK kC) ∧ w'.cell? ⟨b1, 2, none⟩ = some (.int .i64 d) ∧ w'.cell? ⟨b1, 3, none⟩ = some (.int .i64 x3) ∧ w'.cell? ⟨b1, 4, none⟩ = some (.int .i64 x4) ∧ w'.cell? ⟨b1, 5, none⟩ = some (.int .i64 x5) ∧ w'.cell? ⟨b1, 6, none⟩ = some (.int .i64 x6) ∧ w'.cell? ⟨b1, 7, none⟩ = some (.int .i64 x7) ∧ w'.cell? ⟨b1, 8, none⟩ = some (.int .i64 x8) ∧ w'.cell? ⟨b2, 0, none⟩ = some (.slice (some ⟨gk, ok, none⟩) m vC) ∧ w'.cell? ⟨b2, 1, none⟩ = some (.slice lA mK lC) ∧ w'.cell? ⟨b2, 2, none⟩ = some (.int .i64 e) ∧ w'.cell? ⟨b2, 3, none⟩ = some (.int .i64 y3) ∧ w'.cell? ⟨b2, 4, none⟩ = some (.int .i64 y4) ∧ w'.cell? ⟨b2, 5, none⟩ = some (.int .i64 y5) ∧ w'.cell? ⟨b2, 6, none⟩ = some (.int .i64 y6) ∧ w'.cell? ⟨b2, 7, none⟩ = some (.int .i64 y7) ∧ w'.cell? ⟨b2, 8, none⟩ = some (.int .i64 y8) ∧ w'.cell? ⟨gk, ok + jj * 2, none⟩ = some (.string ky)) (first | exact ⟨k0, k1, k2, k3, k4, k5, k6, k7, k8, q0, q1, q2, q3, q4, q5, q6, q7, q8, cy⟩ | go_keep)
                        (first
                          | (go_at_call 33; (with_reducible refine (HA3.out _ (HU2.out.below (HBr.out.trans (HB.out.drew.mono HBr.out.size))) (HV2.out.below (HBr.out.trans (HB.out.drew.mono HBr.out.size)))).mono ?_); rintro e0 w3 ⟨rfl, hb3⟩; have cy2 := ((HB.out.drew.trans (hb3.mono HB.out.size)).cell (p := ⟨gk, ok + jj * 2, none⟩) (World.block_lt_of_cell? _ _ cy)).trans cy; (first | have HBb := Lib.hid (HB.out.trans (hb3.mono HB.out.size)) | have HBb := Lib.hid (HB.out.drew.trans (hb3.mono HB.out.size))); clear HB; have HB := Lib.hid HBb.out; clear HBb hb3; have HBc := Lib.hid (HBr.out.trans (HB.out.mono HBr.out.size)); clear k0 k1 k2 k3 k4 k5 k6 k7 k8 q0 q1 q2 q3 q4 q5 q6 q7 q8; have T1 := HT1.out.below HBc.out; have T2 := HT2.out.below HBc.out; have k0 := T1.cell (i := 0) rfl; have k1 := T1.cell (i := 1) rfl; have k2 := T1.cell (i := 2) rfl; have k3 := T1.cell (i := 3) rfl; have k4 := T1.cell (i := 4) rfl; have k5 := T1.cell (i := 5) rfl; have k6 := T1.cell (i := 6) rfl; have k7 := T1.cell (i := 7) rfl; have k8 := T1.cell (i := 8) rfl; have q0 := T2.cell (i := 0) rfl; have q1 := T2.cell (i := 1) rfl; have q2 := T2.cell (i := 2) rfl; have q3 := T2.cell (i := 3) rfl; have q4 := T2.cell (i := 4) rfl; have q5 := T2.cell (i := 5) rfl; have q6 := T2.cell (i := 6) rfl; have q7 := T2.cell (i := 7) rfl; have q8 := T2.cell (i := 8) rfl; clear T1 T2 HBc; clear cy; have cy := cy2; clear cy2))
                      clear k0 k1 k2 k3 k4 k5 k6 k7 k8 q0 q1 q2 q3 q4 q5 q6 q7 q8 cy
                      go_wp2
                      first
                        | (go_ret
                           exact ⟨.inr ⟨(fun h => by have := h.users.2 jj hlt; rw [GM.out] at this; cases this), rfl⟩, HW2.out.trans ((HBr.out.trans (HB.out.mono HBr.out.size)).mono HSz.out)⟩)
                        | (go_roundg (m - (jj + 1))
                           case measure => omega
                           case rel =>
                             refine ⟨jj + 1, by omega, by omega, by go_num, Lib.hid (HBr.out.trans (HB.out.mono HBr.out.size)), Lib.hid (fun j hj => ?_)⟩
                             by_cases e : j = jj
                             · subst e; exact GM.out
                             · exact Z1.out j (by omega))
                  · have hltz : ¬ (jj : Int) < (m : Int) := by omega
                    obtain rfl : m = jj := by omega
                    have i0 := (HT2.out.below HBr.out).cell (i := 0) rfl
                    go_wp2
                    go_ret
                    exact ⟨.inl ⟨⟨HNi.out, HKi.out, ⟨fun j hj => Z0.out j hj, fun j hj => Z1.out j hj⟩⟩, rfl⟩, HW2.out.trans (HBr.out.mono HSz.out)⟩
end Go.Proofs.Ythhmbcelicfopaa
