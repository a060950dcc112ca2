/- levels.Change: its walk. -/
import Derived.Test.YthhmbcelicfopaaN6
import Derived.Test.YthhmbcelicfopaaG7
namespace Go.Proofs.Ythhmbcelicfopaa
open Go.RowKit
set_option linter.unusedVariables false

theorem alloc60 (w : World) : (Instr.alloc 60 true (.tuple #[])).run Try.prog w = .ok (.pointer (some ⟨w.heap.size, 0, none⟩)) (w.alloc (.cells (nums 0 0 0 0 0 0 0).toArray 60)) := by kernel_rfl
theorem nums_one (d x3 x4 x5 x6 x7 x8 : Int) : (nums d x3 x4 x5 x6 x7 x8).toArray.all (·.oneCell') = true := by simp [Value.oneCell']
theorem numbers29x (uA : Option Addr) (n uC : Nat) (kA : Option Addr) (nK kC : Nat) (d x3 x4 x5 x6 x7 x8 : Int) (w : World) :
    Calls Try.prog 29 #[.agg (lvc uA n uC kA nK kC d x3 x4 x5 x6 x7 x8).toArray] w fun e w' => e = .returned (.agg (nums d x3 x4 x5 x6 x7 x8).toArray) ∧ (w.alloc (.cells (lvc uA n uC kA nK kC d x3 x4 x5 x6 x7 x8).toArray 25)).alloc (.cells (nums d x3 x4 x5 x6 x7 x8).toArray 60) = w' := by
  have HB := Lib.hid (alloc2_blk w (.cells (lvc uA n uC kA nK kC d x3 x4 x5 x6 x7 x8).toArray 25) (nums d x3 x4 x5 x6 x7 x8) 60)
  show Calls Try.prog 29 #[.agg #[.slice uA n uC, .slice kA nK kC, .int .i64 d, .int .i64 x3, .int .i64 x4, .int .i64 x5, .int .i64 x6, .int .i64 x7, .int .i64 x8]] w _
  go_enter Try.func29, Try.ntmps29
  go_wp2
  (try simp only [Exit.inBlock, Exit.then])
  refine bodyPost_ret (results_cell_mid rfl _ _ (w.heap.size + 1) (nums d x3 x4 x5 x6 x7 x8) 60 _ rfl HB.out Try.underlying60 rfl size60) rfl ?_
  exact ⟨rfl, rfl⟩
theorem boxesS {w' : World} {b1 b2 : Nat} {uA : Option Addr} {n uC : Nat} {kA : Option Addr} {nK kC : Nat} {d x3 x4 x5 x6 x7 x8 : Int} {vA : Option Addr} {m vC : Nat} {lA : Option Addr} {mK lC : Nat} {e y3 y4 y5 y6 y7 y8 : Int} (h1 : Blk w' b1 (lvc uA n uC kA nK kC d x3 x4 x5 x6 x7 x8) 25) (h2 : Blk w' b2 (lvc vA m vC lA mK lC e y3 y4 y5 y6 y7 y8) 25) : w'.cell? ⟨b1, 0, none⟩ = some (.slice uA n uC) ∧ w'.cell? ⟨b1, 1, none⟩ = some (.slice kA nK kC) ∧ w'.cell? ⟨b1, 2, none⟩ = some (.int .i64 d) ∧ w'.cell? ⟨b1, 3, none⟩ = some (.int .i64 x3) ∧ w'.cell? ⟨b1, 4, none⟩ = some (.int .i64 x4) ∧ w'.cell? ⟨b1, 5, none⟩ = some (.int .i64 x5) ∧ w'.cell? ⟨b1, 6, none⟩ = some (.int .i64 x6) ∧ w'.cell? ⟨b1, 7, none⟩ = some (.int .i64 x7) ∧ w'.cell? ⟨b1, 8, none⟩ = some (.int .i64 x8) ∧ w'.cell? ⟨b2, 0, none⟩ = some (.slice vA m vC) ∧ w'.cell? ⟨b2, 1, none⟩ = some (.slice lA mK lC) ∧ w'.cell? ⟨b2, 2, none⟩ = some (.int .i64 e) ∧ w'.cell? ⟨b2, 3, none⟩ = some (.int .i64 y3) ∧ w'.cell? ⟨b2, 4, none⟩ = some (.int .i64 y4) ∧ w'.cell? ⟨b2, 5, none⟩ = some (.int .i64 y5) ∧ w'.cell? ⟨b2, 6, none⟩ = some (.int .i64 y6) ∧ w'.cell? ⟨b2, 7, none⟩ = some (.int .i64 y7) ∧ w'.cell? ⟨b2, 8, none⟩ = some (.int .i64 y8) :=
  ⟨h1.cell (i := 0) rfl, h1.cell (i := 1) rfl, h1.cell (i := 2) rfl, h1.cell (i := 3) rfl, h1.cell (i := 4) rfl, h1.cell (i := 5) rfl, h1.cell (i := 6) rfl, h1.cell (i := 7) rfl, h1.cell (i := 8) rfl, h2.cell (i := 0) rfl, h2.cell (i := 1) rfl, h2.cell (i := 2) rfl, h2.cell (i := 3) rfl, h2.cell (i := 4) rfl, h2.cell (i := 5) rfl, h2.cell (i := 6) rfl, h2.cell (i := 7) rfl, h2.cell (i := 8) rfl⟩
theorem blk_at (w : World) (t : Nat) (cs : List Value) (T : TypeId) (h : t = w.heap.size) : Blk (w.alloc (.cells cs.toArray T)) t cs T := by rw [h]; exact blk_new w cs T
def numF (d x3 x4 x5 x6 x7 x8 : Int) (j : Nat) : Int := match j with | 0 => d | 1 => x3 | 2 => x4 | 3 => x5 | 4 => x6 | 5 => x7 | _ => x8
theorem numF_idx (d x3 x4 x5 x6 x7 x8 : Int) (k : Nat) (h : k < 7) (w : World) : (Instr.index 60 (.agg #[.int .i64 d, .int .i64 x3, .int .i64 x4, .int .i64 x5, .int .i64 x6, .int .i64 x7, .int .i64 x8]) (.int .i64 (k : Int))).run Try.prog w = .ok (.int .i64 (numF d x3 x4 x5 x6 x7 x8 k)) w := by
  obtain rfl | rfl | rfl | rfl | rfl | rfl | rfl : k = 0 ∨ k = 1 ∨ k = 2 ∨ k = 3 ∨ k = 4 ∨ k = 5 ∨ k = 6 := by omega
  all_goals kernel_rfl
theorem numF_get (d x3 x4 x5 x6 x7 x8 : Int) (k : Nat) (h : k < 7) : (nums d x3 x4 x5 x6 x7 x8)[k]? = some (.int .i64 (numF d x3 x4 x5 x6 x7 x8 k)) := by
  obtain rfl | rfl | rfl | rfl | rfl | rfl | rfl : k = 0 ∨ k = 1 ∨ k = 2 ∨ k = 3 ∨ k = 4 ∨ k = 5 ∨ k = 6 := by omega
  all_goals rfl
/-- May the levels change so? -/
structure ChOK (n m nK mK : Nat) (U V : Nat → ByteArray × Int) (K M : Nat → Int × Int) (us vs : ByteArray → Int) (nd ne : Int → Int) (f g : Nat → Int) (user : ByteArray) : Prop where
  nums : ∀ j, j < 7 → mayN (f j) (g j) (us user) = true
  kinds : ∀ k ∈ kinds K nK ++ kinds M mK, mayN (nd k) (ne k) (us user) = true
  users : UsersOK n m U V us vs user
def ChPost (w : World) (OK : Prop) (e : Ending) (w' : World) : Prop := ((OK ∧ e = .returned (.int .i64 0)) ∨ (¬ OK ∧ e = .returned (.int .i64 20))) ∧ Below w.heap.size w w'
theorem kindsOf30L (g : Nat) (kA : Option Addr) (nK kC : Nat) (K : Nat → Int × Int) (lA : Option Addr) (mK lC : Nat) (M : Nat → Int × Int) (ys : List Int) (ln : Nat) (hys : kinds K nK ++ kinds M mK = ys) (hl : ys.length = ln) (w : World) (hg : g < w.heap.size) (hc : w.cell? ⟨g, 0, none⟩ = some (.slice kA nK kC)) (hc2 : w.cell? ⟨g, 1, none⟩ = some (.slice lA mK lC))
    (hK : Rws w kA nK kC 2 (rowK K)) (hM : Rws w lA mK lC 2 (rowK M)) (hb : (nK + mK) * 8 ≤ 140737488355328) :
    Calls Try.prog 30 #[.slice (some ⟨g, 0, none⟩) 2 2] w fun e w' => ∃ A c, e = .returned (.slice A ln c) ∧ w'.ownsRow w.heap.size 26 1 (.slice A ln c) ln (ys.map (.int .i64 ·)) ∧ Below w.heap.size w w' := by
  subst hl hys
  exact kindsOf30 g kA nK kC K lA mK lC M w hg hc hc2 hK hM hb
theorem hinder_is (uA : Option Addr) (n uC : Nat) (kA : Option Addr) (nK kC : Nat) (d x3 x4 x5 x6 x7 x8 : Int) (vA : Option Addr) (m vC : Nat) (lA : Option Addr) (mK lC : Nat) (e y3 y4 y5 y6 y7 y8 : Int) (U V : Nat → ByteArray × Int) (us vs : ByteArray → Int) (user : ByteArray) (b : Bool) (cb : Nat) (w : World) (hU : Rws w uA n uC 2 (rowU U)) (hV : Rws w vA m vC 2 (rowU V))
    (hu : ∀ x, UserPost U x n d (us x)) (hv : ∀ x, UserPost V x m e (vs x)) (hcb : cb < w.heap.size) (hc : w.cell? ⟨cb, 0, none⟩ = some (.int .i64 (us user))) (hb : (b = true ↔ ¬ UsersOK n m U V us vs user)) :
    Calls Try.prog 31 #[.agg (lvc uA n uC kA nK kC d x3 x4 x5 x6 x7 x8).toArray, .agg (lvc vA m vC lA mK lC e y3 y4 y5 y6 y7 y8).toArray, .string user, .func (.func 28) #[] #[.pointer (some ⟨cb, 0, none⟩)]] w fun e w' => e = .returned (.bool b) ∧ Below w.heap.size w w' := by
  refine (hinder31 uA n uC kA nK kC d x3 x4 x5 x6 x7 x8 vA m vC lA mK lC e y3 y4 y5 y6 y7 y8 U V us vs user cb w hU hV hu hv hcb hc).mono fun e w' ⟨h, hb'⟩ => ⟨?_, hb'⟩
  rcases h with ⟨h1, h2⟩ | ⟨h1, h2⟩
  · have : b = false := by cases b with
      | false => rfl
      | true => exact absurd h1 (hb.1 rfl)
    rw [h2, this]
  · rw [h2, hb.2 h1]
/-- Both arrays of numbers. -/
def NumRel (w2 : World) (c1 c2 : List Value) (s9 s10 : Value) (w : World) : Prop :=
  ∃ g9 g10, s9 = .pointer (some ⟨g9, 0, none⟩) ∧ s10 = .pointer (some ⟨g10, 0, none⟩) ∧ Blk w g9 c1 60 ∧ Blk w g10 c2 60 ∧ w2.heap.size ≤ g9 ∧ w2.heap.size ≤ g10 ∧ Below w2.heap.size w2 w

set_option maxHeartbeats 16000000 in
theorem change20 (uA : Option Addr) (n uC : Nat) (kA : Option Addr) (nK kC : Nat) (d x3 x4 x5 x6 x7 x8 : Int) (vA : Option Addr) (m vC : Nat) (lA : Option Addr) (mK lC : Nat) (e y3 y4 y5 y6 y7 y8 : Int) (U V : Nat → ByteArray × Int) (K M : Nat → Int × Int) (us vs : ByteArray → Int) (nd ne : Int → Int) (user : ByteArray) (w : World) (hU : Rws w uA n uC 2 (rowU U)) (hV : Rws w vA m vC 2 (rowU V)) (hK : Rws w kA nK kC 2 (rowK K)) (hM : Rws w lA mK lC 2 (rowK M))
    (hu : ∀ x, UserPost U x n d (us x)) (hv : ∀ x, UserPost V x m e (vs x)) (hnd : ∀ k, NeedPost K k nK x3 x4 (nd k)) (hne : ∀ k, NeedPost M k mK y3 y4 (ne k)) (hbk : (nK + mK) * 8 ≤ 140737488355328) :
    Calls Try.prog 20 #[.agg (lvc uA n uC kA nK kC d x3 x4 x5 x6 x7 x8).toArray, .agg (lvc vA m vC lA mK lC e y3 y4 y5 y6 y7 y8).toArray, .string user] w (ChPost w (ChOK n m nK mK U V K M us vs nd ne (numF d x3 x4 x5 x6 x7 x8) (numF e y3 y4 y5 y6 y7 y8) user)) := by
  have HX := Lib.hid (two_boxes w (lvc uA n uC kA nK kC d x3 x4 x5 x6 x7 x8) (lvc vA m vC lA mK lC e y3 y4 y5 y6 y7 y8))
  have HU := Lib.hid (hU.below HX.out.2.2)
  have HV := Lib.hid (hV.below HX.out.2.2)
  have HK := Lib.hid (hK.below HX.out.2.2)
  have HM := Lib.hid (hM.below HX.out.2.2)
  have HND := Lib.hid hnd
  have HNE := Lib.hid hne
  have HBk := Lib.hid hbk
  have HO := Lib.hid hu
  have HP := Lib.hid hv
  have hb1 := hU.big
  have hb2 := hV.big
  unfold maxLen at hb1 hb2
  clear hU hV hu hv hK hM hnd hne hbk
  show Calls Try.prog 20 #[.agg #[.slice uA n uC, .slice kA nK kC, .int .i64 d, .int .i64 x3, .int .i64 x4, .int .i64 x5, .int .i64 x6, .int .i64 x7, .int .i64 x8], .agg #[.slice vA m vC, .slice lA mK lC, .int .i64 e, .int .i64 y3, .int .i64 y4, .int .i64 y5, .int .i64 y6, .int .i64 y7, .int .i64 y8], .string user] w _
  go_enter Try.func20, Try.ntmps20
  go_upto_region 3 with (go_at_call 11; (with_reducible refine (user21_is uA n uC kA nK kC d x3 x4 x5 x6 x7 x8 U user (us user) _ HU.out (HO.out user)).mono ?_); rintro e0 w1 ⟨rfl, hb1⟩; have HB1 := Lib.hid hb1; clear hb1)
  have HW1 := Lib.hid (HX.out.2.2.trans (HB1.out.mono HX.out.2.2.size))
  have T1 := (HX.out.1.below HB1.out).alloc (.cells #[.int .i64 (us user)] 3)
  have T2 := (HX.out.2.1.below HB1.out).alloc (.cells #[.int .i64 (us user)] 3)
  have HT1 := Lib.hid T1
  have HT2 := Lib.hid T2
  have HU2 := Lib.hid ((HU.out.below HB1.out).below (Below.alloc (Below.refl _ w1) (Nat.le_refl _) (.cells #[.int .i64 (us user)] 3)))
  have HV2 := Lib.hid ((HV.out.below HB1.out).below (Below.alloc (Below.refl _ w1) (Nat.le_refl _) (.cells #[.int .i64 (us user)] 3)))
  have HK2 := Lib.hid ((HK.out.below HB1.out).below (Below.alloc (Below.refl _ w1) (Nat.le_refl _) (.cells #[.int .i64 (us user)] 3)))
  have HM2 := Lib.hid ((HM.out.below HB1.out).below (Below.alloc (Below.refl _ w1) (Nat.le_refl _) (.cells #[.int .i64 (us user)] 3)))
  have HW2 := Lib.hid (Below.alloc HW1.out HW1.out.size (.cells #[.int .i64 (us user)] 3))
  have HOw := Lib.hid (blk_new w1 [.int .i64 (us user)] 3)
  have HSz := Lib.hid HW2.out.size
  clear HU HV HK HM HB1
  generalize hb2 : w.heap.size + 1 = b2 at HT2 T2 ⊢
  generalize hb0 : w.heap.size = b1 at HT1 T1 ⊢
  clear hb2 hb0
  generalize hgl : w1.heap.size = cb at HOw ⊢
  clear hgl
  generalize hw2 : (w1.alloc _) = w2 at HT1 HT2 HU2 HV2 HK2 HM2 HW2 HOw HSz T1 T2 ⊢
  clear hw2
  go_cut [9, 10] from 19 to 22 (fun s9 s10 wx => NumRel w2 (nums d x3 x4 x5 x6 x7 x8) (nums e y3 y4 y5 y6 y7 y8) s9 s10 wx)
  case first =>
    have HB := Lib.hid (Below.refl w2.heap.size w2)
    have k0 := T1.cell (i := 0) rfl
    have k1 := T1.cell (i := 1) rfl
    have k2 := T1.cell (i := 2) rfl
    have k3 := T1.cell (i := 3) rfl
    have k4 := T1.cell (i := 4) rfl
    have k5 := T1.cell (i := 5) rfl
    have k6 := T1.cell (i := 6) rfl
    have k7 := T1.cell (i := 7) rfl
    have k8 := T1.cell (i := 8) rfl
    have q0 := T2.cell (i := 0) rfl
    have q1 := T2.cell (i := 1) rfl
    have q2 := T2.cell (i := 2) rfl
    have q3 := T2.cell (i := 3) rfl
    have q4 := T2.cell (i := 4) rfl
    have q5 := T2.cell (i := 5) rfl
    have q6 := T2.cell (i := 6) rfl
    have q7 := T2.cell (i := 7) rfl
    have q8 := T2.cell (i := 8) rfl
    clear T1 T2
    have hl1 := HT1.out.lt
    have hl2 := HT2.out.lt
    go_region_held3 (fun w' => w'.cell? ⟨b1, 0, none⟩ = some (.slice uA n uC) ∧ w'.cell? ⟨b1, 1, none⟩ = some (.slice kA nK kC) ∧ w'.cell? ⟨b1, 2, none⟩ = some (.int .i64 d) ∧ w'.cell? ⟨b1, 3, none⟩ = some (.int .i64 x3) ∧ w'.cell? ⟨b1, 4, none⟩ = some (.int .i64 x4) ∧ w'.cell? ⟨b1, 5, none⟩ = some (.int .i64 x5) ∧ w'.cell? ⟨b1, 6, none⟩ = some (.int .i64 x6) ∧ w'.cell? ⟨b1, 7, none⟩ = some (.int .i64 x7) ∧ w'.cell? ⟨b1, 8, none⟩ = some (.int .i64 x8) ∧ w'.cell? ⟨b2, 0, none⟩ = some (.slice vA m vC) ∧ w'.cell? ⟨b2, 1, none⟩ = some (.slice lA mK lC) ∧ w'.cell? ⟨b2, 2, none⟩ = some (.int .i64 e) ∧ w'.cell? ⟨b2, 3, none⟩ = some (.int .i64 y3) ∧ w'.cell? ⟨b2, 4, none⟩ = some (.int .i64 y4) ∧ w'.cell? ⟨b2, 5, none⟩ = some (.int .i64 y5) ∧ w'.cell? ⟨b2, 6, none⟩ = some (.int .i64 y6) ∧ w'.cell? ⟨b2, 7, none⟩ = some (.int .i64 y7) ∧ w'.cell? ⟨b2, 8, none⟩ = some (.int .i64 y8)) (first | exact ⟨k0, k1, k2, k3, k4, k5, k6, k7, k8, q0, q1, q2, q3, q4, q5, q6, q7, q8⟩ | exact boxesS (by repeat (first | exact HT1.out | refine Blk.drew ?_ | refine Blk.alloc ?_ _)) (by repeat (first | exact HT2.out | refine Blk.drew ?_ | refine Blk.alloc ?_ _)))
      (first
        | (go_at_call 29; (with_reducible refine (numbers29x uA n uC kA nK kC d x3 x4 x5 x6 x7 x8 _).mono ?_); rintro e0 w3 ⟨rfl, rfl⟩)
        | (go_at_call 29; (with_reducible refine (numbers29x vA m vC lA mK lC e y3 y4 y5 y6 y7 y8 _).mono ?_); rintro e0 w3 ⟨rfl, rfl⟩))
    all_goals go_wp2
    all_goals go_meet
    all_goals refine ⟨_, _, rfl, rfl, ?_, ?_, by omega, by omega, ?_⟩
    all_goals first
      | ((repeat (first | refine Blk.drew ?_ | (refine blk_at _ _ _ _ ?_; simp; done) | refine Blk.alloc ?_ _)); done)
      | ((repeat (first | exact Below.refl _ _ | refine Below.drew ?_ | refine Below.alloc ?_ (by simp <;> omega) _)); done)
  case rest =>
    clear T1 T2
    obtain ⟨g9, g10, rfl, rfl, hg9, hg10, _, _, hb3⟩ := hcut
    have H9 := Lib.hid hg9
    have H10 := Lib.hid hg10
    have HB3 := Lib.hid hb3
    have HCb := Lib.hid ((hb3.cell (p := ⟨cb, 0, none⟩) HOw.out.lt).trans (HOw.out.cell (i := 0) rfl))
    clear hg9 hg10 hb3
    have n0 := H9.out.cell (i := 0) rfl
    have n1 := H9.out.cell (i := 1) rfl
    have n2 := H9.out.cell (i := 2) rfl
    have n3 := H9.out.cell (i := 3) rfl
    have n4 := H9.out.cell (i := 4) rfl
    have n5 := H9.out.cell (i := 5) rfl
    have n6 := H9.out.cell (i := 6) rfl
    have HIx := Lib.hid (numF_idx d x3 x4 x5 x6 x7 x8)
    go_wp2
    clear n0 n1 n2 n3 n4 n5 n6
    go_loopg [24] 7 (fun gg s24 wr => ∃ i : Nat, i ≤ 7 ∧ 7 - i ≤ gg ∧ s24 = .int .i64 i ∧ wc = wr ∧ Hid (∀ j, j < i → mayN (numF d x3 x4 x5 x6 x7 x8 j) (numF e y3 y4 y5 y6 y7 y8 j) (us user) = true))
    case atStart => exact ⟨0, by omega, by omega, rfl, rfl, Lib.hid (fun j hj => absurd hj (Nat.not_lt_zero _))⟩
    case round =>
      obtain ⟨i, hi, hg, rfl, rfl, A⟩ := hrel
      by_cases hlt : i < 7
      · have hltz : (i : Int) < 7 := by omega
        have hidx := HIx.out i hlt
        have hcell := H10.out.cell (numF_get e y3 y4 y5 y6 y7 y8 i hlt)
        generalize hz1 : numF d x3 x4 x5 x6 x7 x8 i = z1 at hidx
        generalize hz2 : numF e y3 y4 y5 y6 y7 y8 i = z2 at hcell
        have Hz1 := Lib.hid hz1
        have Hz2 := Lib.hid hz2
        clear hz1 hz2
        have cc := HCb.out
        have HA3 := Lib.hid (fun w h => above28 z1 z2 (us user) cb w h)
        cases gm : mayN z1 z2 (us user) with
        | true =>
          have HF := Lib.hid (show mayN (numF d x3 x4 x5 x6 x7 x8 i) (numF e y3 y4 y5 y6 y7 y8 i) (us user) = true by rw [Hz1.out, Hz2.out]; exact gm)
          rw [gm] at HA3
          clear gm
          go_wp2_with (go_at_call 28; refine (HA3.out _ cc).mono ?_; rintro e1 w' ⟨rfl, rfl⟩)
          go_roundg (7 - (i + 1))
          case measure => omega
          case rel =>
            refine ⟨i + 1, by omega, by omega, by go_num, rfl, Lib.hid (fun j hj => ?_)⟩
            by_cases e : j = i
            · subst e; exact HF.out
            · exact A.out j (by omega)
        | false =>
          have HF := Lib.hid (show mayN (numF d x3 x4 x5 x6 x7 x8 i) (numF e y3 y4 y5 y6 y7 y8 i) (us user) = false by rw [Hz1.out, Hz2.out]; exact gm)
          rw [gm] at HA3
          clear gm
          go_wp2_with (go_at_call 28; refine (HA3.out _ cc).mono ?_; rintro e1 w' ⟨rfl, rfl⟩)
          go_ret
          exact ⟨.inr ⟨(fun h => by have := h.nums i hlt; rw [HF.out] at this; cases this), rfl⟩, HW2.out.trans (HB3.out.mono HSz.out)⟩
      · have hltz : ¬ (i : Int) < 7 := by omega
        clear HIx
        have k1 := (HT1.out.below HB3.out).cell (i := 1) rfl
        have q1 := (HT2.out.below HB3.out).cell (i := 1) rfl
        have HBa := Lib.hid (Below.alloc (Below.refl wc.heap.size wc) (Nat.le_refl _) (.cells #[.slice kA nK kC, .slice lA mK lC] 23))
        have HNw := Lib.hid (blk_new wc [.slice kA nK kC, .slice lA mK lC] 23)
        obtain ⟨ys, hys⟩ : ∃ ys, kinds K nK ++ kinds M mK = ys := ⟨_, rfl⟩
        obtain ⟨ln, hln⟩ : ∃ ln, ys.length = ln := ⟨_, rfl⟩
        have HYs := Lib.hid hys
        have HLn := Lib.hid hln
        have hln2 : ln = nK + mK := by rw [← hln, ← hys, List.length_append, kinds_len, kinds_len]
        have hlb : ln ≤ 9223372036854775807 := by have := HBk.out; omega
        clear hys hln hln2
        go_wp2_with (go_at_call 30; refine (kindsOf30L wc.heap.size kA nK kC K lA mK lC M ys ln HYs.out HLn.out _ HNw.out.lt (HNw.out.cell (i := 0) rfl) (HNw.out.cell (i := 1) rfl) (HK2.out.below (HB3.out.trans (HBa.out.mono HB3.out.size))) (HM2.out.below (HB3.out.trans (HBa.out.mono HB3.out.size))) HBk.out).mono ?_; rintro e1 w4 ⟨A4, c4, rfl, hown, hb4⟩; have HOw4 := Lib.hid hown; have HB4 := Lib.hid (HB3.out.trans ((HBa.out.trans (hb4.mono HBa.out.size)).mono HB3.out.size)); clear hown hb4)
        clear k1 q1
        go_loopg [42] ln (fun gg s42 wr => ∃ jj : Nat, jj ≤ ln ∧ ln - jj ≤ gg ∧ s42 = .int .i64 jj ∧ Hid (Below w4.heap.size w4 wr) ∧ Hid (∀ j, j < jj → ∀ k, ys[j]? = some k → mayN (nd k) (ne k) (us user) = true))
        case atStart => exact ⟨0, Nat.zero_le _, by omega, rfl, Lib.hid (Below.refl _ w4), Lib.hid (fun j hj => absurd hj (Nat.not_lt_zero _))⟩
        case round =>
          obtain ⟨jj, hjj, hg2, rfl, BW, A2⟩ := hrel
          by_cases hlt2 : jj < ln
          · have hltz2 : (jj : Int) < (ln : Int) := by omega
            obtain ⟨g4, cap4, hv4⟩ := Joins.ownsRow_form HOw4.out (by omega)
            simp only [Value.slice.injEq, true_and] at hv4
            obtain ⟨rfl, rfl⟩ := hv4
            have hjl : jj < ys.length := by rw [HLn.out]; exact hlt2
            have hyj : ys[jj]? = some ys[jj] := List.getElem?_eq_getElem hjl
            generalize hkk : ys[jj] = k at hyj
            clear hkk
            have HYj := Lib.hid hyj
            have cell4 : wr.cell? ⟨g4, jj, none⟩ = some (.int .i64 k) := by
              rw [BW.out.cell (p := ⟨g4, jj, none⟩) (HOw4.out.lt g4 rfl).2, HOw4.out.cellAt jj (by omega), List.getElem?_map, hyj]; rfl
            clear hjl hyj
            have HBr := Lib.hid (HB4.out.trans (BW.out.mono HB4.out.size))
            go_upto_region 13 with (fail)
            clear cell4
            have T1 := HT1.out.below HBr.out
            have T2 := HT2.out.below HBr.out
            have k0 := T1.cell (i := 0) rfl
            have k1 := T1.cell (i := 1) rfl
            have k2 := T1.cell (i := 2) rfl
            have k3 := T1.cell (i := 3) rfl
            have k4 := T1.cell (i := 4) rfl
            have k5 := T1.cell (i := 5) rfl
            have k6 := T1.cell (i := 6) rfl
            have k7 := T1.cell (i := 7) rfl
            have k8 := T1.cell (i := 8) rfl
            have q0 := T2.cell (i := 0) rfl
            have q1 := T2.cell (i := 1) rfl
            have q2 := T2.cell (i := 2) rfl
            have q3 := T2.cell (i := 3) rfl
            have q4 := T2.cell (i := 4) rfl
            have q5 := T2.cell (i := 5) rfl
            have q6 := T2.cell (i := 6) rfl
            have q7 := T2.cell (i := 7) rfl
            have q8 := T2.cell (i := 8) rfl
            clear T1 T2
            have HB := Lib.hid (Below.refl wr.heap.size wr)
            have HA3 := Lib.hid (fun w h => above28 (nd k) (ne k) (us user) cb w h)
            cases gm : mayN (nd k) (ne k) (us user)
            all_goals
              rw [gm] at HA3
              have GM := Lib.hid gm
              clear gm
              go_region_held3 (fun w' => w'.cell? ⟨b1, 0, none⟩ = some (.slice uA n uC) ∧ w'.cell? ⟨b1, 1, none⟩ = some (.slice kA nK kC) ∧ w'.cell? ⟨b1, 2, none⟩ = some (.int .i64 d) ∧ w'.cell? ⟨b1, 3, none⟩ = some (.int .i64 x3) ∧ w'.cell? ⟨b1, 4, none⟩ = some (.int .i64 x4) ∧ w'.cell? ⟨b1, 5, none⟩ = some (.int .i64 x5) ∧ w'.cell? ⟨b1, 6, none⟩ = some (.int .i64 x6) ∧ w'.cell? ⟨b1, 7, none⟩ = some (.int .i64 x7) ∧ w'.cell? ⟨b1, 8, none⟩ = some (.int .i64 x8) ∧ w'.cell? ⟨b2, 0, none⟩ = some (.slice vA m vC) ∧ w'.cell? ⟨b2, 1, none⟩ = some (.slice lA mK lC) ∧ w'.cell? ⟨b2, 2, none⟩ = some (.int .i64 e) ∧ w'.cell? ⟨b2, 3, none⟩ = some (.int .i64 y3) ∧ w'.cell? ⟨b2, 4, none⟩ = some (.int .i64 y4) ∧ w'.cell? ⟨b2, 5, none⟩ = some (.int .i64 y5) ∧ w'.cell? ⟨b2, 6, none⟩ = some (.int .i64 y6) ∧ w'.cell? ⟨b2, 7, none⟩ = some (.int .i64 y7) ∧ w'.cell? ⟨b2, 8, none⟩ = some (.int .i64 y8)) (first | exact ⟨k0, k1, k2, k3, k4, k5, k6, k7, k8, q0, q1, q2, q3, q4, q5, q6, q7, q8⟩ | go_keep)
                (first
                  | (go_at_call 13; (with_reducible refine (needs13 uA n uC kA nK kC K d x3 x4 x5 x6 x7 x8 k (nd k) _ (HK2.out.below (HBr.out.trans (HB.out.drew.mono HBr.out.size))) (HND.out k)).mono ?_); rintro e0 w3 ⟨rfl, hb3⟩; (first | have HBb := Lib.hid (HB.out.trans (hb3.mono HB.out.size)) | have HBb := Lib.hid (HB.out.drew.trans (hb3.mono HB.out.size))); clear HB; have HB := Lib.hid HBb.out; clear HBb hb3; have HBc := Lib.hid (HBr.out.trans (HB.out.mono HBr.out.size)); clear k0 k1 k2 k3 k4 k5 k6 k7 k8 q0 q1 q2 q3 q4 q5 q6 q7 q8; have T1 := HT1.out.below HBc.out; have T2 := HT2.out.below HBc.out; have k0 := T1.cell (i := 0) rfl; have k1 := T1.cell (i := 1) rfl; have k2 := T1.cell (i := 2) rfl; have k3 := T1.cell (i := 3) rfl; have k4 := T1.cell (i := 4) rfl; have k5 := T1.cell (i := 5) rfl; have k6 := T1.cell (i := 6) rfl; have k7 := T1.cell (i := 7) rfl; have k8 := T1.cell (i := 8) rfl; have q0 := T2.cell (i := 0) rfl; have q1 := T2.cell (i := 1) rfl; have q2 := T2.cell (i := 2) rfl; have q3 := T2.cell (i := 3) rfl; have q4 := T2.cell (i := 4) rfl; have q5 := T2.cell (i := 5) rfl; have q6 := T2.cell (i := 6) rfl; have q7 := T2.cell (i := 7) rfl; have q8 := T2.cell (i := 8) rfl; clear T1 T2 HBc)
                  | (go_at_call 13; (with_reducible refine (needs13 uA n uC kA nK kC K d x3 x4 x5 x6 x7 x8 k (nd k) _ (HK2.out.below (HBr.out.trans (HB.out.mono HBr.out.size))) (HND.out k)).mono ?_); rintro e0 w3 ⟨rfl, hb3⟩; (first | have HBb := Lib.hid (HB.out.trans (hb3.mono HB.out.size)) | have HBb := Lib.hid (HB.out.drew.trans (hb3.mono HB.out.size))); clear HB; have HB := Lib.hid HBb.out; clear HBb hb3; have HBc := Lib.hid (HBr.out.trans (HB.out.mono HBr.out.size)); clear k0 k1 k2 k3 k4 k5 k6 k7 k8 q0 q1 q2 q3 q4 q5 q6 q7 q8; have T1 := HT1.out.below HBc.out; have T2 := HT2.out.below HBc.out; have k0 := T1.cell (i := 0) rfl; have k1 := T1.cell (i := 1) rfl; have k2 := T1.cell (i := 2) rfl; have k3 := T1.cell (i := 3) rfl; have k4 := T1.cell (i := 4) rfl; have k5 := T1.cell (i := 5) rfl; have k6 := T1.cell (i := 6) rfl; have k7 := T1.cell (i := 7) rfl; have k8 := T1.cell (i := 8) rfl; have q0 := T2.cell (i := 0) rfl; have q1 := T2.cell (i := 1) rfl; have q2 := T2.cell (i := 2) rfl; have q3 := T2.cell (i := 3) rfl; have q4 := T2.cell (i := 4) rfl; have q5 := T2.cell (i := 5) rfl; have q6 := T2.cell (i := 6) rfl; have q7 := T2.cell (i := 7) rfl; have q8 := T2.cell (i := 8) rfl; clear T1 T2 HBc)
                  | (go_at_call 13; (with_reducible refine (needs13 vA m vC lA mK lC M e y3 y4 y5 y6 y7 y8 k (ne k) _ (HM2.out.below (HBr.out.trans (HB.out.drew.mono HBr.out.size))) (HNE.out k)).mono ?_); rintro e0 w3 ⟨rfl, hb3⟩; (first | have HBb := Lib.hid (HB.out.trans (hb3.mono HB.out.size)) | have HBb := Lib.hid (HB.out.drew.trans (hb3.mono HB.out.size))); clear HB; have HB := Lib.hid HBb.out; clear HBb hb3; have HBc := Lib.hid (HBr.out.trans (HB.out.mono HBr.out.size)); clear k0 k1 k2 k3 k4 k5 k6 k7 k8 q0 q1 q2 q3 q4 q5 q6 q7 q8; have T1 := HT1.out.below HBc.out; have T2 := HT2.out.below HBc.out; have k0 := T1.cell (i := 0) rfl; have k1 := T1.cell (i := 1) rfl; have k2 := T1.cell (i := 2) rfl; have k3 := T1.cell (i := 3) rfl; have k4 := T1.cell (i := 4) rfl; have k5 := T1.cell (i := 5) rfl; have k6 := T1.cell (i := 6) rfl; have k7 := T1.cell (i := 7) rfl; have k8 := T1.cell (i := 8) rfl; have q0 := T2.cell (i := 0) rfl; have q1 := T2.cell (i := 1) rfl; have q2 := T2.cell (i := 2) rfl; have q3 := T2.cell (i := 3) rfl; have q4 := T2.cell (i := 4) rfl; have q5 := T2.cell (i := 5) rfl; have q6 := T2.cell (i := 6) rfl; have q7 := T2.cell (i := 7) rfl; have q8 := T2.cell (i := 8) rfl; clear T1 T2 HBc)
                  | (go_at_call 13; (with_reducible refine (needs13 vA m vC lA mK lC M e y3 y4 y5 y6 y7 y8 k (ne k) _ (HM2.out.below (HBr.out.trans (HB.out.mono HBr.out.size))) (HNE.out k)).mono ?_); rintro e0 w3 ⟨rfl, hb3⟩; (first | have HBb := Lib.hid (HB.out.trans (hb3.mono HB.out.size)) | have HBb := Lib.hid (HB.out.drew.trans (hb3.mono HB.out.size))); clear HB; have HB := Lib.hid HBb.out; clear HBb hb3; have HBc := Lib.hid (HBr.out.trans (HB.out.mono HBr.out.size)); clear k0 k1 k2 k3 k4 k5 k6 k7 k8 q0 q1 q2 q3 q4 q5 q6 q7 q8; have T1 := HT1.out.below HBc.out; have T2 := HT2.out.below HBc.out; have k0 := T1.cell (i := 0) rfl; have k1 := T1.cell (i := 1) rfl; have k2 := T1.cell (i := 2) rfl; have k3 := T1.cell (i := 3) rfl; have k4 := T1.cell (i := 4) rfl; have k5 := T1.cell (i := 5) rfl; have k6 := T1.cell (i := 6) rfl; have k7 := T1.cell (i := 7) rfl; have k8 := T1.cell (i := 8) rfl; have q0 := T2.cell (i := 0) rfl; have q1 := T2.cell (i := 1) rfl; have q2 := T2.cell (i := 2) rfl; have q3 := T2.cell (i := 3) rfl; have q4 := T2.cell (i := 4) rfl; have q5 := T2.cell (i := 5) rfl; have q6 := T2.cell (i := 6) rfl; have q7 := T2.cell (i := 7) rfl; have q8 := T2.cell (i := 8) rfl; clear T1 T2 HBc)
                  | (go_at_call 28; refine (HA3.out _ (((HBr.out.trans (HB.out.mono HBr.out.size)).cell (p := ⟨cb, 0, none⟩) HOw.out.lt).trans (HOw.out.cell (i := 0) rfl))).mono ?_; rintro e1 w' ⟨rfl, rfl⟩))
              clear k0 k1 k2 k3 k4 k5 k6 k7 k8 q0 q1 q2 q3 q4 q5 q6 q7 q8
              go_wp2
              first
                | (go_ret
                   exact ⟨.inr ⟨(fun h => by have := h.kinds k (by rw [HYs.out]; exact List.mem_of_getElem? HYj.out); rw [GM.out] at this; cases this), rfl⟩, HW2.out.trans ((HBr.out.trans (HB.out.mono HBr.out.size)).mono HSz.out)⟩)
                | (go_roundg (ln - (jj + 1))
                   case measure => omega
                   case rel =>
                     refine ⟨jj + 1, by omega, by omega, by go_num, Lib.hid (BW.out.trans (HB.out.mono BW.out.size)), Lib.hid (fun j hj x hx => ?_)⟩
                     by_cases e : j = jj
                     · subst e; rw [HYj.out] at hx; cases hx; exact GM.out
                     · exact A2.out j (by omega) x hx)
          · have hltz2 : ¬ (jj : Int) < (ln : Int) := by omega
            obtain rfl : ln = jj := by omega
            have HBr := Lib.hid (HB4.out.trans (BW.out.mono HB4.out.size))
            have T1 := HT1.out.below HBr.out
            have T2 := HT2.out.below HBr.out
            have k0 := T1.cell (i := 0) rfl
            have k1 := T1.cell (i := 1) rfl
            have k2 := T1.cell (i := 2) rfl
            have k3 := T1.cell (i := 3) rfl
            have k4 := T1.cell (i := 4) rfl
            have k5 := T1.cell (i := 5) rfl
            have k6 := T1.cell (i := 6) rfl
            have k7 := T1.cell (i := 7) rfl
            have k8 := T1.cell (i := 8) rfl
            have q0 := T2.cell (i := 0) rfl
            have q1 := T2.cell (i := 1) rfl
            have q2 := T2.cell (i := 2) rfl
            have q3 := T2.cell (i := 3) rfl
            have q4 := T2.cell (i := 4) rfl
            have q5 := T2.cell (i := 5) rfl
            have q6 := T2.cell (i := 6) rfl
            have q7 := T2.cell (i := 7) rfl
            have q8 := T2.cell (i := 8) rfl
            clear T1 T2
            by_cases hok : UsersOK n m U V us vs user
            · have HH := Lib.hid (hinder_is uA n uC kA nK kC d x3 x4 x5 x6 x7 x8 vA m vC lA mK lC e y3 y4 y5 y6 y7 y8 U V us vs user false cb wr (HU2.out.below HBr.out) (HV2.out.below HBr.out) HO.out HP.out (Nat.lt_of_lt_of_le HOw.out.lt HBr.out.size) ((HBr.out.cell (p := ⟨cb, 0, none⟩) HOw.out.lt).trans (HOw.out.cell (i := 0) rfl)) ⟨(fun h => by cases h), fun h => absurd hok h⟩)
              have HOK := Lib.hid hok
              clear hok
              go_wp2_with (go_at_call 31; refine HH.out.mono ?_; rintro e1 w5 ⟨rfl, hb5⟩; have HB5 := Lib.hid hb5; clear hb5)
              go_ret
              exact ⟨.inl ⟨⟨fun j hj => A.out j (by omega), fun k hk => by
                rw [HYs.out] at hk
                obtain ⟨j, hj, e⟩ := List.getElem_of_mem hk
                exact A2.out j (by rw [HLn.out] at hj; exact hj) k (by rw [List.getElem?_eq_getElem hj, e]), HOK.out⟩, rfl⟩, HW2.out.trans ((HBr.out.trans (HB5.out.mono HBr.out.size)).mono HSz.out)⟩
            · have HH := Lib.hid (hinder_is uA n uC kA nK kC d x3 x4 x5 x6 x7 x8 vA m vC lA mK lC e y3 y4 y5 y6 y7 y8 U V us vs user true cb wr (HU2.out.below HBr.out) (HV2.out.below HBr.out) HO.out HP.out (Nat.lt_of_lt_of_le HOw.out.lt HBr.out.size) ((HBr.out.cell (p := ⟨cb, 0, none⟩) HOw.out.lt).trans (HOw.out.cell (i := 0) rfl)) ⟨fun _ => hok, fun _ => rfl⟩)
              have HOK := Lib.hid hok
              clear hok
              go_wp2_with (go_at_call 31; refine HH.out.mono ?_; rintro e1 w5 ⟨rfl, hb5⟩; have HB5 := Lib.hid hb5; clear hb5)
              go_ret
              exact ⟨.inr ⟨fun h => HOK.out h.users, rfl⟩, HW2.out.trans ((HBr.out.trans (HB5.out.mono HBr.out.size)).mono HSz.out)⟩
end Go.Proofs.Ythhmbcelicfopaa
