/- trust.Of and the reference's Of. Conditions: short texts; the listed table. -/
import Derived.Test.YtaaaeeljjfblnaaDoorW2
namespace Go.Proofs.YtaaaeeljjfblnaaDoor
open Go.RowKit
set_option linter.unusedVariables false
set_option linter.unusedSimpArgs false
set_option maxRecDepth 100000

/-- The table of answers. -/
structure An (w : World) : Prop where
  lt : 0 < w.heap.size
  c0 : w.cell? ⟨0, 0, none⟩ = some (.int .i64 0)
  c1 : w.cell? ⟨0, 1, none⟩ = some (.int .i64 1)
  c2 : w.cell? ⟨0, 2, none⟩ = some (.int .i64 3)
  c3 : w.cell? ⟨0, 3, none⟩ = some (.int .i64 2)
theorem An.below {w w1 : World} (h : An w) (hb : Below w.heap.size w w1) : An w1 :=
  ⟨Nat.lt_of_lt_of_le h.lt hb.size, (hb.cell (p := ⟨0, 0, none⟩) h.lt).trans h.c0, (hb.cell (p := ⟨0, 1, none⟩) h.lt).trans h.c1, (hb.cell (p := ⟨0, 2, none⟩) h.lt).trans h.c2, (hb.cell (p := ⟨0, 3, none⟩) h.lt).trans h.c3⟩
def tr (o t : Ks) (dev : ByteArray) (ver : List Int) (blk : List T.Rc) : Int := ans (rl o t dev ver blk)
set_option maxHeartbeats 4000000 in
theorem of23 (o t : Ks) (dev : ByteArray) (vA bA : Option Addr) (vn vc bn bc : Nat) (ver : List Int) (blk : List T.Rc) (w : World) (hT : An w) (ht : IsK w t) (hv : Q.Ints w vA vn vc ver) (hb : T.Rcs w bA bn bc blk) (hs : t.us.size + 1 + dev.size ≤ 1000000) :
    Calls Tryd.prog 23 #[.agg (cellsK o).toArray, .agg (cellsK t).toArray, .string dev, .slice vA vn vc, .slice bA bn bc] w fun e w' => e = .returned (.int .i64 (tr o t dev ver blk)) ∧ Below w.heap.size w w' := by
  have B0 := Lib.hid (box2_below w o t)
  have Y0 := Lib.hid (box2_0 w o t)
  have Y1 := Lib.hid (box2_1 w o t)
  have C29 := Lib.hid (rule29 o t dev vA bA vn vc bn bc ver blk (box2 w o t) (ht.below B0.out) (hv.below B0.out) (hb.below B0.out) hs)
  have HT := Lib.hid hT
  have HC := rl_cases o t dev ver blk
  unfold tr
  generalize rl o t dev ver blk = r at *
  clear hT ht hv hb hs
  show Calls Tryd.prog 23 #[.agg #[.string o.us, .int .i64 o.ms, .int .i64 o.ps, .slice o.A o.n o.c], .agg #[.string t.us, .int .i64 t.ms, .int .i64 t.ps, .slice t.A t.n t.c], .string dev, .slice vA vn vc, .slice bA bn bc] w _
  rcases HC with rfl | rfl | rfl | rfl
  · go_enter Tryd.func23, Tryd.ntmps23
    go_wp2_with (first
      | (refine wpList_load_mid rfl 24 _ rfl w.heap.size 0 rfl (cellsK o) _ Y0.out.range Tryd.underlying24 rfl size24 ?_)
      | (refine wpList_load_mid rfl 24 _ rfl (w.heap.size + 1) 0 rfl (cellsK t) _ Y1.out.range Tryd.underlying24 rfl size24 ?_)
      | (go_at_call 29; (with_reducible refine C29.out.mono ?_); rintro e w1 ⟨rfl, hb1⟩; have BF := Lib.hid (B0.out.trans (hb1.mono B0.out.size)); have k0 := (HT.out.below BF.out).c0; clear hb1))
    go_ret
    exact ⟨rfl, BF.out⟩
  · go_enter Tryd.func23, Tryd.ntmps23
    go_wp2_with (first
      | (refine wpList_load_mid rfl 24 _ rfl w.heap.size 0 rfl (cellsK o) _ Y0.out.range Tryd.underlying24 rfl size24 ?_)
      | (refine wpList_load_mid rfl 24 _ rfl (w.heap.size + 1) 0 rfl (cellsK t) _ Y1.out.range Tryd.underlying24 rfl size24 ?_)
      | (go_at_call 29; (with_reducible refine C29.out.mono ?_); rintro e w1 ⟨rfl, hb1⟩; have BF := Lib.hid (B0.out.trans (hb1.mono B0.out.size)); have k0 := (HT.out.below BF.out).c1; clear hb1))
    go_ret
    exact ⟨rfl, BF.out⟩
  · go_enter Tryd.func23, Tryd.ntmps23
    go_wp2_with (first
      | (refine wpList_load_mid rfl 24 _ rfl w.heap.size 0 rfl (cellsK o) _ Y0.out.range Tryd.underlying24 rfl size24 ?_)
      | (refine wpList_load_mid rfl 24 _ rfl (w.heap.size + 1) 0 rfl (cellsK t) _ Y1.out.range Tryd.underlying24 rfl size24 ?_)
      | (go_at_call 29; (with_reducible refine C29.out.mono ?_); rintro e w1 ⟨rfl, hb1⟩; have BF := Lib.hid (B0.out.trans (hb1.mono B0.out.size)); have k0 := (HT.out.below BF.out).c2; clear hb1))
    go_ret
    exact ⟨rfl, BF.out⟩
  · go_enter Tryd.func23, Tryd.ntmps23
    go_wp2_with (first
      | (refine wpList_load_mid rfl 24 _ rfl w.heap.size 0 rfl (cellsK o) _ Y0.out.range Tryd.underlying24 rfl size24 ?_)
      | (refine wpList_load_mid rfl 24 _ rfl (w.heap.size + 1) 0 rfl (cellsK t) _ Y1.out.range Tryd.underlying24 rfl size24 ?_)
      | (go_at_call 29; (with_reducible refine C29.out.mono ?_); rintro e w1 ⟨rfl, hb1⟩; have BF := Lib.hid (B0.out.trans (hb1.mono B0.out.size)); have k0 := (HT.out.below BF.out).c3; clear hb1))
    go_ret
    exact ⟨rfl, BF.out⟩
set_option maxHeartbeats 8000000 in
theorem rof10 (o t : Ks) (dev : ByteArray) (vA bA : Option Addr) (vn vc bn bc : Nat) (ver : List Int) (blk : List T.Rc) (w : World) (ht : IsK w t) (hv : Q.Ints w vA vn vc ver) (hb : T.Rcs w bA bn bc blk) (hs : t.us.size + 1 + dev.size ≤ 1000000) :
    Calls Tryd.prog 10 #[.agg (cellsK o).toArray, .agg (cellsK t).toArray, .string dev, .slice vA vn vc, .slice bA bn bc] w fun e w' => e = .returned (.int .i64 (tr o t dev ver blk)) ∧ Below w.heap.size w w' := by
  have BF := Lib.hid (box2_below w o t)
  have X0 := Lib.hid (box2_0 w o t)
  have X1 := Lib.hid (box2_1 w o t)
  have CP := Lib.hid (place18 t.A t.n t.c dev t.D _ (ht.below BF.out))
  have IT := Lib.hid (show Dvs w t.A t.n t.c t.D from ht)
  have CH := Lib.hid (hasT19 bA bn bc blk (nmB t.us dev) _ (hb.below BF.out))
  have CV := Lib.hid (Q.rhas_any vA vn vc ver t.ms _ (hv.below BF.out))
  have x00 := X0.out.cell (i := 0) rfl
  have x01 := X0.out.cell (i := 1) rfl
  have x10 := X1.out.cell (i := 0) rfl
  have x11 := X1.out.cell (i := 1) rfl
  have x13 := X1.out.cell (i := 3) rfl
  have hs1 : ¬ 9223372036854775807 < t.us.size + 1 := by omega
  have hs2 : ¬ 9223372036854775807 < t.us.size + 1 + dev.size := by omega
  generalize hR : tr o t dev ver blk = R
  have HR := Lib.hid hR
  clear hR ht hv hb hs
  show Calls Tryd.prog 10 #[.agg #[.string o.us, .int .i64 o.ms, .int .i64 o.ps, .slice o.A o.n o.c], .agg #[.string t.us, .int .i64 t.ms, .int .i64 t.ps, .slice t.A t.n t.c], .string dev, .slice vA vn vc, .slice bA bn bc] w _
  cases hp : plD t.D dev t.n with
  | none =>
    rw [hp, show oI none = -1 from rfl] at CP
    have HE : Hid (R = 0) := Lib.hid (by rw [← HR.out]; unfold tr rl; rw [hp]; rfl)
    clear HR hp
    go_enter Tryd.func10, Tryd.ntmps10
    go_wp2_with (first
      | (go_at_call 18; refine CP.out.mono ?_; rintro e w' ⟨rfl, rfl⟩)
      | (go_at_call 19; refine CH.out.mono ?_; rintro e w' ⟨rfl, rfl⟩)
      | (go_at_call 20; refine CV.out.mono ?_; rintro e w' ⟨rfl, rfl⟩))
    go_ret
    exact ⟨ret_i64 HE.out.symm, BF.out⟩
  | some k =>
    rw [hp, show oI (some k) = (k : Int) from rfl] at CP
    have hk := plD_lt hp
    have hk1 : ¬ (k : Int) < 0 := by omega
    have hk2 : (k : Int) < (t.n : Int) := by omega
    obtain ⟨b, off, hA, hbl, RR, _, kd⟩ := IT.out.get hk
    clear RR
    have kd := (BF.out.cell (p := ⟨b, off + k * 3 + 2, none⟩) hbl).trans kd
    have c13 := CP.out
    rw [hA] at x13 c13
    have CP := Lib.hid c13
    clear c13
    have HA := Lib.hid hA
    clear hA
    have HP := Lib.hid hp
    cases q1 : hsT blk (nmB t.us dev)
    case true =>
      rw [q1] at CH
      have HE : Hid (R = 0) := Lib.hid (by rw [← HR.out]; unfold tr rl; rw [HP.out]; simp only []; rw [if_pos q1]; rfl)
      clear HR hp q1
      go_enter Tryd.func10, Tryd.ntmps10
      go_wp2_with (first
        | (go_at_call 18; refine CP.out.mono ?_; rintro e w' ⟨rfl, rfl⟩)
        | (go_at_call 19; refine CH.out.mono ?_; rintro e w' ⟨rfl, rfl⟩)
        | (go_at_call 20; refine CV.out.mono ?_; rintro e w' ⟨rfl, rfl⟩))
      go_ret
      exact ⟨ret_i64 HE.out.symm, BF.out⟩
    rw [q1] at CH
    have Q1 := Lib.hid q1
    clear q1
    generalize hsg : (t.D k).sg = sg at kd
    have HSG := Lib.hid hsg
    clear hsg
    cases sg
    · 
      have HE : Hid (R = 1) := Lib.hid (by rw [← HR.out]; unfold tr rl; rw [HP.out]; simp only []; rw [if_neg (by rw [Q1.out]; decide), if_pos HSG.out]; rfl)
      clear HR hp
      go_enter Tryd.func10, Tryd.ntmps10
      go_wp2_with (first
        | (go_at_call 18; refine CP.out.mono ?_; rintro e w' ⟨rfl, rfl⟩)
        | (go_at_call 19; refine CH.out.mono ?_; rintro e w' ⟨rfl, rfl⟩)
        | (go_at_call 20; refine CV.out.mono ?_; rintro e w' ⟨rfl, rfl⟩))
      go_ret
      exact ⟨ret_i64 HE.out.symm, BF.out⟩
    by_cases q3 : t.ms = 0
    · have q3b : (t.ms == 0) = true := beq_iff_eq.2 q3
      have HE : Hid (R = 1) := Lib.hid (by rw [← HR.out]; unfold tr rl; rw [HP.out]; simp only []; rw [if_neg (by rw [Q1.out]; decide), if_neg (by rw [HSG.out]; decide), if_pos q3]; rfl)
      clear HR hp q3
      go_enter Tryd.func10, Tryd.ntmps10
      go_wp2_with (first
        | (go_at_call 18; refine CP.out.mono ?_; rintro e w' ⟨rfl, rfl⟩)
        | (go_at_call 19; refine CH.out.mono ?_; rintro e w' ⟨rfl, rfl⟩)
        | (go_at_call 20; refine CV.out.mono ?_; rintro e w' ⟨rfl, rfl⟩))
      go_ret
      exact ⟨ret_i64 HE.out.symm, BF.out⟩
    have q3b : (t.ms == 0) = false := beq_eq_false_iff_ne.2 q3
    have Q3 := Lib.hid q3
    clear q3
    cases q4 : Q.hsB ver t.ms
    case true =>
      rw [q4] at CV
      have HE : Hid (R = 3) := Lib.hid (by rw [← HR.out]; unfold tr rl; rw [HP.out]; simp only []; rw [if_neg (by rw [Q1.out]; decide), if_neg (by rw [HSG.out]; decide), if_neg Q3.out, if_pos q4]; rfl)
      clear HR hp q4
      go_enter Tryd.func10, Tryd.ntmps10
      go_wp2_with (first
        | (go_at_call 18; refine CP.out.mono ?_; rintro e w' ⟨rfl, rfl⟩)
        | (go_at_call 19; refine CH.out.mono ?_; rintro e w' ⟨rfl, rfl⟩)
        | (go_at_call 20; refine CV.out.mono ?_; rintro e w' ⟨rfl, rfl⟩))
      go_ret
      exact ⟨ret_i64 HE.out.symm, BF.out⟩
    rw [q4] at CV
    have Q4 := Lib.hid q4
    clear q4
    cases q5 : eqB o.us t.us
    · have q5b : (o.us.toList == t.us.toList) = false := q5
      have HE : Hid (R = 2) := Lib.hid (by rw [← HR.out]; unfold tr rl; rw [HP.out]; simp only []; rw [if_neg (by rw [Q1.out]; decide), if_neg (by rw [HSG.out]; decide), if_neg Q3.out, if_neg (by rw [Q4.out]; decide), if_neg (by rw [q5]; exact fun h => by cases h.1)]; rfl)
      clear HR hp q5
      go_enter Tryd.func10, Tryd.ntmps10
      go_wp2_with (first
        | (go_at_call 18; refine CP.out.mono ?_; rintro e w' ⟨rfl, rfl⟩)
        | (go_at_call 19; refine CH.out.mono ?_; rintro e w' ⟨rfl, rfl⟩)
        | (go_at_call 20; refine CV.out.mono ?_; rintro e w' ⟨rfl, rfl⟩))
      go_ret
      exact ⟨ret_i64 HE.out.symm, BF.out⟩
    have q5b : (o.us.toList == t.us.toList) = true := q5
    by_cases q6 : o.ms = t.ms
    · have q6b : (o.ms == t.ms) = true := beq_iff_eq.2 q6
      have HE : Hid (R = 3) := Lib.hid (by rw [← HR.out]; unfold tr rl; rw [HP.out]; simp only []; rw [if_neg (by rw [Q1.out]; decide), if_neg (by rw [HSG.out]; decide), if_neg Q3.out, if_neg (by rw [Q4.out]; decide), if_pos ⟨q5, q6⟩]; rfl)
      clear HR hp q5 q6
      go_enter Tryd.func10, Tryd.ntmps10
      go_wp2_with (first
        | (go_at_call 18; refine CP.out.mono ?_; rintro e w' ⟨rfl, rfl⟩)
        | (go_at_call 19; refine CH.out.mono ?_; rintro e w' ⟨rfl, rfl⟩)
        | (go_at_call 20; refine CV.out.mono ?_; rintro e w' ⟨rfl, rfl⟩))
      go_ret
      exact ⟨ret_i64 HE.out.symm, BF.out⟩
    · have q6b : (o.ms == t.ms) = false := beq_eq_false_iff_ne.2 q6
      have HE : Hid (R = 2) := Lib.hid (by rw [← HR.out]; unfold tr rl; rw [HP.out]; simp only []; rw [if_neg (by rw [Q1.out]; decide), if_neg (by rw [HSG.out]; decide), if_neg Q3.out, if_neg (by rw [Q4.out]; decide), if_neg (fun h => q6 h.2)]; rfl)
      clear HR hp q5 q6
      go_enter Tryd.func10, Tryd.ntmps10
      go_wp2_with (first
        | (go_at_call 18; refine CP.out.mono ?_; rintro e w' ⟨rfl, rfl⟩)
        | (go_at_call 19; refine CH.out.mono ?_; rintro e w' ⟨rfl, rfl⟩)
        | (go_at_call 20; refine CV.out.mono ?_; rintro e w' ⟨rfl, rfl⟩))
      go_ret
      exact ⟨ret_i64 HE.out.symm, BF.out⟩
end Go.Proofs.YtaaaeeljjfblnaaDoor
