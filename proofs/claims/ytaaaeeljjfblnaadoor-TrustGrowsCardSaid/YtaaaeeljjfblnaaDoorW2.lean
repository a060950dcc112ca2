/- trust.Of and the reference's Of: how far a device is trusted. Conditions: short texts; the listed table. -/
import Derived.Test.YtaaaeeljjfblnaaDoorW1
import Derived.Test.YtaaaeeljjfblnaaDoorL11
namespace Go.Proofs.YtaaaeeljjfblnaaDoor
open Go.RowKit
set_option linter.unusedVariables false
set_option linter.unusedSimpArgs false
set_option maxRecDepth 100000

/-- A user's keys. -/
structure Ks where
  us : ByteArray
  ms : Int
  ps : Int
  A : Option Addr
  n : Nat
  c : Nat
  D : Nat → Dv
abbrev cellsK (k : Ks) : List Value := [.string k.us, .int .i64 k.ms, .int .i64 k.ps, .slice k.A k.n k.c]
def IsK (w : World) (k : Ks) : Prop := Dvs w k.A k.n k.c k.D
theorem IsK.below {w w1 : World} {k : Ks} (h : IsK w k) (hb : Below w.heap.size w w1) : IsK w1 k := Dvs.below h hb
def nmB (us dev : ByteArray) : ByteArray := us ++ ⟨#[47]⟩ ++ dev
/-- The rule that applies. -/
def rl (o t : Ks) (dev : ByteArray) (ver : List Int) (blk : List T.Rc) : Int :=
  match plD t.D dev t.n with
  | none => 0
  | some k => if hsT blk (nmB t.us dev) = true then 0 else if (t.D k).sg = false then 1 else if t.ms = 0 then 1 else if Q.hsB ver t.ms = true then 2 else if eqB o.us t.us = true ∧ o.ms = t.ms then 2 else 3
def ans (r : Int) : Int := if r = 2 then 3 else if r = 3 then 2 else r
theorem rl_cases (o t : Ks) (dev : ByteArray) (ver : List Int) (blk : List T.Rc) : rl o t dev ver blk = 0 ∨ rl o t dev ver blk = 1 ∨ rl o t dev ver blk = 2 ∨ rl o t dev ver blk = 3 := by
  unfold rl
  split
  · exact .inl rfl
  · split
    · exact .inl rfl
    · split
      · exact .inr (.inl rfl)
      · split
        · exact .inr (.inl rfl)
        · split
          · exact .inr (.inr (.inl rfl))
          · split
            · exact .inr (.inr (.inl rfl))
            · exact .inr (.inr (.inr rfl))
theorem size24 : (Tryd.prog.info? 24).map (·.size) = some 4 := by kernel_rfl
abbrev box2 (w : World) (o t : Ks) : World := (w.alloc (.cells (cellsK o).toArray 24)).alloc (.cells (cellsK t).toArray 24)
theorem box2_below (w : World) (o t : Ks) : Below w.heap.size w (box2 w o t) := ((Below.refl _ w).alloc (Nat.le_refl _) _).alloc (by simp) _
theorem box2_0 (w : World) (o t : Ks) : Blk (box2 w o t) w.heap.size (cellsK o) 24 := (blk_new w (cellsK o) 24).alloc _
theorem box2_1 (w : World) (o t : Ks) : Blk (box2 w o t) (w.heap.size + 1) (cellsK t) 24 := by
  have := blk_new (w.alloc (.cells (cellsK o).toArray 24)) (cellsK t) 24
  rwa [show (w.alloc (.cells (cellsK o).toArray 24)).heap.size = w.heap.size + 1 by simp] at this
set_option maxHeartbeats 8000000 in
theorem rule29 (o t : Ks) (dev : ByteArray) (vA bA : Option Addr) (vn vc bn bc : Nat) (ver : List Int) (blk : List T.Rc) (w : World) (ht : IsK w t) (hv : Q.Ints w vA vn vc ver) (hb : T.Rcs w bA bn bc blk) (hs : t.us.size + 1 + dev.size ≤ 1000000) :
    Calls Tryd.prog 29 #[.agg (cellsK o).toArray, .agg (cellsK t).toArray, .string dev, .slice vA vn vc, .slice bA bn bc] w fun e w' => e = .returned (.int .i64 (rl o t dev ver blk)) ∧ Below w.heap.size w w' := by
  have B0 := Lib.hid ((box2_below w o t).alloc (box2_below w o t).size (.cells #[.string dev] 9))
  have Y0 := Lib.hid ((box2_0 w o t).alloc (.cells #[.string dev] 9))
  have Y1 := Lib.hid ((box2_1 w o t).alloc (.cells #[.string dev] 9))
  have Y2 : Hid (Blk ((box2 w o t).alloc (.cells #[.string dev] 9)) (w.heap.size + 1 + 1) [.string dev] 9) := Lib.hid (by
    have := blk_new (box2 w o t) [.string dev] 9
    rwa [show (box2 w o t).heap.size = w.heap.size + 1 + 1 by simp] at this)
  have y13 := Y1.out.cell (i := 3) rfl
  have CP := Lib.hid (index34 t.A t.n t.c (w.heap.size + 1 + 1) dev t.D _ (ht.below B0.out) (Y2.out.cell (i := 0) rfl) Y2.out.lt)
  have IT := Lib.hid (show Dvs w t.A t.n t.c t.D from ht)
  have CH := Lib.hid (fun u (hu : Below w.heap.size w u) => contains36 bA bn bc blk (nmB t.us dev) u (hb.below hu))
  have CV := Lib.hid (fun u (hu : Below w.heap.size w u) => Q.has_any vA vn vc ver t.ms u (hv.below hu))
  have hs1 : ¬ 9223372036854775807 < t.us.size + 1 := by omega
  have hs2 : ¬ 9223372036854775807 < t.us.size + 1 + dev.size := by omega
  generalize hR : rl o t dev ver blk = R
  have HR := Lib.hid hR
  clear hR ht hv hb hs
  show Calls Tryd.prog 29 #[.agg #[.string o.us, .int .i64 o.ms, .int .i64 o.ps, .slice o.A o.n o.c], .agg #[.string t.us, .int .i64 t.ms, .int .i64 t.ps, .slice t.A t.n t.c], .string dev, .slice vA vn vc, .slice bA bn bc] w _
  cases hp : plD t.D dev t.n with
  | none =>
    rw [hp, show oI none = -1 from rfl] at CP
    have HE : Hid (R = 0) := Lib.hid (by rw [← HR.out]; unfold rl; rw [hp])
    clear HR hp
    go_enter Tryd.func29, Tryd.ntmps29
    go_wp2_with (first
      | (go_at_call 34; (with_reducible refine CP.out.mono ?_); rintro e w1 ⟨rfl, hb1⟩; have BF := Lib.hid (B0.out.trans (hb1.mono B0.out.size)); have X0 := Lib.hid (Y0.out.below hb1); have X1 := Lib.hid (Y1.out.below hb1); have X2 := Lib.hid (Y2.out.below hb1); clear y13; have x00 := X0.out.cell (i := 0) rfl; have x01 := X0.out.cell (i := 1) rfl; have x10 := X1.out.cell (i := 0) rfl; have x11 := X1.out.cell (i := 1) rfl; have x13 := X1.out.cell (i := 3) rfl; have x20 := X2.out.cell (i := 0) rfl; clear hb1)
      | (go_at_call 36; refine (CH.out _ BF.out).mono ?_; rintro e w' ⟨rfl, rfl⟩)
      | (go_at_call 37; (with_reducible refine (CV.out _ BF.out).mono ?_); rintro e w' ⟨rfl, rfl⟩))
    go_ret
    exact ⟨ret_i64 HE.out.symm, BF.out⟩
  | some k =>
    rw [hp, show oI (some k) = (k : Int) from rfl] at CP
    have hk := plD_lt hp
    have hk1 : ¬ (k : Int) < 0 := by omega
    have hk2 : (k : Int) < (t.n : Int) := by omega
    obtain ⟨b, off, hA, hbl, RR, _, kd⟩ := IT.out.get hk
    clear RR
    have HA := Lib.hid hA
    clear hA
    have HP := Lib.hid hp
    cases q1 : hsT blk (nmB t.us dev)
    case true =>
      rw [q1] at CH
      have HE : Hid (R = 0) := Lib.hid (by rw [← HR.out]; unfold rl; rw [HP.out]; simp only []; rw [if_pos q1])
      clear HR hp q1
      go_enter Tryd.func29, Tryd.ntmps29
      go_wp2_with (first
        | (go_at_call 34; (with_reducible refine CP.out.mono ?_); rintro e w1 ⟨rfl, hb1⟩; have BF := Lib.hid (B0.out.trans (hb1.mono B0.out.size)); have X0 := Lib.hid (Y0.out.below hb1); have X1 := Lib.hid (Y1.out.below hb1); have X2 := Lib.hid (Y2.out.below hb1); clear y13; have x00 := X0.out.cell (i := 0) rfl; have x01 := X0.out.cell (i := 1) rfl; have x10 := X1.out.cell (i := 0) rfl; have x11 := X1.out.cell (i := 1) rfl; have x13 := X1.out.cell (i := 3) rfl; have x20 := X2.out.cell (i := 0) rfl; clear hb1; rw [HA.out] at x13; have kd1 := (BF.out.cell (p := ⟨b, off + k * 3 + 2, none⟩) hbl).trans kd)
        | (go_at_call 36; refine (CH.out _ BF.out).mono ?_; rintro e w' ⟨rfl, rfl⟩)
        | (go_at_call 37; (with_reducible refine (CV.out _ BF.out).mono ?_); rintro e w' ⟨rfl, rfl⟩))
      go_ret
      exact ⟨ret_i64 HE.out.symm, BF.out⟩
    rw [q1] at CH
    have Q1 := Lib.hid q1
    clear q1
    generalize hsg : (t.D k).sg = sg at kd
    have HSG := Lib.hid hsg
    clear hsg
    cases sg
    · 
      have HE : Hid (R = 1) := Lib.hid (by rw [← HR.out]; unfold rl; rw [HP.out]; simp only []; rw [if_neg (by rw [Q1.out]; decide), if_pos HSG.out])
      clear HR hp
      go_enter Tryd.func29, Tryd.ntmps29
      go_wp2_with (first
        | (go_at_call 34; (with_reducible refine CP.out.mono ?_); rintro e w1 ⟨rfl, hb1⟩; have BF := Lib.hid (B0.out.trans (hb1.mono B0.out.size)); have X0 := Lib.hid (Y0.out.below hb1); have X1 := Lib.hid (Y1.out.below hb1); have X2 := Lib.hid (Y2.out.below hb1); clear y13; have x00 := X0.out.cell (i := 0) rfl; have x01 := X0.out.cell (i := 1) rfl; have x10 := X1.out.cell (i := 0) rfl; have x11 := X1.out.cell (i := 1) rfl; have x13 := X1.out.cell (i := 3) rfl; have x20 := X2.out.cell (i := 0) rfl; clear hb1; rw [HA.out] at x13; have kd1 := (BF.out.cell (p := ⟨b, off + k * 3 + 2, none⟩) hbl).trans kd)
        | (go_at_call 36; refine (CH.out _ BF.out).mono ?_; rintro e w' ⟨rfl, rfl⟩)
        | (go_at_call 37; (with_reducible refine (CV.out _ BF.out).mono ?_); rintro e w' ⟨rfl, rfl⟩))
      go_ret
      exact ⟨ret_i64 HE.out.symm, BF.out⟩
    by_cases q3 : t.ms = 0
    · have q3b : (t.ms == 0) = true := beq_iff_eq.2 q3
      have HE : Hid (R = 1) := Lib.hid (by rw [← HR.out]; unfold rl; rw [HP.out]; simp only []; rw [if_neg (by rw [Q1.out]; decide), if_neg (by rw [HSG.out]; decide), if_pos q3])
      clear HR hp q3
      go_enter Tryd.func29, Tryd.ntmps29
      go_wp2_with (first
        | (go_at_call 34; (with_reducible refine CP.out.mono ?_); rintro e w1 ⟨rfl, hb1⟩; have BF := Lib.hid (B0.out.trans (hb1.mono B0.out.size)); have X0 := Lib.hid (Y0.out.below hb1); have X1 := Lib.hid (Y1.out.below hb1); have X2 := Lib.hid (Y2.out.below hb1); clear y13; have x00 := X0.out.cell (i := 0) rfl; have x01 := X0.out.cell (i := 1) rfl; have x10 := X1.out.cell (i := 0) rfl; have x11 := X1.out.cell (i := 1) rfl; have x13 := X1.out.cell (i := 3) rfl; have x20 := X2.out.cell (i := 0) rfl; clear hb1; rw [HA.out] at x13; have kd1 := (BF.out.cell (p := ⟨b, off + k * 3 + 2, none⟩) hbl).trans kd)
        | (go_at_call 36; refine (CH.out _ BF.out).mono ?_; rintro e w' ⟨rfl, rfl⟩)
        | (go_at_call 37; (with_reducible refine (CV.out _ BF.out).mono ?_); rintro e w' ⟨rfl, rfl⟩))
      go_ret
      exact ⟨ret_i64 HE.out.symm, BF.out⟩
    have q3b : (t.ms == 0) = false := beq_eq_false_iff_ne.2 q3
    have Q3 := Lib.hid q3
    clear q3
    cases q4 : Q.hsB ver t.ms
    case true =>
      rw [q4] at CV
      have HE : Hid (R = 2) := Lib.hid (by rw [← HR.out]; unfold rl; rw [HP.out]; simp only []; rw [if_neg (by rw [Q1.out]; decide), if_neg (by rw [HSG.out]; decide), if_neg Q3.out, if_pos q4])
      clear HR hp q4
      go_enter Tryd.func29, Tryd.ntmps29
      go_wp2_with (first
        | (go_at_call 34; (with_reducible refine CP.out.mono ?_); rintro e w1 ⟨rfl, hb1⟩; have BF := Lib.hid (B0.out.trans (hb1.mono B0.out.size)); have X0 := Lib.hid (Y0.out.below hb1); have X1 := Lib.hid (Y1.out.below hb1); have X2 := Lib.hid (Y2.out.below hb1); clear y13; have x00 := X0.out.cell (i := 0) rfl; have x01 := X0.out.cell (i := 1) rfl; have x10 := X1.out.cell (i := 0) rfl; have x11 := X1.out.cell (i := 1) rfl; have x13 := X1.out.cell (i := 3) rfl; have x20 := X2.out.cell (i := 0) rfl; clear hb1; rw [HA.out] at x13; have kd1 := (BF.out.cell (p := ⟨b, off + k * 3 + 2, none⟩) hbl).trans kd)
        | (go_at_call 36; refine (CH.out _ BF.out).mono ?_; rintro e w' ⟨rfl, rfl⟩)
        | (go_at_call 37; (with_reducible refine (CV.out _ BF.out).mono ?_); rintro e w' ⟨rfl, rfl⟩))
      go_ret
      exact ⟨ret_i64 HE.out.symm, BF.out⟩
    rw [q4] at CV
    have Q4 := Lib.hid q4
    clear q4
    cases q5 : eqB o.us t.us
    · have q5b : (o.us.toList == t.us.toList) = false := q5
      have HE : Hid (R = 3) := Lib.hid (by rw [← HR.out]; unfold rl; rw [HP.out]; simp only []; rw [if_neg (by rw [Q1.out]; decide), if_neg (by rw [HSG.out]; decide), if_neg Q3.out, if_neg (by rw [Q4.out]; decide), if_neg (by rw [q5]; exact fun h => by cases h.1)])
      clear HR hp q5
      go_enter Tryd.func29, Tryd.ntmps29
      go_wp2_with (first
        | (go_at_call 34; (with_reducible refine CP.out.mono ?_); rintro e w1 ⟨rfl, hb1⟩; have BF := Lib.hid (B0.out.trans (hb1.mono B0.out.size)); have X0 := Lib.hid (Y0.out.below hb1); have X1 := Lib.hid (Y1.out.below hb1); have X2 := Lib.hid (Y2.out.below hb1); clear y13; have x00 := X0.out.cell (i := 0) rfl; have x01 := X0.out.cell (i := 1) rfl; have x10 := X1.out.cell (i := 0) rfl; have x11 := X1.out.cell (i := 1) rfl; have x13 := X1.out.cell (i := 3) rfl; have x20 := X2.out.cell (i := 0) rfl; clear hb1; rw [HA.out] at x13; have kd1 := (BF.out.cell (p := ⟨b, off + k * 3 + 2, none⟩) hbl).trans kd)
        | (go_at_call 36; refine (CH.out _ BF.out).mono ?_; rintro e w' ⟨rfl, rfl⟩)
        | (go_at_call 37; (with_reducible refine (CV.out _ BF.out).mono ?_); rintro e w' ⟨rfl, rfl⟩))
      go_ret
      exact ⟨ret_i64 HE.out.symm, BF.out⟩
    have q5b : (o.us.toList == t.us.toList) = true := q5
    by_cases q6 : o.ms = t.ms
    · have q6b : (o.ms == t.ms) = true := beq_iff_eq.2 q6
      have HE : Hid (R = 2) := Lib.hid (by rw [← HR.out]; unfold rl; rw [HP.out]; simp only []; rw [if_neg (by rw [Q1.out]; decide), if_neg (by rw [HSG.out]; decide), if_neg Q3.out, if_neg (by rw [Q4.out]; decide), if_pos ⟨q5, q6⟩])
      clear HR hp q5 q6
      go_enter Tryd.func29, Tryd.ntmps29
      go_wp2_with (first
        | (go_at_call 34; (with_reducible refine CP.out.mono ?_); rintro e w1 ⟨rfl, hb1⟩; have BF := Lib.hid (B0.out.trans (hb1.mono B0.out.size)); have X0 := Lib.hid (Y0.out.below hb1); have X1 := Lib.hid (Y1.out.below hb1); have X2 := Lib.hid (Y2.out.below hb1); clear y13; have x00 := X0.out.cell (i := 0) rfl; have x01 := X0.out.cell (i := 1) rfl; have x10 := X1.out.cell (i := 0) rfl; have x11 := X1.out.cell (i := 1) rfl; have x13 := X1.out.cell (i := 3) rfl; have x20 := X2.out.cell (i := 0) rfl; clear hb1; rw [HA.out] at x13; have kd1 := (BF.out.cell (p := ⟨b, off + k * 3 + 2, none⟩) hbl).trans kd)
        | (go_at_call 36; refine (CH.out _ BF.out).mono ?_; rintro e w' ⟨rfl, rfl⟩)
        | (go_at_call 37; (with_reducible refine (CV.out _ BF.out).mono ?_); rintro e w' ⟨rfl, rfl⟩))
      go_ret
      exact ⟨ret_i64 HE.out.symm, BF.out⟩
    · have q6b : (o.ms == t.ms) = false := beq_eq_false_iff_ne.2 q6
      have HE : Hid (R = 3) := Lib.hid (by rw [← HR.out]; unfold rl; rw [HP.out]; simp only []; rw [if_neg (by rw [Q1.out]; decide), if_neg (by rw [HSG.out]; decide), if_neg Q3.out, if_neg (by rw [Q4.out]; decide), if_neg (fun h => q6 h.2)])
      clear HR hp q5 q6
      go_enter Tryd.func29, Tryd.ntmps29
      go_wp2_with (first
        | (go_at_call 34; (with_reducible refine CP.out.mono ?_); rintro e w1 ⟨rfl, hb1⟩; have BF := Lib.hid (B0.out.trans (hb1.mono B0.out.size)); have X0 := Lib.hid (Y0.out.below hb1); have X1 := Lib.hid (Y1.out.below hb1); have X2 := Lib.hid (Y2.out.below hb1); clear y13; have x00 := X0.out.cell (i := 0) rfl; have x01 := X0.out.cell (i := 1) rfl; have x10 := X1.out.cell (i := 0) rfl; have x11 := X1.out.cell (i := 1) rfl; have x13 := X1.out.cell (i := 3) rfl; have x20 := X2.out.cell (i := 0) rfl; clear hb1; rw [HA.out] at x13; have kd1 := (BF.out.cell (p := ⟨b, off + k * 3 + 2, none⟩) hbl).trans kd)
        | (go_at_call 36; refine (CH.out _ BF.out).mono ?_; rintro e w' ⟨rfl, rfl⟩)
        | (go_at_call 37; (with_reducible refine (CV.out _ BF.out).mono ?_); rintro e w' ⟨rfl, rfl⟩))
      go_ret
      exact ⟨ret_i64 HE.out.symm, BF.out⟩
end Go.Proofs.YtaaaeeljjfblnaaDoor
