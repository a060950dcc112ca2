/- The walk of TrustGrounds. Condition: the listed table. -/
import Derived.Test.YtaaaeeljjfblnaaDoorW9
namespace Go.Proofs.YtaaaeeljjfblnaaDoor
open Go.RowKit
set_option linter.unusedVariables false
set_option linter.unusedSimpArgs false
set_option maxRecDepth 100000

set_option maxHeartbeats 16000000 in
theorem grounds5 (c : Cs) (w : World) (h : RawC w c) (hT : An w) : Calls Tryd.prog 5 #[.agg (cellsC c).toArray] w fun e w' => e = .returned (.bool true) ∧ Below w.heap.size w w' := by
  have B0 := Lib.hid ((Below.refl w.heap.size w).alloc (Nat.le_refl _) (.cells (cellsC c).toArray 28))
  have X0 := Lib.hid (blk_new w (cellsC c) 28)
  have C7 := Lib.hid (small7 c _ (h.below B0.out))
  have HR := Lib.hid h
  have HT := Lib.hid hT
  have LV := Lib.hid (fun u (hu : Below w.heap.size w u) => lives_any u (hT.below hu))
  clear h hT
  show Calls Tryd.prog 5 #[.agg #[.string c.o.us, .int .i64 c.o.ms, .int .i64 c.o.ps, .slice c.o.A c.o.n c.o.c, .string c.t.us, .int .i64 c.t.ms, .int .i64 c.t.ps, .slice c.t.A c.t.n c.t.c, .string c.dev, .slice c.vA c.vn c.vc, .slice c.bA c.bn c.bc, .bool c.s]] w _
  go_enter Tryd.func5, Tryd.ntmps5
  go_upto_region 3 with (first
    | (refine wpList_load_mid rfl 28 _ rfl w.heap.size 0 rfl (cellsC c) _ X0.out.range Tryd.underlying28 rfl size28 ?_)
    | (go_at_call 7; (with_reducible refine C7.out.mono ?_); rintro e w1 ⟨⟨q, rfl, hq⟩, hb1⟩; have HQ := Lib.hid hq; have B1 := Lib.hid (B0.out.trans (hb1.mono B0.out.size)); have X1 := Lib.hid (X0.out.below hb1); clear hq hb1; cases q)
    | (go_at_call 8; (with_reducible refine (LV.out _ B1.out).mono ?_); rintro e w2 ⟨rfl, hb2⟩; have B2 := Lib.hid (B1.out.trans (hb2.mono B1.out.size)); clear hb2))
  all_goals first
    | (go_ret; exact ⟨rfl, B2.out⟩)
    | skip
  have hS := HQ.out (by trivial)
  have C9 := Lib.hid (HR.out.of hS HT.out B1.out)
  have CP := Lib.hid (fun u (hu : Below w.heap.size w u) => place18 c.t.A c.t.n c.t.c c.dev c.t.D u (HR.out.t.below hu))
  go_upto_region 5 with (first
    | (refine wpList_load_mid rfl 28 _ rfl w.heap.size 0 rfl (cellsC c) _ X1.out.range Tryd.underlying28 rfl size28 ?_)
    | (go_at_call 9; (with_reducible refine C9.out.mono ?_); rintro e w2 ⟨rfl, hb2⟩; have B2 := Lib.hid (B1.out.trans (hb2.mono B1.out.size)); have X2 := Lib.hid (X1.out.below hb2); have x0 := X2.out.cell (i := 0) rfl; have x1 := X2.out.cell (i := 1) rfl; have x4 := X2.out.cell (i := 4) rfl; have x5 := X2.out.cell (i := 5) rfl; have x7 := X2.out.cell (i := 7) rfl; have x8 := X2.out.cell (i := 8) rfl; have x9 := X2.out.cell (i := 9) rfl; have x10 := X2.out.cell (i := 10) rfl; clear hb2)
    | (go_at_call 18; (with_reducible refine (CP.out _ B2.out).mono ?_); rintro e w' ⟨rfl, rfl⟩))
  have hs1 : ¬ 9223372036854775807 < c.t.us.size + 1 := by have := hS.ut; omega
  have hs2 : ¬ 9223372036854775807 < c.t.us.size + 1 + c.dev.size := by have h1 := hS.ut; have h2 := hS.ud; omega
  have CH := Lib.hid (hasT19 c.bA c.bn c.bc c.blk (nmB c.t.us c.dev) w2 (HR.out.b.below B2.out))
  have CV := Lib.hid (Q.rhas_any c.vA c.vn c.vc c.ver c.t.ms w2 ((HR.out.ints (by have := hS.vn; omega)).below B2.out))
  have IT := Lib.hid (show Dvs w c.t.A c.t.n c.t.c c.t.D from HR.out.t)
  clear HQ hS HR C7 X0 X1 C9 CP HT B0 X2
  cases hp : plD c.t.D c.dev c.t.n with
  | none =>
    rw [show oI none = -1 from rfl]
    have HE : trC c = 0 := by unfold trC tr rl; rw [hp]; rfl
    rw [HE]
    clear HE hp
    go_wp2_with (first
      | (go_at_call 19; refine CH.out.mono ?_; rintro e w' ⟨rfl, rfl⟩)
      | (go_at_call 20; refine CV.out.mono ?_; rintro e w' ⟨rfl, rfl⟩)
      | (go_at_call 8; (with_reducible refine (LV.out _ B2.out).mono ?_); rintro e w3 ⟨rfl, hb3⟩; have B3 := Lib.hid (B2.out.trans (hb3.mono B2.out.size)); clear hb3))
    go_ret
    exact ⟨rfl, B3.out⟩
  | some k =>
    rw [show oI (some k) = (k : Int) from rfl]
    have hk := plD_lt hp
    have hk1 : ¬ (k : Int) < 0 := by omega
    have hk2 : (k : Int) < (c.t.n : Int) := by omega
    obtain ⟨b, off, hA, hbl, RR, _, kd⟩ := IT.out.get hk
    have kd1 := (B2.out.cell (p := ⟨b, off + k * 3 + 2, none⟩) hbl).trans kd
    rw [hA] at x7
    clear RR hA kd
    have HP := Lib.hid hp
    clear hp
    cases q1 : hsT c.blk (nmB c.t.us c.dev)
    case true =>
      rw [q1] at CH
      have HE : trC c = 0 := by unfold trC tr rl; rw [HP.out]; simp only []; rw [if_pos q1]; rfl
      rw [HE]
      clear HE q1
      go_wp2_with (first
        | (go_at_call 19; refine CH.out.mono ?_; rintro e w' ⟨rfl, rfl⟩)
        | (go_at_call 20; refine CV.out.mono ?_; rintro e w' ⟨rfl, rfl⟩)
        | (go_at_call 8; (with_reducible refine (LV.out _ B2.out).mono ?_); rintro e w3 ⟨rfl, hb3⟩; have B3 := Lib.hid (B2.out.trans (hb3.mono B2.out.size)); clear hb3))
      go_ret
      exact ⟨rfl, B3.out⟩
    rw [q1] at CH
    have Q1 := Lib.hid q1
    clear q1
    generalize hsg : (c.t.D k).sg = sg at kd1
    have HSG := Lib.hid hsg
    clear hsg
    cases sg
    · 
      have HE : trC c = 1 := by unfold trC tr rl; rw [HP.out]; simp only []; rw [if_neg (by rw [Q1.out]; decide), if_pos HSG.out]; rfl
      rw [HE]
      clear HE 
      go_wp2_with (first
        | (go_at_call 19; refine CH.out.mono ?_; rintro e w' ⟨rfl, rfl⟩)
        | (go_at_call 20; refine CV.out.mono ?_; rintro e w' ⟨rfl, rfl⟩)
        | (go_at_call 8; (with_reducible refine (LV.out _ B2.out).mono ?_); rintro e w3 ⟨rfl, hb3⟩; have B3 := Lib.hid (B2.out.trans (hb3.mono B2.out.size)); clear hb3))
      go_ret
      exact ⟨rfl, B3.out⟩
    by_cases q3 : c.t.ms = 0
    · have q3b : (c.t.ms == 0) = true := beq_iff_eq.2 q3
      have HE : trC c = 1 := by unfold trC tr rl; rw [HP.out]; simp only []; rw [if_neg (by rw [Q1.out]; decide), if_neg (by rw [HSG.out]; decide), if_pos q3]; rfl
      rw [HE]
      clear HE q3
      go_wp2_with (first
        | (go_at_call 19; refine CH.out.mono ?_; rintro e w' ⟨rfl, rfl⟩)
        | (go_at_call 20; refine CV.out.mono ?_; rintro e w' ⟨rfl, rfl⟩)
        | (go_at_call 8; (with_reducible refine (LV.out _ B2.out).mono ?_); rintro e w3 ⟨rfl, hb3⟩; have B3 := Lib.hid (B2.out.trans (hb3.mono B2.out.size)); clear hb3))
      go_ret
      exact ⟨rfl, B3.out⟩
    have q3b : (c.t.ms == 0) = false := beq_eq_false_iff_ne.2 q3
    have Q3 := Lib.hid q3
    clear q3
    cases q4 : Q.hsB c.ver c.t.ms
    case true =>
      rw [q4] at CV
      have HE : trC c = 3 := by unfold trC tr rl; rw [HP.out]; simp only []; rw [if_neg (by rw [Q1.out]; decide), if_neg (by rw [HSG.out]; decide), if_neg Q3.out, if_pos q4]; rfl
      rw [HE]
      clear HE q4
      go_wp2_with (first
        | (go_at_call 19; refine CH.out.mono ?_; rintro e w' ⟨rfl, rfl⟩)
        | (go_at_call 20; refine CV.out.mono ?_; rintro e w' ⟨rfl, rfl⟩)
        | (go_at_call 8; (with_reducible refine (LV.out _ B2.out).mono ?_); rintro e w3 ⟨rfl, hb3⟩; have B3 := Lib.hid (B2.out.trans (hb3.mono B2.out.size)); clear hb3))
      go_ret
      exact ⟨rfl, B3.out⟩
    rw [q4] at CV
    have Q4 := Lib.hid q4
    clear q4
    cases q5 : eqB c.o.us c.t.us
    · have q5b : (c.o.us.toList == c.t.us.toList) = false := q5
      have HE : trC c = 2 := by unfold trC tr rl; rw [HP.out]; simp only []; rw [if_neg (by rw [Q1.out]; decide), if_neg (by rw [HSG.out]; decide), if_neg Q3.out, if_neg (by rw [Q4.out]; decide), if_neg (by rw [q5]; exact fun h => by cases h.1)]; rfl
      rw [HE]
      clear HE q5
      go_wp2_with (first
        | (go_at_call 19; refine CH.out.mono ?_; rintro e w' ⟨rfl, rfl⟩)
        | (go_at_call 20; refine CV.out.mono ?_; rintro e w' ⟨rfl, rfl⟩)
        | (go_at_call 8; (with_reducible refine (LV.out _ B2.out).mono ?_); rintro e w3 ⟨rfl, hb3⟩; have B3 := Lib.hid (B2.out.trans (hb3.mono B2.out.size)); clear hb3))
      go_ret
      exact ⟨rfl, B3.out⟩
    have q5b : (c.o.us.toList == c.t.us.toList) = true := q5
    by_cases q6 : c.o.ms = c.t.ms
    · have q6b : (c.o.ms == c.t.ms) = true := beq_iff_eq.2 q6
      have q6c : (c.o.ms != c.t.ms) = false := by rw [bne, q6b]; rfl
      have HE : trC c = 3 := by unfold trC tr rl; rw [HP.out]; simp only []; rw [if_neg (by rw [Q1.out]; decide), if_neg (by rw [HSG.out]; decide), if_neg Q3.out, if_neg (by rw [Q4.out]; decide), if_pos ⟨q5, q6⟩]; rfl
      rw [HE]
      clear HE q5 q6
      go_wp2_with (first
        | (go_at_call 19; refine CH.out.mono ?_; rintro e w' ⟨rfl, rfl⟩)
        | (go_at_call 20; refine CV.out.mono ?_; rintro e w' ⟨rfl, rfl⟩)
        | (go_at_call 8; (with_reducible refine (LV.out _ B2.out).mono ?_); rintro e w3 ⟨rfl, hb3⟩; have B3 := Lib.hid (B2.out.trans (hb3.mono B2.out.size)); clear hb3))
      go_ret
      exact ⟨rfl, B3.out⟩
    · have q6b : (c.o.ms == c.t.ms) = false := beq_eq_false_iff_ne.2 q6
      have HE : trC c = 2 := by unfold trC tr rl; rw [HP.out]; simp only []; rw [if_neg (by rw [Q1.out]; decide), if_neg (by rw [HSG.out]; decide), if_neg Q3.out, if_neg (by rw [Q4.out]; decide), if_neg (fun h => q6 h.2)]; rfl
      rw [HE]
      clear HE q5 q6
      go_wp2_with (first
        | (go_at_call 19; refine CH.out.mono ?_; rintro e w' ⟨rfl, rfl⟩)
        | (go_at_call 20; refine CV.out.mono ?_; rintro e w' ⟨rfl, rfl⟩)
        | (go_at_call 8; (with_reducible refine (LV.out _ B2.out).mono ?_); rintro e w3 ⟨rfl, hb3⟩; have B3 := Lib.hid (B2.out.trans (hb3.mono B2.out.size)); clear hb3))
      go_ret
      exact ⟨rfl, B3.out⟩

end Go.Proofs.YtaaaeeljjfblnaaDoor
