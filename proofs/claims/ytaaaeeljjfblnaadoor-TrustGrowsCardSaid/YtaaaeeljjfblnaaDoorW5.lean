/- trust.Verify, Shield, Changed and the reference's. Bounds: at most 1000 numbers. -/
import Derived.Test.YtaaaeeljjfblnaaDoorW4
import Derived.Laws.Small
namespace Go.Proofs.YtaaaeeljjfblnaaDoor
open Go.RowKit
set_option linter.unusedVariables false
set_option linter.unusedSimpArgs false
set_option maxRecDepth 100000

def vf (zs : List Int) (m : Int) : List Int := if m ≤ 0 then Q.M.st zs else Q.M.st (zs ++ [m])
theorem vf_put {zs : List Int} {m : Int} (h : ¬ m ≤ 0) : vf zs m = Q.M.put (Q.M.st zs) m := by
  unfold vf
  rw [if_neg h, ← Q.M.puts_union]
  rfl
theorem ints_one (w : World) (m : Int) : Q.Ints (w.alloc (.cells #[.int .i64 m] 3)) (some ⟨w.heap.size, 0, none⟩) 1 1 [m] := by
  refine ⟨rfl, Nat.le_refl _, by omega, (fun e => by cases e), .inr ⟨w.heap.size, 0, rfl, by simp, fun i hi => ?_⟩⟩
  obtain rfl : i = 0 := by omega
  exact (blk_new w [.int .i64 m] 3).cell rfl
set_option maxHeartbeats 2000000 in
theorem verify12 (A : Option Addr) (n c : Nat) (zs : List Int) (m : Int) (w : World) (h : Q.Ints w A n c zs) (hn : n ≤ 1000) : Calls Tryd.prog 12 #[.slice A n c, .int .i64 m] w (Q.IntsP w (vf zs m)) := by
  by_cases hm : m ≤ 0
  · have C := Lib.hid (Q.sorted_any A n c zs w h)
    have e : vf zs m = Q.M.st zs := if_pos hm
    rw [e]
    clear e h
    generalize Q.M.st zs = l at *
    go_enter Tryd.func12, Tryd.ntmps12
    go_wp2_with (go_at_call 24; refine C.out.mono ?_; rintro e w1 ⟨A1, c1, rfl, hi, hb⟩; have HI := Lib.hid hi; have HB := Lib.hid hb; clear hi hb)
    go_ret
    exact ⟨A1, c1, rfl, HI.out, HB.out⟩
  · have B0 := Lib.hid ((Below.refl w.heap.size w).alloc (Nat.le_refl _) (.cells #[.int .i64 m] 3))
    have C := Lib.hid (Q.union_any A n c zs (some ⟨w.heap.size, 0, none⟩) 1 1 [m] _ (h.below B0.out) (ints_one w m) hn (by omega))
    have e : vf zs m = Q.M.st (zs ++ [m]) := if_neg hm
    rw [e]
    clear e h
    generalize Q.M.st (zs ++ [m]) = l at *
    go_enter Tryd.func12, Tryd.ntmps12
    go_wp2_with (go_at_call 25; refine C.out.mono ?_; rintro e w1 ⟨A1, c1, rfl, hi, hb⟩; have HI := Lib.hid hi; have HB := Lib.hid (B0.out.trans (hb.mono B0.out.size)); clear hi hb)
    go_ret
    exact ⟨A1, c1, rfl, HI.out, HB.out⟩
set_option maxHeartbeats 2000000 in
theorem rverify13 (A : Option Addr) (n c : Nat) (zs : List Int) (m : Int) (w : World) (h : Q.Ints w A n c zs) (hn : n ≤ 1000) : Calls Tryd.prog 13 #[.slice A n c, .int .i64 m] w (Q.IntsP w (vf zs m)) := by
  have C := Lib.hid (Q.rsorted_any A n c zs w h hn)
  have LL := Lib.hid (show (Q.M.st zs).length ≤ 1000 from Nat.le_trans (Q.M.len_st zs) (by rw [h.len]; exact hn))
  by_cases hm : m ≤ 0
  · have e : vf zs m = Q.M.st zs := if_pos hm
    rw [e]
    have hm2 : ¬ 0 < m := by omega
    clear e h
    generalize Q.M.st zs = l at *
    go_enter Tryd.func13, Tryd.ntmps13
    go_wp2_with (go_at_call 26; refine C.out.mono ?_; rintro e w1 ⟨A1, c1, rfl, hi, hb⟩; have HI := Lib.hid hi; have HB := Lib.hid hb; clear hi hb)
    go_ret
    exact ⟨A1, c1, rfl, HI.out, HB.out⟩
  · have hm2 : 0 < m := by omega
    rw [vf_put hm]
    clear h
    generalize Q.M.st zs = l at *
    go_enter Tryd.func13, Tryd.ntmps13
    go_wp2_with (first
      | (go_at_call 26; refine C.out.mono ?_; rintro e w1 ⟨A1, c1, rfl, hi, hb⟩; have HI := Lib.hid hi; have HB := Lib.hid hb; clear hi hb)
      | (go_at_call 27; refine (Q.put_any A1 _ c1 l m _ HI.out (by have := LL.out; omega)).mono ?_; rintro e w2 ⟨A2, c2, rfl, hi, hb⟩; have HI2 := Lib.hid hi; have HB2 := Lib.hid (HB.out.trans (hb.mono HB.out.size)); clear hi hb))
    go_ret
    exact ⟨A2, c2, rfl, HI2.out, HB2.out⟩
/-- The least of the first numbers. -/
def mnT (zs : List Int) : Nat → Int
  | 0 => zs.getD 0 0
  | k + 1 => if zs.getD (k + 1) 0 < mnT zs k then zs.getD (k + 1) 0 else mnT zs k
def shT (zs : List Int) : Int := if zs.length = 0 then 3 else mnT zs (zs.length - 1)
theorem mnT_yes {zs : List Int} {k : Nat} {a b : Int} (h1 : mnT zs k = a) (h2 : zs.getD (k + 1) 0 = b) (h : b < a) : mnT zs (k + 1) = b := by
  show (if zs.getD (k + 1) 0 < mnT zs k then zs.getD (k + 1) 0 else mnT zs k) = b
  rw [h1, h2, if_pos h]
theorem mnT_no {zs : List Int} {k : Nat} {a b : Int} (h1 : mnT zs k = a) (h2 : zs.getD (k + 1) 0 = b) (h : ¬ b < a) : mnT zs (k + 1) = a := by
  show (if zs.getD (k + 1) 0 < mnT zs k then zs.getD (k + 1) 0 else mnT zs k) = a
  rw [h1, h2, if_neg h]
set_option maxHeartbeats 2000000 in
theorem min28 (A : Option Addr) (n c : Nat) (zs : List Int) (w : World) (h : Q.Ints w A n c zs) (h0 : 0 < n) : Calls Tryd.prog 28 #[.slice A n c] w fun e w' => e = .returned (.int .i64 (mnT zs (n - 1))) ∧ w = w' := by
  have H := Lib.hid h
  have hbig := h.big
  obtain ⟨b, off, rfl, _, hc⟩ := h.get h0
  rw [Nat.add_zero] at hc
  have hl : ¬ (n : Int) < 1 := by omega
  have hl2 : (0 : Int) < (n : Int) := by omega
  have Z0 := Lib.hid (show mnT zs 0 = zs.getD 0 0 from rfl)
  generalize zs.getD 0 0 = z0 at hc Z0
  clear h
  go_enter Tryd.func28, Tryd.ntmps28
  go_wp2
  clear hl hl2 hc
  go_loopg [3, 4] n (fun gg s3 s4 wr => ∃ (j : Nat) (v : Int), j + 1 ≤ n ∧ n - j ≤ gg ∧ s4 = .int .i64 ((j : Int) + 1) ∧ s3 = .int .i64 v ∧ Hid (mnT zs j = v) ∧ w = wr)
  case atStart => exact ⟨0, z0, h0, by omega, rfl, rfl, Z0, rfl⟩
  case round =>
    obtain ⟨j, v, hj, hg, rfl, rfl, HV, rfl⟩ := hrel
    by_cases hlt : j + 1 < n
    · have g4 : (j : Int) + 1 < (n : Int) := by omega
      have g5 : (0 : Int) ≤ (j : Int) + 1 := by omega
      have g6 : ((j : Int) + 1).toNat = j + 1 := by omega
      obtain ⟨b', off', e', _, hc⟩ := H.out.get hlt
      cases e'
      have HY := Lib.hid (fun (h : zs.getD (j + 1) 0 < v) => mnT_yes HV.out rfl h)
      have HN := Lib.hid (fun (h : ¬ zs.getD (j + 1) 0 < v) => mnT_no HV.out rfl h)
      generalize zs.getD (j + 1) 0 = x at *
      by_cases hx : x < v
      · have HV2 := Lib.hid (HY.out hx)
        clear HY HN HV
        go_wp2
        go_roundg (n - (j + 1))
        case measure => omega
        case rel => exact ⟨j + 1, x, by omega, by omega, by go_num, by rw [show min v x = x by omega], HV2, rfl⟩
      · have HV2 := Lib.hid (HN.out hx)
        clear HY HN HV
        go_wp2
        go_roundg (n - (j + 1))
        case measure => omega
        case rel => exact ⟨j + 1, v, by omega, by omega, by go_num, by rw [show min v x = v by omega], HV2, rfl⟩
    · have g4 : ¬ (j : Int) + 1 < (n : Int) := by omega
      have HE : Hid (mnT zs (n - 1) = v) := Lib.hid (by rw [show n - 1 = j by omega]; exact HV.out)
      go_wp2
      go_ret
      exact ⟨ret_i64 HE.out.symm, rfl⟩
set_option maxHeartbeats 2000000 in
theorem shield14 (A : Option Addr) (n c : Nat) (zs : List Int) (w : World) (h : Q.Ints w A n c zs) : Calls Tryd.prog 14 #[.slice A n c] w fun e w' => e = .returned (.int .i64 (shT zs)) ∧ w = w' := by
  have hbig := h.big
  have hL := h.len
  rcases Nat.eq_zero_or_pos n with h0 | h0
  · subst h0
    have HE : Hid (shT zs = 3) := Lib.hid (if_pos hL)
    clear h hL
    go_enter Tryd.func14, Tryd.ntmps14
    go_wp2
    go_ret
    exact ⟨ret_i64 HE.out.symm, rfl⟩
  · have C := Lib.hid (min28 A n c zs w h h0)
    have hl2 : (0 : Int) < (n : Int) := by omega
    have HE : Hid (shT zs = mnT zs (n - 1)) := Lib.hid (by unfold shT; rw [if_neg (by omega), hL])
    generalize mnT zs (n - 1) = r at *
    clear h hL
    go_enter Tryd.func14, Tryd.ntmps14
    go_wp2_with (go_at_call 28; refine C.out.mono ?_; rintro e w1 ⟨rfl, rfl⟩)
    go_ret
    exact ⟨ret_i64 HE.out.symm, rfl⟩
set_option maxHeartbeats 2000000 in
theorem rshield15 (A : Option Addr) (n c : Nat) (zs : List Int) (w : World) (h : Q.Ints w A n c zs) : Calls Tryd.prog 15 #[.slice A n c] w fun e w' => e = .returned (.int .i64 (shT zs)) ∧ w = w' := by
  have H := Lib.hid h
  have hbig := h.big
  have hL := h.len
  rcases Nat.eq_zero_or_pos n with h0 | h0
  · subst h0
    have HE : Hid (shT zs = 3) := Lib.hid (if_pos hL)
    clear h hL
    go_enter Tryd.func15, Tryd.ntmps15
    go_wp2
    go_ret
    exact ⟨ret_i64 HE.out.symm, rfl⟩
  obtain ⟨b, off, rfl, _, hc⟩ := h.get h0
  rw [Nat.add_zero] at hc
  have hl0 : ((n : Int) == 0) = false := beq_eq_false_iff_ne.2 (by omega)
  have hl2 : (0 : Int) < (n : Int) := by omega
  have HS : Hid (shT zs = mnT zs (n - 1)) := Lib.hid (by unfold shT; rw [if_neg (by omega), hL])
  have Z0 := Lib.hid (show mnT zs 0 = zs.getD 0 0 from rfl)
  generalize zs.getD 0 0 = z0 at hc Z0
  clear h hL
  go_enter Tryd.func15, Tryd.ntmps15
  go_wp2
  clear hl0 hl2 hc
  go_loopg [3, 4] n (fun gg s3 s4 wr => ∃ (j : Nat) (v : Int), j + 1 ≤ n ∧ n - j ≤ gg ∧ s4 = .int .i64 ((j : Int) + 1) ∧ s3 = .int .i64 v ∧ Hid (mnT zs j = v) ∧ w = wr)
  case atStart => exact ⟨0, z0, h0, by omega, rfl, rfl, Z0, rfl⟩
  case round =>
    obtain ⟨j, v, hj, hg, rfl, rfl, HV, rfl⟩ := hrel
    by_cases hlt : j + 1 < n
    · have g4 : (j : Int) + 1 < (n : Int) := by omega
      have g5 : (0 : Int) ≤ (j : Int) + 1 := by omega
      have g6 : ((j : Int) + 1).toNat = j + 1 := by omega
      obtain ⟨b', off', e', _, hc⟩ := H.out.get hlt
      cases e'
      have HY := Lib.hid (fun (h : zs.getD (j + 1) 0 < v) => mnT_yes HV.out rfl h)
      have HN := Lib.hid (fun (h : ¬ zs.getD (j + 1) 0 < v) => mnT_no HV.out rfl h)
      generalize zs.getD (j + 1) 0 = x at *
      by_cases hx : x < v
      · have HV2 := Lib.hid (HY.out hx)
        clear HY HN HV
        go_wp2
        go_roundg (n - (j + 1))
        case measure => omega
        case rel => exact ⟨j + 1, x, by omega, by omega, by go_num, rfl, HV2, rfl⟩
      · have HV2 := Lib.hid (HN.out hx)
        clear HY HN HV
        go_wp2
        go_roundg (n - (j + 1))
        case measure => omega
        case rel => exact ⟨j + 1, v, by omega, by omega, by go_num, rfl, HV2, rfl⟩
    · have g4 : ¬ (j : Int) + 1 < (n : Int) := by omega
      have HE : Hid (mnT zs (n - 1) = v) := Lib.hid (by rw [show n - 1 = j by omega]; exact HV.out)
      go_wp2
      go_ret
      exact ⟨ret_i64 (by rw [HS.out, HE.out]), rfl⟩
def chg (a b : Ks) : Bool := (a.ms != 0) && (b.ms != a.ms)
set_option maxHeartbeats 2000000 in
theorem changed16 (a b : Ks) (w : World) : Calls Tryd.prog 16 #[.agg (cellsK a).toArray, .agg (cellsK b).toArray] w fun e w' => e = .returned (.bool (chg a b)) ∧ Below w.heap.size w w' := by
  have BF := Lib.hid (box2_below w a b)
  have x01 := (box2_0 w a b).cell (i := 1) rfl
  have x11 := (box2_1 w a b).cell (i := 1) rfl
  unfold chg
  show Calls Tryd.prog 16 #[.agg #[.string a.us, .int .i64 a.ms, .int .i64 a.ps, .slice a.A a.n a.c], .agg #[.string b.us, .int .i64 b.ms, .int .i64 b.ps, .slice b.A b.n b.c]] w _
  cases q1 : (a.ms != 0) <;> cases q2 : (b.ms != a.ms)
  all_goals
    go_enter Tryd.func16, Tryd.ntmps16
    go_wp2
    go_ret
    exact ⟨rfl, BF.out⟩
set_option maxHeartbeats 2000000 in
theorem rchanged17 (a b : Ks) (w : World) : Calls Tryd.prog 17 #[.agg (cellsK a).toArray, .agg (cellsK b).toArray] w fun e w' => e = .returned (.bool (chg a b)) ∧ Below w.heap.size w w' := by
  have BF := Lib.hid (box2_below w a b)
  have x01 := (box2_0 w a b).cell (i := 1) rfl
  have x11 := (box2_1 w a b).cell (i := 1) rfl
  unfold chg
  show Calls Tryd.prog 17 #[.agg #[.string a.us, .int .i64 a.ms, .int .i64 a.ps, .slice a.A a.n a.c], .agg #[.string b.us, .int .i64 b.ms, .int .i64 b.ps, .slice b.A b.n b.c]] w _
  cases q1 : (a.ms != 0) <;> cases q2 : (b.ms != a.ms)
  all_goals
    go_enter Tryd.func17, Tryd.ntmps17
    go_wp2
    go_ret
    exact ⟨rfl, BF.out⟩
end Go.Proofs.YtaaaeeljjfblnaaDoor
