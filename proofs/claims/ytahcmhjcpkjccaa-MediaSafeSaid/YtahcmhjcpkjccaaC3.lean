/- Media: what a file's fields demand (within, isNamed, checkFile, names, one), before, SameOne. No condition. -/
import Derived.Test.YtahcmhjcpkjccaaC2
import Derived.Test.YtahcmhjcpkjccaaIS
namespace Go.Proofs.Ytahcmhjcpkjccaa
open Go.RowKit
set_option linter.unusedVariables false
set_option linter.unusedSimpArgs false

def wi (n most : Int) : Bool := decide (0 ≤ n) && decide (n ≤ most)
theorem within39 (n most : Int) (w : World) : Calls Try.prog 39 #[.int .i64 n, .int .i64 most] w fun e w' => e = .returned (.bool (wi n most)) ∧ w = w' := by
  by_cases h : 0 ≤ n
  · have HF := Lib.hid (show wi n most = decide (n ≤ most) by unfold wi; rw [decide_eq_true h]; rfl)
    go_enter Try.func39, Try.ntmps39
    go_wp2
    go_ret
    exact ⟨by rw [HF.out]; rfl, rfl⟩
  · have HF := Lib.hid (show wi n most = false by unfold wi; rw [decide_eq_false h]; rfl)
    go_enter Try.func39, Try.ntmps39
    go_wp2
    go_ret
    exact ⟨by rw [HF.out]; rfl, rfl⟩
/-- A right server and a right name. -/
def nmOK (s t : ByteArray) : Bool := I.isSrv (bys s) && (decide (1 ≤ t.size) && decide (t.size ≤ 32))
theorem isNamed35 (s t : ByteArray) (hs : s.size ≤ 9223372036854775807) (w : World) : Calls Try.prog 35 #[.string s, .string t] w fun e w' => e = .returned (.bool (nmOK s t)) ∧ w = w' := by
  have HU := Lib.hid (fun u => server_any s hs u)
  cases hq : I.isSrv (bys s)
  · have HF := Lib.hid (show nmOK s t = false by unfold nmOK; rw [hq]; rfl)
    rw [hq, err_f] at HU
    clear hq
    go_enter Try.func35, Try.ntmps35
    go_wp2_with (go_at_call 47; (with_reducible refine (HU.out _).mono ?_); rintro e w1 ⟨rfl, rfl⟩)
    go_ret
    exact ⟨by rw [HF.out]; rfl, rfl⟩
  · rw [hq, err_t] at HU
    by_cases h1 : 1 ≤ t.size
    · have HF := Lib.hid (show nmOK s t = decide (t.size ≤ 32) by unfold nmOK; rw [hq, decide_eq_true h1]; rfl)
      have q1 : (1 : Int) ≤ (t.size : Int) := by omega
      by_cases h2 : t.size ≤ 32
      · have q2 : (t.size : Int) ≤ 32 := by omega
        have HG := Lib.hid (decide_eq_true h2)
        clear hq h1 h2
        go_enter Try.func35, Try.ntmps35
        go_wp2_with (go_at_call 47; (with_reducible refine (HU.out _).mono ?_); rintro e w1 ⟨rfl, rfl⟩)
        go_ret
        exact ⟨by rw [HF.out, HG.out]; rfl, rfl⟩
      · have q2 : ¬ (t.size : Int) ≤ 32 := by omega
        have HG := Lib.hid (decide_eq_false h2)
        clear hq h1 h2
        go_enter Try.func35, Try.ntmps35
        go_wp2_with (go_at_call 47; (with_reducible refine (HU.out _).mono ?_); rintro e w1 ⟨rfl, rfl⟩)
        go_ret
        exact ⟨by rw [HF.out, HG.out]; show Ending.returned (.bool (decide ((t.size : Int) ≤ 32))) = _; rw [decide_eq_false (by omega)], rfl⟩
    · have HF := Lib.hid (show nmOK s t = false by unfold nmOK; rw [hq, decide_eq_false h1]; rfl)
      have q1 : ¬ (1 : Int) ≤ (t.size : Int) := by omega
      clear hq h1
      go_enter Try.func35, Try.ntmps35
      go_wp2_with (go_at_call 47; (with_reducible refine (HU.out _).mono ?_); rintro e w1 ⟨rfl, rfl⟩)
      go_ret
      exact ⟨by rw [HF.out]; rfl, rfl⟩
theorem names37 (s t : ByteArray) (hs : s.size ≤ 9223372036854775807) (w : World) : Calls Try.prog 37 #[.string s, .string t] w fun e w' => e = .returned (.int .i64 (err (nmOK s t))) ∧ w = w' := by
  have HU := Lib.hid (fun u => rserver_any s hs u)
  cases hq : I.isSrv (bys s)
  · have HF := Lib.hid (show nmOK s t = false by unfold nmOK; rw [hq]; rfl)
    rw [hq, err_f] at HU
    clear hq
    go_enter Try.func37, Try.ntmps37
    go_wp2_with (go_at_call 48; (with_reducible refine (HU.out _).mono ?_); rintro e w1 ⟨rfl, rfl⟩)
    go_ret
    exact ⟨by rw [HF.out]; rfl, rfl⟩
  · rw [hq, err_t] at HU
    rcases (show t.size < 1 ∨ (1 ≤ t.size ∧ 32 < t.size) ∨ (1 ≤ t.size ∧ t.size ≤ 32) by omega) with h1 | ⟨h1, h2⟩ | ⟨h1, h2⟩
    · have HF := Lib.hid (show nmOK s t = false by unfold nmOK; rw [hq, decide_eq_false (by omega : ¬ 1 ≤ t.size)]; rfl)
      have q1 : (t.size : Int) < 1 := by omega
      clear hq
      go_enter Try.func37, Try.ntmps37
      go_wp2_with (go_at_call 48; (with_reducible refine (HU.out _).mono ?_); rintro e w1 ⟨rfl, rfl⟩)
      go_ret
      exact ⟨by rw [HF.out]; rfl, rfl⟩
    · have HF := Lib.hid (show nmOK s t = false by unfold nmOK; rw [hq, decide_eq_true h1, decide_eq_false (by omega : ¬ t.size ≤ 32)]; rfl)
      have q1 : ¬ (t.size : Int) < 1 := by omega
      have q2 : (32 : Int) < (t.size : Int) := by omega
      clear hq
      go_enter Try.func37, Try.ntmps37
      go_wp2_with (go_at_call 48; (with_reducible refine (HU.out _).mono ?_); rintro e w1 ⟨rfl, rfl⟩)
      go_ret
      exact ⟨by rw [HF.out]; rfl, rfl⟩
    · have HF := Lib.hid (show nmOK s t = true by unfold nmOK; rw [hq, decide_eq_true h1, decide_eq_true h2]; rfl)
      have q1 : ¬ (t.size : Int) < 1 := by omega
      have q2 : ¬ (32 : Int) < (t.size : Int) := by omega
      clear hq
      go_enter Try.func37, Try.ntmps37
      go_wp2_with (go_at_call 48; (with_reducible refine (HU.out _).mono ?_); rintro e w1 ⟨rfl, rfl⟩)
      go_ret
      exact ⟨by rw [HF.out]; rfl, rfl⟩
/-- The range of a file's numbers. -/
def rgOK (p : Rc) : Bool := wi p.sz 1000000000000 && (wi p.tt 1000000000 && wi p.st 3)
/-- What is wrong with a file. -/
def fileE (p : Rc) : Int := if nmOK p.sv p.nm = false then 3 else if rgOK p = false then 2 else 0
set_option maxHeartbeats 2000000 in
theorem checkFile29 (p : Rc) (hp : fitR p) (w : World) : Calls Try.prog 29 #[.agg #[.string p.sv, .string p.nm, .int .i64 p.sz, .int .i64 p.tt, .int .i64 p.st]] w fun e w' => e = .returned (.int .i64 (fileE p)) ∧ Below w.heap.size w w' := by
  have HN := Lib.hid (fun u => isNamed35 p.sv p.nm hp.1 u)
  have BA := Lib.hid ((Below.refl w.heap.size w).alloc (Nat.le_refl _) (.cells #[.string p.sv, .string p.nm, .int .i64 p.sz, .int .i64 p.tt, .int .i64 p.st] 26))
  have HX := Lib.hid (show fileE p = if nmOK p.sv p.nm = false then 3 else if (wi p.sz 1000000000000 && (wi p.tt 1000000000 && wi p.st 3)) = false then 2 else 0 from rfl)
  have HA := Lib.hid (fun u => within39 p.sz 1000000000000 u)
  have HB := Lib.hid (fun u => within39 p.tt 1000000000 u)
  have HC := Lib.hid (fun u => within39 p.st 3 u)
  clear hp
  generalize nmOK p.sv p.nm = b at HN HX
  generalize wi p.sz 1000000000000 = ba at HA HX
  generalize wi p.tt 1000000000 = bb at HB HX
  generalize wi p.st 3 = bc at HC HX
  cases b <;> cases ba <;> cases bb <;> cases bc
  all_goals
    go_enter Try.func29, Try.ntmps29
    go_wp2_with (first
      | (go_at_call 35; (with_reducible refine (HN.out _).mono ?_); rintro e w1 ⟨rfl, rfl⟩)
      | (go_at_call 39; (with_reducible refine (HA.out _).mono ?_); rintro e w1 ⟨rfl, rfl⟩)
      | (go_at_call 39; (with_reducible refine (HB.out _).mono ?_); rintro e w1 ⟨rfl, rfl⟩)
      | (go_at_call 39; (with_reducible refine (HC.out _).mono ?_); rintro e w1 ⟨rfl, rfl⟩))
    go_ret
    exact ⟨by rw [HX.out]; rfl, BA.out⟩
theorem wi_lo {n most : Int} (h : n < 0) : wi n most = false := by unfold wi; rw [decide_eq_false (by omega)]; rfl
theorem wi_hi {n most : Int} (h : most < n) : wi n most = false := by unfold wi; rw [decide_eq_false (by omega : ¬ n ≤ most), Bool.and_false]
theorem wi_in {n most : Int} (h0 : 0 ≤ n) (h : n ≤ most) : wi n most = true := by unfold wi; rw [decide_eq_true h0, decide_eq_true h]; rfl
set_option maxHeartbeats 2000000 in
theorem one31 (p : Rc) (hp : fitR p) (w : World) : Calls Try.prog 31 #[.agg #[.string p.sv, .string p.nm, .int .i64 p.sz, .int .i64 p.tt, .int .i64 p.st]] w fun e w' => e = .returned (.int .i64 (fileE p)) ∧ Below w.heap.size w w' := by
  have HN := Lib.hid (fun u => names37 p.sv p.nm hp.1 u)
  have BA := Lib.hid ((Below.refl w.heap.size w).alloc (Nat.le_refl _) (.cells #[.string p.sv, .string p.nm, .int .i64 p.sz, .int .i64 p.tt, .int .i64 p.st] 26))
  cases hb : nmOK p.sv p.nm
  · have HX := Lib.hid (show fileE p = 3 by unfold fileE; rw [if_pos hb])
    rw [hb, err_f] at HN
    clear hb hp
    go_enter Try.func31, Try.ntmps31
    go_wp2_with (go_at_call 37; (with_reducible refine (HN.out _).mono ?_); rintro e w1 ⟨rfl, rfl⟩)
    go_ret
    exact ⟨by rw [HX.out]; rfl, BA.out⟩
  · rw [hb, err_t] at HN
    have two : rgOK p = false → fileE p = 2 := fun h => by unfold fileE; rw [if_neg (by rw [hb]; decide), if_pos h]
    have nul : rgOK p = true → fileE p = 0 := fun h => by unfold fileE; rw [if_neg (by rw [hb]; decide), if_neg (by rw [h]; decide)]
    unfold rgOK at two nul
    clear hb hp
    rcases (show p.sz < 0 ∨ (0 ≤ p.sz ∧ 1000000000000 < p.sz) ∨ (0 ≤ p.sz ∧ p.sz ≤ 1000000000000) by omega) with h1 | ⟨h1, h2⟩ | ⟨h1, h2⟩
    · have HX := Lib.hid (two (by rw [wi_lo h1]; rfl))
      clear two nul
      go_enter Try.func31, Try.ntmps31
      go_wp2_with (go_at_call 37; (with_reducible refine (HN.out _).mono ?_); rintro e w1 ⟨rfl, rfl⟩)
      go_ret
      exact ⟨by rw [HX.out]; rfl, BA.out⟩
    · have HX := Lib.hid (two (by rw [wi_hi h2]; rfl))
      clear two nul
      go_enter Try.func31, Try.ntmps31
      go_wp2_with (go_at_call 37; (with_reducible refine (HN.out _).mono ?_); rintro e w1 ⟨rfl, rfl⟩)
      go_ret
      exact ⟨by rw [HX.out]; rfl, BA.out⟩
    · rw [wi_in h1 h2, Bool.true_and] at two nul
      rcases (show p.tt < 0 ∨ (0 ≤ p.tt ∧ 1000000000 < p.tt) ∨ (0 ≤ p.tt ∧ p.tt ≤ 1000000000) by omega) with h3 | ⟨h3, h4⟩ | ⟨h3, h4⟩
      · have HX := Lib.hid (two (by rw [wi_lo h3]; rfl))
        clear two nul
        go_enter Try.func31, Try.ntmps31
        go_wp2_with (go_at_call 37; (with_reducible refine (HN.out _).mono ?_); rintro e w1 ⟨rfl, rfl⟩)
        go_ret
        exact ⟨by rw [HX.out]; rfl, BA.out⟩
      · have HX := Lib.hid (two (by rw [wi_hi h4]; rfl))
        clear two nul
        go_enter Try.func31, Try.ntmps31
        go_wp2_with (go_at_call 37; (with_reducible refine (HN.out _).mono ?_); rintro e w1 ⟨rfl, rfl⟩)
        go_ret
        exact ⟨by rw [HX.out]; rfl, BA.out⟩
      · rw [wi_in h3 h4, Bool.true_and] at two nul
        rcases (show p.st < 0 ∨ (0 ≤ p.st ∧ 3 < p.st) ∨ (0 ≤ p.st ∧ p.st ≤ 3) by omega) with h5 | ⟨h5, h6⟩ | ⟨h5, h6⟩
        · have HX := Lib.hid (two (wi_lo h5))
          clear two nul
          go_enter Try.func31, Try.ntmps31
          go_wp2_with (go_at_call 37; (with_reducible refine (HN.out _).mono ?_); rintro e w1 ⟨rfl, rfl⟩)
          go_ret
          exact ⟨by rw [HX.out]; rfl, BA.out⟩
        · have HX := Lib.hid (two (wi_hi h6))
          clear two nul
          go_enter Try.func31, Try.ntmps31
          go_wp2_with (go_at_call 37; (with_reducible refine (HN.out _).mono ?_); rintro e w1 ⟨rfl, rfl⟩)
          go_ret
          exact ⟨by rw [HX.out]; rfl, BA.out⟩
        · have HX := Lib.hid (nul (wi_in h5 h6))
          clear two nul
          go_enter Try.func31, Try.ntmps31
          go_wp2_with (go_at_call 37; (with_reducible refine (HN.out _).mono ?_); rintro e w1 ⟨rfl, rfl⟩)
          go_ret
          exact ⟨by rw [HX.out]; rfl, BA.out⟩
/-- before of the reference. -/
def bef (p : Rc) (s t : ByteArray) : Bool := Op.bytesLess p.sv.toList s.toList || (p.sv.toList == s.toList && Op.bytesLess p.nm.toList t.toList)
theorem before32 (p : Rc) (s t : ByteArray) (w : World) : Calls Try.prog 32 #[.agg #[.string p.sv, .string p.nm, .int .i64 p.sz, .int .i64 p.tt, .int .i64 p.st], .string s, .string t] w fun e w' => e = .returned (.bool (bef p s t)) ∧ Below w.heap.size w w' := by
  have BA := Lib.hid ((Below.refl w.heap.size w).alloc (Nat.le_refl _) (.cells #[.string p.sv, .string p.nm, .int .i64 p.sz, .int .i64 p.tt, .int .i64 p.st] 26))
  cases q1 : Op.bytesLess p.sv.toList s.toList
  · cases q2 : (p.sv.toList == s.toList)
    · have HF := Lib.hid (show bef p s t = false by unfold bef; rw [q1, q2]; rfl)
      go_enter Try.func32, Try.ntmps32
      go_wp2
      go_ret
      exact ⟨by rw [HF.out]; rfl, BA.out⟩
    · have HF := Lib.hid (show bef p s t = Op.bytesLess p.nm.toList t.toList by unfold bef; rw [q1, q2]; rfl)
      go_enter Try.func32, Try.ntmps32
      go_wp2
      go_ret
      exact ⟨by rw [HF.out]; rfl, BA.out⟩
  · have HF := Lib.hid (show bef p s t = true by unfold bef; rw [q1]; rfl)
    go_enter Try.func32, Try.ntmps32
    go_wp2
    go_ret
    exact ⟨by rw [HF.out]; rfl, BA.out⟩
end Go.Proofs.Ytahcmhjcpkjccaa
