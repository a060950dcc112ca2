/- Who types: Start where the record comes to the end, or in the place of one; live. Bound: at most 900000 records. -/
import Derived.Test.YtjifohepbmaebaaT8
namespace Go.Proofs.Ytjifohepbmaebaa
open Go.RowKit Go.Maps Go.Proofs
set_option linter.unusedVariables false
set_option linter.unusedSimpArgs false

def StP (u : World) (zs : List Tp) (m : Nat) (e : Ending) (w' : World) : Prop := ∃ A c, e = .returned (.tuple #[.slice A m c, .int .i64 0]) ∧ Tps w' A m c zs ∧ Below u.heap.size u w'
set_option maxRecDepth 100000 in
set_option maxHeartbeats 2000000 in
theorem start13_end (A : Option Addr) (n c : Nat) (zs : List Tp) (s : ByteArray) (now span : Int) (w : World) (h : Tps w A n c zs) (hs : s.size ≤ 9223372036854775807) (hu : I.mkd 64 (bys s) = true) (hn : n ≤ 900000) (r0 : 0 ≤ now) (r1 : now ≤ 1000000000) (r2 : 1 ≤ span) (r3 : span ≤ 30000) (hno : ∀ q ∈ zs, pb s q = false) (hnu : ∀ q ∈ zs, pu s q = false) (zz : List Tp) (hz : zz = zs ++ [(s, now + span)]) (m : Nat) (hm : zz.length = m) : Calls Try.prog 13 #[.slice A n c, .string s, .int .i64 now, .int .i64 span] w (StP w zz m) := by
  have H := Lib.hid h
  have HZ := Lib.hid hz
  have HM := Lib.hid hm
  have HSs := Lib.hid hs
  have HU := Lib.hid (fun u => user_any s hs u)
  rw [hu, err_t] at HU
  have H1 := Lib.hid hno
  have H2 := Lib.hid hnu
  clear hno hnu
  clear h hz hs hu hm
  go_enter Try.func13, Try.ntmps13
  go_wp2_with (first
    | (go_at_call 25; (with_reducible refine (HU.out _).mono ?_); rintro e w1 ⟨rfl, hb1⟩; have B1 := Lib.hid hb1; have B2 := Lib.hid (hb1.alloc hb1.size (.cells #[.string s, .int .i64 (now + span)] 44)); have HC := Lib.hid (named27_end A n c zs (s, now + span) (w1.alloc (.cells #[.string s, .int .i64 (now + span)] 44)) (H.out.below B2.out) HSs.out hn H1.out H2.out zz HZ.out); clear hb1)
    | (go_at_call 27; (with_reducible refine HC.out.mono ?_); rintro e w2 ⟨A2, c2, rfl, hT2, hb2, hap⟩; have T2 := Lib.hid hT2; have B3 := Lib.hid (B2.out.trans (hb2.mono B2.out.size)); clear hT2 hb2 hap))
  go_ret2
  have e1 := HM.out
  refine ⟨A2, c2, ?_, e1 ▸ T2.out, B3.out⟩
  rw [← e1]; rfl
set_option maxRecDepth 100000 in
set_option maxHeartbeats 2000000 in
theorem start13_at (A : Option Addr) (n c : Nat) (zs : List Tp) (s : ByteArray) (now span : Int) (w : World) (h : Tps w A n c zs) (hs : s.size ≤ 9223372036854775807) (hu : I.mkd 64 (bys s) = true) (hn : n ≤ 900000) (r0 : 0 ≤ now) (r1 : now ≤ 1000000000) (r2 : 1 ≤ span) (r3 : span ≤ 30000) (k : Nat) (hk : k < n) (hf : fidx (pu s) zs = (k : Int)) (zz : List Tp) (hz : zz = zs.set k (s, now + span)) (m : Nat) (hm : zz.length = m) : Calls Try.prog 13 #[.slice A n c, .string s, .int .i64 now, .int .i64 span] w (StP w zz m) := by
  have H := Lib.hid h
  have HZ := Lib.hid hz
  have HM := Lib.hid hm
  have HSs := Lib.hid hs
  have HU := Lib.hid (fun u => user_any s hs u)
  rw [hu, err_t] at HU
  have H1 := Lib.hid hk
  have H2 := Lib.hid hf
  clear hk hf
  clear h hz hs hu hm
  go_enter Try.func13, Try.ntmps13
  go_wp2_with (first
    | (go_at_call 25; (with_reducible refine (HU.out _).mono ?_); rintro e w1 ⟨rfl, hb1⟩; have B1 := Lib.hid hb1; have B2 := Lib.hid (hb1.alloc hb1.size (.cells #[.string s, .int .i64 (now + span)] 44)); have HC := Lib.hid (named27_at A n c zs (s, now + span) (w1.alloc (.cells #[.string s, .int .i64 (now + span)] 44)) (H.out.below B2.out) HSs.out hn k H1.out H2.out zz HZ.out); clear hb1)
    | (go_at_call 27; (with_reducible refine HC.out.mono ?_); rintro e w2 ⟨A2, c2, rfl, hT2, hb2, hap⟩; have T2 := Lib.hid hT2; have B3 := Lib.hid (B2.out.trans (hb2.mono B2.out.size)); clear hT2 hb2 hap))
  go_ret2
  have e1 := HM.out
  refine ⟨A2, c2, ?_, e1 ▸ T2.out, B3.out⟩
  rw [← e1]; rfl
set_option maxHeartbeats 1000000 in
theorem start13_zero (X : Value) (s : ByteArray) (w : World) (hs : s.size ≤ 9223372036854775807) (hu : I.mkd 64 (bys s) = true) : Calls Try.prog 13 #[X, .string s, .int .i64 120, .int .i64 0] w fun e w' => e = .returned (.tuple #[.slice none 0 0, .int .i64 2]) ∧ Below w.heap.size w w' := by
  have HU := Lib.hid (fun u => user_any s hs u)
  rw [hu, err_t] at HU
  clear hu
  go_enter Try.func13, Try.ntmps13
  go_wp2_with (go_at_call 25; (with_reducible refine (HU.out _).mono ?_); rintro e w1 ⟨rfl, hb1⟩)
  go_ret2
  exact ⟨rfl, hb1⟩
/-- The user of the examples. -/
abbrev sv : ByteArray := ⟨#[64, 97, 58, 120]⟩
theorem sv_user : I.mkd 64 (bys sv) = true := by kernel_rfl
def l1 : List Tp := [(sv, 150)]
def m1 : List Tp := [(sv, 130)]
theorem s_one (u : World) : Calls Try.prog 13 #[.slice none 0 0, .string sv, .int .i64 100, .int .i64 50] u (StP u l1 1) :=
  start13_end none 0 0 [] sv 100 50 u (Tps.nil u) (by decide) sv_user (by omega) (by omega) (by omega) (by omega) (by omega) (by simp) (by simp) l1 rfl 1 rfl
theorem s_two (A : Option Addr) (c : Nat) (u : World) (h : Tps u A 1 c l1) : Calls Try.prog 13 #[.slice A 1 c, .string sv, .int .i64 120, .int .i64 10] u (StP u m1 1) :=
  start13_at A 1 c l1 sv 120 10 u h (by decide) sv_user (by omega) (by omega) (by omega) (by omega) (by omega) 0 (by omega) (by kernel_rfl) m1 rfl 1 rfl
def LenP (u : World) (m : Nat) (e : Ending) (w' : World) : Prop := ∃ A c, e = .returned (.slice A m c) ∧ Below u.heap.size u w'
def NowO (u : World) (e : Ending) (w' : World) : Prop := ∃ A c, e = .returned (.slice A 1 c) ∧ Strs w' A 1 [sv] ∧ Below u.heap.size u w'
theorem n_one (A : Option Addr) (c : Nat) (u : World) (h : Tps u A 1 c l1) : Calls Try.prog 21 #[.slice A 1 c, .int .i64 149] u (NowO u) :=
  (now21 A 1 c l1 149 u h (by omega)).mono fun e w' ⟨A', c', h1, h2, h3, h4⟩ => by
    have e1 : I.nm (tx (nms (l1.filter fun p => !pc 149 p))) = [[64, 97, 58, 120]] := by rw [show (l1.filter fun p => !pc 149 p) = l1 by kernel_rfl]; show I.nm [[64, 97, 58, 120]] = _; unfold I.nm; simp [I.ddp, I.addNew]
    rw [e1] at h1 h3
    exact ⟨A', c', h1, h3, h4⟩
theorem n_two (A : Option Addr) (c : Nat) (u : World) (h : Tps u A 1 c l1) : Calls Try.prog 21 #[.slice A 1 c, .int .i64 150] u (LenP u 0) :=
  (now21 A 1 c l1 150 u h (by omega)).mono fun e w' ⟨A', c', h1, h2, h3, h4⟩ => by
    have e1 : I.nm (tx (nms (l1.filter fun p => !pc 150 p))) = [] := by rw [show (l1.filter fun p => !pc 150 p) = [] by kernel_rfl]; show I.nm [] = _; unfold I.nm; simp [I.ddp]
    rw [e1] at h1
    exact ⟨A', c', h1, h4⟩
theorem p_one (A : Option Addr) (c : Nat) (u : World) (h : Tps u A 1 c l1) : Calls Try.prog 16 #[.slice A 1 c, .string sv] u (LenP u 0) :=
  (stop16 A 1 c l1 sv u h (by omega)).mono fun e w' ⟨A', c', h1, h2, h3, _⟩ => by
    rw [show (l1.filter fun p => !pu sv p) = [] by kernel_rfl] at h1
    exact ⟨A', c', h1, h3⟩
theorem c_one (A : Option Addr) (c : Nat) (u : World) (h : Tps u A 1 c l1) : Calls Try.prog 18 #[.slice A 1 c, .int .i64 149] u (LenP u 1) :=
  (clean18 A 1 c l1 149 u h (by omega)).mono fun e w' ⟨A', c', h1, h2, h3, _⟩ => by
    rw [show (l1.filter fun p => !pc 149 p) = l1 by kernel_rfl] at h1
    exact ⟨A', c', h1, h3⟩
theorem k_one (A : Option Addr) (c : Nat) (u : World) (h : Tps u A 1 c l1) : Calls Try.prog 10 #[.slice A 1 c] u fun e w' => e = .returned (.int .i64 0) ∧ Below u.heap.size u w' :=
  (check10 A 1 c l1 u h (by omega)).mono fun e w' ⟨h1, h2⟩ => by
    have e1 : chk l1 1 = 0 := by kernel_rfl
    unfold ChkR at h1
    rw [e1] at h1
    exact ⟨h1, h2⟩
theorem t_one (A B : Option Addr) (c d : Nat) (u : World) (h : Strs u A 1 [sv]) (h2 : Strs u B 1 [sv]) : Calls Try.prog 20 #[.slice A 1 c, .slice B 1 d] u fun e w' => e = .returned (.bool true) ∧ Below u.heap.size u w' :=
  (same_any A 1 c [sv] B 1 d [sv] u h h2).mono fun e w' ⟨h1, h2⟩ => ⟨by rw [h1, decide_eq_true rfl], h2⟩
theorem sv_new (u : World) : Strs (u.alloc (.cells #[.string sv] 9)) (some ⟨u.heap.size, 0, none⟩) 1 [sv] := by
  refine ⟨rfl, by omega, by simp; decide, fun _ => ⟨u.heap.size, 0, rfl, by simp, fun i hi => ?_⟩⟩
  have : i = 0 := by omega
  subst this
  exact (blk_new u [.string sv] 9).cell (i := 0) rfl
theorem l1_cell {w : World} {A : Option Addr} {c : Nat} (h : Tps w A 1 c l1) : ∃ b off, A = some ⟨b, off, none⟩ ∧ b < w.heap.size ∧ w.cell? ⟨b, off + 1, none⟩ = some (.int .i64 150) := by
  obtain ⟨b, off, e, hb, _, k, _⟩ := h.get (k := 0) (by omega)
  have k' : w.cell? ⟨b, off + 0 * 2 + 1, none⟩ = some (.int .i64 150) := k
  rw [Nat.zero_mul, Nat.add_zero] at k'
  exact ⟨b, off, e, hb, k'⟩
theorem m1_cell {w : World} {A : Option Addr} {c : Nat} (h : Tps w A 1 c m1) : ∃ b off, A = some ⟨b, off, none⟩ ∧ b < w.heap.size ∧ w.cell? ⟨b, off + 1, none⟩ = some (.int .i64 130) := by
  obtain ⟨b, off, e, hb, _, k, _⟩ := h.get (k := 0) (by omega)
  have k' : w.cell? ⟨b, off + 0 * 2 + 1, none⟩ = some (.int .i64 130) := k
  rw [Nat.zero_mul, Nat.add_zero] at k'
  exact ⟨b, off, e, hb, k'⟩
set_option maxRecDepth 100000 in
set_option maxHeartbeats 4000000 in
theorem live12 (w : World) : Calls Try.prog 12 #[] w fun e w' => e = .returned (.bool true) ∧ Below w.heap.size w w' := by
  go_enter Try.func12, Try.ntmps12
  go_wp2_with (first
    | (go_at_call 13; (with_reducible refine (s_one _).mono ?_); rintro e w1 ⟨A1, c1, rfl, hT1, hb1⟩; have T1 := Lib.hid hT1; have B1 := Lib.hid hb1; clear hT1 hb1)
    | (go_at_call 13; (with_reducible refine (s_two A1 c1 _ T1.out).mono ?_); rintro e w2 ⟨A2, c2, rfl, hT2, hb2⟩; have U2 := Lib.hid hT2; have T2 := Lib.hid (T1.out.below hb2); have B2 := Lib.hid (B1.out.trans (hb2.mono B1.out.size)); clear hT2 hb2)
    | (go_at_call 13; (with_reducible refine (start13_zero _ sv _ (by decide) sv_user).mono ?_); rintro e w3 ⟨rfl, hb3⟩; have T3 := Lib.hid (T2.out.below hb3); have U3 := Lib.hid (U2.out.below hb3); have B3 := Lib.hid (B2.out.trans (hb3.mono B2.out.size)); obtain ⟨b1, o1, rfl, _, k1⟩ := l1_cell T3.out; obtain ⟨b2, o2, rfl, _, k2⟩ := m1_cell U3.out; clear hb3)
    | (go_at_call 21; (with_reducible refine (n_one _ c1 _ T3.out).mono ?_); rintro e w4 ⟨A4, c4, rfl, hS4, hb4⟩; have S4 := Lib.hid (hS4.below ((Below.refl _ w4).alloc (Nat.le_refl _) (.cells #[.string sv] 9))); have Q4 := Lib.hid (sv_new w4); have T4 := Lib.hid ((T3.out.below hb4).below ((Below.refl _ w4).alloc (Nat.le_refl _) (.cells #[.string sv] 9))); have B4 := Lib.hid (B3.out.trans (hb4.mono B3.out.size)); have B5 := Lib.hid (B4.out.alloc B4.out.size (.cells #[.string sv] 9)); clear hS4 hb4 k1 k2)
    | (go_at_call 20; (with_reducible refine (t_one A4 _ c4 1 _ S4.out Q4.out).mono ?_); rintro e w6 ⟨rfl, hb6⟩; have T6 := Lib.hid (T4.out.below hb6); have B6 := Lib.hid (B5.out.trans (hb6.mono B5.out.size)); clear hb6)
    | (go_at_call 21; (with_reducible refine (n_two _ c1 _ T6.out).mono ?_); rintro e w7 ⟨A7, c7, rfl, hb7⟩; have T7 := Lib.hid (T6.out.below hb7); have B7 := Lib.hid (B6.out.trans (hb7.mono B6.out.size)); clear hb7)
    | (go_at_call 16; (with_reducible refine (p_one _ c1 _ T7.out).mono ?_); rintro e w8 ⟨A8, c8, rfl, hb8⟩; have T8 := Lib.hid (T7.out.below hb8); have B8 := Lib.hid (B7.out.trans (hb8.mono B7.out.size)); clear hb8)
    | (go_at_call 10; (with_reducible refine (k_one _ c1 _ T8.out).mono ?_); rintro e w9 ⟨rfl, hb9⟩; have T9 := Lib.hid (T8.out.below hb9); have B9 := Lib.hid (B8.out.trans (hb9.mono B8.out.size)); clear hb9)
    | (go_at_call 18; (with_reducible refine (c_one _ c1 _ T9.out).mono ?_); rintro e w10 ⟨A10, c10, rfl, hb10⟩; have B10 := Lib.hid (B9.out.trans (hb10.mono B9.out.size)); clear hb10))
  go_ret
  exact ⟨rfl, B10.out⟩
end Go.Proofs.Ytjifohepbmaebaa
