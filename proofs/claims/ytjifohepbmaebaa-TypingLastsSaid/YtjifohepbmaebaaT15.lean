/- Who types: Start of both, whatever the call. Bound: at most 900000 records. -/
import Derived.Test.YtjifohepbmaebaaT14
namespace Go.Proofs.Ytjifohepbmaebaa
open Go.RowKit Go.Maps Go.Proofs
set_option linter.unusedVariables false
set_option linter.unusedSimpArgs false

def okR (now span : Int) : Prop := 0 ≤ now ∧ now ≤ 1000000000 ∧ 1 ≤ span ∧ span ≤ 30000
instance (now span : Int) : Decidable (okR now span) := by unfold okR; infer_instance
/-- What Start answers beside its list. -/
def ert (s : ByteArray) (now span : Int) : Int := if I.mkd 64 (bys s) = true then (if okR now span then 0 else 2) else 3
/-- The list with the record. -/
def putT (x : Tp) (zs : List Tp) : List Tp := if fidx (pu x.1) zs = -1 then ins x.1 x zs else zs.set (fidx (pu x.1) zs).toNat x
/-- The list that Start answers. -/
def outT (s : ByteArray) (now span : Int) (zs : List Tp) : List Tp := if ert s now span = 0 then putT (s, now + span) zs else []
def StR (u : World) (zz : List Tp) (m : Nat) (r : Int) (e : Ending) (w' : World) : Prop := ∃ A c, e = .returned (.tuple #[.slice A m c, .int .i64 r]) ∧ Tps w' A m c zz ∧ Below u.heap.size u w'
theorem putT_none {x : Tp} {zs : List Tp} (h : fidx (pu x.1) zs = -1) : putT x zs = ins x.1 x zs := if_pos h
theorem putT_some {x : Tp} {zs : List Tp} {k : Nat} (h : fidx (pu x.1) zs = (k : Int)) : putT x zs = zs.set k x := by
  unfold putT
  rw [if_neg (by omega), h]
  rfl
set_option maxHeartbeats 2000000 in
theorem start13_user (X : Value) (s : ByteArray) (now span : Int) (w : World) (hs : s.size ≤ 9223372036854775807) (hu : I.mkd 64 (bys s) = false) : Calls Try.prog 13 #[X, .string s, .int .i64 now, .int .i64 span] w (StR w [] 0 3) := by
  have HU := Lib.hid (fun u => user_any s hs u)
  rw [hu, err_f] at HU
  clear hu
  go_enter Try.func13, Try.ntmps13
  go_wp2_with (go_at_call 25; (with_reducible refine (HU.out _).mono ?_); rintro e w1 ⟨rfl, hb1⟩)
  go_ret2
  exact ⟨none, 0, rfl, Tps.nil _, hb1⟩
set_option maxHeartbeats 2000000 in
theorem start13_range (X : Value) (s : ByteArray) (now span : Int) (w : World) (hs : s.size ≤ 9223372036854775807) (hu : I.mkd 64 (bys s) = true) (hr : ¬ okR now span) : Calls Try.prog 13 #[X, .string s, .int .i64 now, .int .i64 span] w (StR w [] 0 2) := by
  have HU := Lib.hid (fun u => user_any s hs u)
  rw [hu, err_t] at HU
  have HR := Lib.hid hr
  clear hu hr
  by_cases r0 : now < 0
  · go_enter Try.func13, Try.ntmps13
    go_wp2_with (go_at_call 25; (with_reducible refine (HU.out _).mono ?_); rintro e w1 ⟨rfl, hb1⟩)
    go_ret2
    exact ⟨none, 0, rfl, Tps.nil _, hb1⟩
  · by_cases r1 : 1000000000 < now
    · go_enter Try.func13, Try.ntmps13
      go_wp2_with (go_at_call 25; (with_reducible refine (HU.out _).mono ?_); rintro e w1 ⟨rfl, hb1⟩)
      go_ret2
      exact ⟨none, 0, rfl, Tps.nil _, hb1⟩
    · by_cases r2 : span < 1
      · go_enter Try.func13, Try.ntmps13
        go_wp2_with (go_at_call 25; (with_reducible refine (HU.out _).mono ?_); rintro e w1 ⟨rfl, hb1⟩)
        go_ret2
        exact ⟨none, 0, rfl, Tps.nil _, hb1⟩
      · by_cases r3 : 30000 < span
        · go_enter Try.func13, Try.ntmps13
          go_wp2_with (go_at_call 25; (with_reducible refine (HU.out _).mono ?_); rintro e w1 ⟨rfl, hb1⟩)
          go_ret2
          exact ⟨none, 0, rfl, Tps.nil _, hb1⟩
        · exact absurd ⟨by omega, by omega, by omega, by omega⟩ HR.out
set_option maxHeartbeats 2000000 in
theorem rstart14_user (X : Value) (s : ByteArray) (now span : Int) (w : World) (hs : s.size ≤ 9223372036854775807) (hu : I.mkd 64 (bys s) = false) : Calls Try.prog 14 #[X, .string s, .int .i64 now, .int .i64 span] w (StR w [] 0 3) := by
  have HU := Lib.hid (fun u => ruser_any s hs u)
  rw [hu, err_f] at HU
  clear hu
  go_enter Try.func14, Try.ntmps14
  go_wp2_with (go_at_call 26; (with_reducible refine (HU.out _).mono ?_); rintro e w1 ⟨rfl, rfl⟩)
  go_ret2
  exact ⟨none, 0, rfl, Tps.nil _, Below.refl _ _⟩
set_option maxHeartbeats 2000000 in
theorem rstart14_range (X : Value) (s : ByteArray) (now span : Int) (w : World) (hs : s.size ≤ 9223372036854775807) (hu : I.mkd 64 (bys s) = true) (hr : ¬ okR now span) : Calls Try.prog 14 #[X, .string s, .int .i64 now, .int .i64 span] w (StR w [] 0 2) := by
  have HU := Lib.hid (fun u => ruser_any s hs u)
  rw [hu, err_t] at HU
  have HR := Lib.hid hr
  clear hu hr
  by_cases r0 : now < 0
  · go_enter Try.func14, Try.ntmps14
    go_wp2_with (go_at_call 26; (with_reducible refine (HU.out _).mono ?_); rintro e w1 ⟨rfl, rfl⟩)
    go_ret2
    exact ⟨none, 0, rfl, Tps.nil _, Below.refl _ _⟩
  · by_cases r1 : 1000000000 < now
    · go_enter Try.func14, Try.ntmps14
      go_wp2_with (go_at_call 26; (with_reducible refine (HU.out _).mono ?_); rintro e w1 ⟨rfl, rfl⟩)
      go_ret2
      exact ⟨none, 0, rfl, Tps.nil _, Below.refl _ _⟩
    · by_cases r2 : span < 1
      · go_enter Try.func14, Try.ntmps14
        go_wp2_with (go_at_call 26; (with_reducible refine (HU.out _).mono ?_); rintro e w1 ⟨rfl, rfl⟩)
        go_ret2
        exact ⟨none, 0, rfl, Tps.nil _, Below.refl _ _⟩
      · by_cases r3 : 30000 < span
        · go_enter Try.func14, Try.ntmps14
          go_wp2_with (go_at_call 26; (with_reducible refine (HU.out _).mono ?_); rintro e w1 ⟨rfl, rfl⟩)
          go_ret2
          exact ⟨none, 0, rfl, Tps.nil _, Below.refl _ _⟩
        · exact absurd ⟨by omega, by omega, by omega, by omega⟩ HR.out
theorem start13_any (A : Option Addr) (n c : Nat) (zs : List Tp) (s : ByteArray) (now span : Int) (w : World) (h : Tps w A n c zs) (hs : s.size ≤ 9223372036854775807) (hn : n ≤ 900000) :
    Calls Try.prog 13 #[.slice A n c, .string s, .int .i64 now, .int .i64 span] w (StR w (outT s now span zs) (outT s now span zs).length (ert s now span)) := by
  by_cases hu : I.mkd 64 (bys s) = true
  · by_cases hr : okR now span
    · have e1 : ert s now span = 0 := by unfold ert; rw [if_pos hu, if_pos hr]
      have e2 : outT s now span zs = putT (s, now + span) zs := by unfold outT; rw [if_pos e1]
      obtain ⟨r0, r1, r2, r3⟩ := hr
      rw [e1, e2]
      rcases fidx_cases (pu s) zs with ⟨e, hno⟩ | ⟨k, hk, e, _, _⟩
      · exact start13_ins A n c zs s now span w h hs hu hn r0 r1 r2 r3 hno _ (putT_none e) _ rfl
      · exact start13_at A n c zs s now span w h hs hu hn r0 r1 r2 r3 k (by rw [← h.len]; exact hk) e _ (putT_some e) _ rfl
    · have e1 : ert s now span = 2 := by unfold ert; rw [if_pos hu, if_neg hr]
      have e2 : outT s now span zs = [] := by unfold outT; rw [if_neg (by rw [e1]; decide)]
      rw [e1, e2]
      exact start13_range _ s now span w hs hu hr
  · have e1 : ert s now span = 3 := by unfold ert; rw [if_neg hu]
    have e2 : outT s now span zs = [] := by unfold outT; rw [if_neg (by rw [e1]; decide)]
    rw [e1, e2]
    exact start13_user _ s now span w hs (by cases h : I.mkd 64 (bys s) with | true => exact absurd h hu | false => rfl)
theorem rstart14_any (A : Option Addr) (n c : Nat) (zs : List Tp) (s : ByteArray) (now span : Int) (w : World) (h : Tps w A n c zs) (hs : s.size ≤ 9223372036854775807) (hn : n ≤ 900000) :
    Calls Try.prog 14 #[.slice A n c, .string s, .int .i64 now, .int .i64 span] w (StR w (outT s now span zs) (outT s now span zs).length (ert s now span)) := by
  by_cases hu : I.mkd 64 (bys s) = true
  · by_cases hr : okR now span
    · have e1 : ert s now span = 0 := by unfold ert; rw [if_pos hu, if_pos hr]
      have e2 : outT s now span zs = putT (s, now + span) zs := by unfold outT; rw [if_pos e1]
      obtain ⟨r0, r1, r2, r3⟩ := hr
      rw [e1, e2]
      rcases fidx_cases (pu s) zs with ⟨e, hno⟩ | ⟨k, hk, e, _, _⟩
      · exact rstart14_ins A n c zs s now span w h hs hu hn r0 r1 r2 r3 hno _ (putT_none e) _ rfl
      · exact rstart14_at A n c zs s now span w h hs hu hn r0 r1 r2 r3 k (by rw [← h.len]; exact hk) e _ (putT_some e) _ rfl
    · have e1 : ert s now span = 2 := by unfold ert; rw [if_pos hu, if_neg hr]
      have e2 : outT s now span zs = [] := by unfold outT; rw [if_neg (by rw [e1]; decide)]
      rw [e1, e2]
      exact rstart14_range _ s now span w hs hu hr
  · have e1 : ert s now span = 3 := by unfold ert; rw [if_neg hu]
    have e2 : outT s now span zs = [] := by unfold outT; rw [if_neg (by rw [e1]; decide)]
    rw [e1, e2]
    exact rstart14_user _ s now span w hs (by cases h : I.mkd 64 (bys s) with | true => exact absurd h hu | false => rfl)
end Go.Proofs.Ytjifohepbmaebaa
