/- Identities of other networks: Back of both. Bound: texts of at most 100000 bytes. -/
import Derived.Test.YtkcceobncjoodaaU1
namespace Go.Proofs.Ytkcceobncjoodaa
open Go.RowKit
set_option linter.unusedVariables false
set_option linter.unusedSimpArgs false

def ju (L : ByteArray) : Nat := Und.uc ((bys L).drop 1)
def nwP (L : ByteArray) : ByteArray := L.extract 1 (ju L + 1)
def esP (L : ByteArray) : ByteArray := L.extract (ju L + 2) L.size
def nmP (L : ByteArray) : ByteArray := strOfNums (upR (bys (esP L))).1
def good (L : ByteArray) : Bool := decide ((bys L).getD 0 0 = 95 ∧ ju L + 1 < L.size) && (E.net (bys (nwP L)) && (decide ((upR (bys (esP L))).1 ≠ []) && (upR (bys (esP L))).2))
theorem nw_bys (L : ByteArray) : bys (nwP L) = ((bys L).drop 1).take (ju L) := by
  unfold nwP
  rw [bys_extract, List.drop_take]
  rfl
theorem es_bys (L : ByteArray) : bys (esP L) = (bys L).drop (ju L + 2) := by unfold esP; rw [bys_from]
theorem rest_bys (L : ByteArray) : bys (L.extract 1 L.size) = (bys L).drop 1 := bys_from L 1
theorem rest_size {L : ByteArray} (h : 1 ≤ L.size) : (L.extract 1 L.size).size = L.size - 1 := by
  rw [← bys_len, rest_bys, List.length_drop, bys_len]
theorem nw_of (L : ByteArray) : (L.extract 1 L.size).extract 0 (ju L) = nwP L := bys_inj (by rw [bys_extract, rest_bys, nw_bys, List.drop_zero])
theorem es_of (L : ByteArray) : (L.extract 1 L.size).extract (ju L + 1) (L.extract 1 L.size).size = esP L := bys_inj (by rw [bys_from, rest_bys, es_bys, List.drop_drop]; congr 1; omega)
theorem uc_head {l : List Int} (h : 1 ≤ l.length) : (l.getD 0 0 = 95 ∧ Und.uc l = 0) ∨ (l.getD 0 0 ≠ 95 ∧ 0 < Und.uc l) := by
  match l, h with
  | c :: r, _ =>
    by_cases hc : c = 95
    · subst hc
      exact .inl ⟨rfl, rfl⟩
    · refine .inr ⟨by simpa using hc, ?_⟩
      rw [Und.uc_cons _ hc]
      omega
theorem size_ne {s : ByteArray} (h : 0 < s.size) : (s.toList == []) = false := by
  rw [empty_size, decide_eq_false (by omega)]
theorem extract_size (s : ByteArray) (a b : Nat) (h : b ≤ s.size) : (s.extract a b).size = b - a := by
  rw [← bys_len, bys_extract, List.length_drop, List.length_take, bys_len]
  omega
/-- Cut at an underscore, whatever comes. -/
theorem cut_all (s : ByteArray) (hs : s.size ≤ 100000) (w : World) : Calls Try.prog 33 #[.string s, .string ⟨#[95]⟩] w fun e w' => ∃ x y c, e = .returned (.tuple #[.string x, .string y, .bool c]) ∧ y.size ≤ s.size ∧ (0 < Und.uc (bys s) ∧ 1 ≤ s.size → 0 < x.size) ∧ Below w.heap.size w w' := by
  by_cases h : Und.uc (bys s) < s.size
  · exact (Und.scut_hit s w h (by omega)).mono fun e w' ⟨he, hb⟩ => ⟨_, _, _, he, by rw [extract_size _ _ _ (Nat.le_refl _)]; omega, fun h0 => by rw [extract_size _ _ _ (by omega)]; omega, hb⟩
  · exact (Und.scut_miss s w h).mono fun e w' ⟨he, hb⟩ => ⟨_, _, _, he, Nat.zero_le _, fun h0 => by omega, hb⟩
theorem cut_head (L : ByteArray) (h1 : 1 ≤ L.size) (hs : L.size ≤ 100000) (h0 : Und.uc (bys L) = 0) (w : World) : Calls Try.prog 33 #[.string L, .string ⟨#[95]⟩] w fun e w' => e = .returned (.tuple #[.string ⟨#[]⟩, .string (L.extract 1 L.size), .bool true]) ∧ Below w.heap.size w w' := by
  have := Und.scut_hit L w (by omega) (by omega)
  rw [h0, show L.extract 0 0 = ⟨#[]⟩ from bys_inj (by rw [bys_extract]; rfl)] at this
  exact this
theorem cut_rest (L : ByteArray) (h1 : 1 ≤ L.size) (hs : L.size ≤ 100000) (h : ju L + 1 < L.size) (w : World) : Calls Try.prog 33 #[.string (L.extract 1 L.size), .string ⟨#[95]⟩] w fun e w' => e = .returned (.tuple #[.string (nwP L), .string (esP L), .bool true]) ∧ Below w.heap.size w w' := by
  have hz := rest_size h1
  have hj : Und.uc (bys (L.extract 1 L.size)) = ju L := by rw [rest_bys]; rfl
  have := Und.scut_hit (L.extract 1 L.size) w (by rw [hj, hz]; omega) (by omega)
  rw [hj, nw_of, es_of] at this
  exact this
theorem cut_none (L : ByteArray) (h1 : 1 ≤ L.size) (hs : L.size ≤ 100000) (h : ¬ ju L + 1 < L.size) (w : World) : Calls Try.prog 33 #[.string (L.extract 1 L.size), .string ⟨#[95]⟩] w fun e w' => e = .returned (.tuple #[.string (L.extract 1 L.size), .string ⟨#[]⟩, .bool false]) ∧ Below w.heap.size w w' := by
  have hz := rest_size h1
  have hj : Und.uc (bys (L.extract 1 L.size)) = ju L := by rw [rest_bys]; rfl
  exact Und.scut_miss (L.extract 1 L.size) w (by rw [hj, hz]; omega)
/-- What Back gives. -/
def bkN (s : ByteArray) : ByteArray := if I.mkd 64 (bys s) = true ∧ good (locP s) = true then nwP (locP s) else ⟨#[]⟩
def bkM (s : ByteArray) : ByteArray := if I.mkd 64 (bys s) = true ∧ good (locP s) = true then nmP (locP s) else ⟨#[]⟩
def bkE (s : ByteArray) : Int := if I.mkd 64 (bys s) = true then (if good (locP s) = true then 0 else 6) else 3
def BkP (w : World) (s : ByteArray) (e : Ending) (w' : World) : Prop := e = .returned (.tuple #[.string (bkN s), .string (bkM s), .int .i64 (bkE s)]) ∧ Below w.heap.size w w'
theorem bk_no {s : ByteArray} (h : I.mkd 64 (bys s) = false) : bkN s = ⟨#[]⟩ ∧ bkM s = ⟨#[]⟩ ∧ bkE s = 3 := by unfold bkN bkM bkE; rw [h]; simp
theorem bk_bad {s : ByteArray} (h : I.mkd 64 (bys s) = true) (hg : good (locP s) = false) : bkN s = ⟨#[]⟩ ∧ bkM s = ⟨#[]⟩ ∧ bkE s = 6 := by unfold bkN bkM bkE; rw [h, hg]; simp
theorem bk_good {s : ByteArray} (h : I.mkd 64 (bys s) = true) (hg : good (locP s) = true) : bkN s = nwP (locP s) ∧ bkM s = nmP (locP s) ∧ bkE s = 0 := by unfold bkN bkM bkE; rw [h, hg]; simp
theorem locA_of {s : ByteArray} (h : I.mkd 64 (bys s) = true) : locA s = locP s ∧ srvA s = srvP s := by unfold locA srvA anyB; rw [h]; exact ⟨rfl, rfl⟩
theorem locP_rng {s : ByteArray} (h : I.mkd 64 (bys s) = true) : 1 ≤ (locP s).size ∧ (locP s).size ≤ 32 := by
  have h1 := (I.mkd_iff.1 h).2.1
  rw [← bys_extract] at h1
  have := I.isLoc_len h1
  rw [bys_len] at this
  exact this
set_option maxHeartbeats 4000000 in
theorem back13 (s : ByteArray) (hs : s.size ≤ 100000) (w : World) : Calls Try.prog 13 #[.string s] w (BkP w s) := by
  unfold BkP
  have U1 := Lib.hid (user_any s (by omega))
  have L1 := Lib.hid (localOf_any s (by omega))
  cases hm : I.mkd 64 (bys s)
  · obtain ⟨e1, e2, e3⟩ := bk_no hm
    rw [e1, e2, e3]
    rw [hm, err_f] at U1
    clear e1 e2 e3 hm
    go_enter Try.func13, Try.ntmps13
    go_wp2_with (go_at_call 32; (with_reducible refine (U1.out _).mono ?_); rintro e w1 ⟨rfl, hb1⟩; have B1 := Lib.hid hb1; clear hb1)
    go_ret3
    exact ⟨rfl, B1.out⟩
  have hr := locP_rng hm
  rw [(locA_of hm).1] at L1
  have HB := Lib.hid (fun hg => bk_bad hm hg)
  have HG := Lib.hid (fun hg => bk_good hm hg)
  rw [hm, err_t] at U1
  clear hm
  generalize hL : locP s = L at L1 HB HG hr
  clear hL
  have hlen : 1 ≤ (bys L).length := by rw [bys_len]; exact hr.1
  have UN := Lib.hid (fun (x : ByteArray) (hx : x.size ≤ 1000000) => unescape35 x hx)
  rcases uc_head hlen with ⟨hh, hu⟩ | ⟨hh, hu⟩
  · have C1 := Lib.hid (cut_head L hr.1 (by omega) hu)
    by_cases hj : ju L + 1 < L.size
    · have C2 := Lib.hid (cut_rest L hr.1 (by omega) hj)
      have hes : (esP L).size ≤ 1000000 := by unfold esP; rw [extract_size _ _ _ (Nat.le_refl _)]; omega
      have U2 := Lib.hid (UN.out (esP L) hes)
      have N1 := Lib.hid (net24 (nwP L) (by unfold nwP; rw [extract_size _ _ _ (by omega)]; omega))
      have HGd := Lib.hid (show good L = (E.net (bys (nwP L)) && (decide ((upR (bys (esP L))).1 ≠ []) && (upR (bys (esP L))).2)) by unfold good; rw [decide_eq_true ⟨hh, hj⟩]; rfl)
      have HNm := Lib.hid (show strOfNums (upR (bys (esP L))).1 = nmP L from rfl)
      have hnq : ((nmP L).toList == []) = decide ((upR (bys (esP L))).1 = []) := by
        unfold nmP
        rw [empty_size, strOfNums_size]
        apply decide_eq_decide.2
        exact List.length_eq_zero_iff
      rw [HNm.out] at U2
      clear hh hu hj hlen hes UN HNm
      generalize (upR (bys (esP L))).1 = n at HGd hnq
      generalize (upR (bys (esP L))).2 = r at HGd U2
      generalize E.net (bys (nwP L)) = b at HGd N1
      generalize nmP L = nm at *
      generalize nwP L = nw at *
      generalize esP L = es at *
      cases b
      · obtain ⟨e1, e2, e3⟩ := HB.out (by rw [HGd.out]; rfl)
        rw [e1, e2, e3]
        clear e1 e2 e3
        go_enter Try.func13, Try.ntmps13
        go_wp2_with (first
          | (go_at_call 32; (with_reducible refine (U1.out _).mono ?_); rintro e w1 ⟨rfl, hb1⟩; have B1 := Lib.hid hb1; clear hb1)
          | (go_at_call 34; (with_reducible refine (L1.out _).mono ?_); rintro e w2 ⟨rfl, hb2⟩; have B2 := Lib.hid (B1.out.trans (hb2.mono B1.out.size)); clear hb2)
          | (go_at_call 33; (with_reducible refine (C1.out _).mono ?_); rintro e w3 ⟨rfl, hb3⟩; have B3 := Lib.hid (B2.out.trans (hb3.mono B2.out.size)); clear hb3)
          | (go_at_call 33; (with_reducible refine (C2.out _).mono ?_); rintro e w4 ⟨rfl, hb4⟩; have B4 := Lib.hid (B3.out.trans (hb4.mono B3.out.size)); clear hb4)
          | (go_at_call 35; (with_reducible refine (U2.out _).mono ?_); rintro e w5 ⟨rfl, hb5⟩; have B5 := Lib.hid (B4.out.trans (hb5.mono B4.out.size)); clear hb5)
          | (go_at_call 24; (with_reducible refine (N1.out _).mono ?_); rintro e w' ⟨rfl, rfl⟩))
        go_ret3
        exact ⟨rfl, B5.out⟩
      by_cases hn : n = []
      · obtain ⟨e1, e2, e3⟩ := HB.out (by rw [HGd.out, hn]; simp)
        rw [e1, e2, e3]
        rw [decide_eq_true hn] at hnq
        clear e1 e2 e3 hn
        go_enter Try.func13, Try.ntmps13
        go_wp2_with (first
          | (go_at_call 32; (with_reducible refine (U1.out _).mono ?_); rintro e w1 ⟨rfl, hb1⟩; have B1 := Lib.hid hb1; clear hb1)
          | (go_at_call 34; (with_reducible refine (L1.out _).mono ?_); rintro e w2 ⟨rfl, hb2⟩; have B2 := Lib.hid (B1.out.trans (hb2.mono B1.out.size)); clear hb2)
          | (go_at_call 33; (with_reducible refine (C1.out _).mono ?_); rintro e w3 ⟨rfl, hb3⟩; have B3 := Lib.hid (B2.out.trans (hb3.mono B2.out.size)); clear hb3)
          | (go_at_call 33; (with_reducible refine (C2.out _).mono ?_); rintro e w4 ⟨rfl, hb4⟩; have B4 := Lib.hid (B3.out.trans (hb4.mono B3.out.size)); clear hb4)
          | (go_at_call 35; (with_reducible refine (U2.out _).mono ?_); rintro e w5 ⟨rfl, hb5⟩; have B5 := Lib.hid (B4.out.trans (hb5.mono B4.out.size)); clear hb5)
          | (go_at_call 24; (with_reducible refine (N1.out _).mono ?_); rintro e w' ⟨rfl, rfl⟩))
        go_ret3
        exact ⟨rfl, B5.out⟩
      rw [decide_eq_false hn] at hnq
      cases r
      · obtain ⟨e1, e2, e3⟩ := HB.out (by rw [HGd.out]; simp)
        rw [e1, e2, e3]
        clear e1 e2 e3 hn
        go_enter Try.func13, Try.ntmps13
        go_wp2_with (first
          | (go_at_call 32; (with_reducible refine (U1.out _).mono ?_); rintro e w1 ⟨rfl, hb1⟩; have B1 := Lib.hid hb1; clear hb1)
          | (go_at_call 34; (with_reducible refine (L1.out _).mono ?_); rintro e w2 ⟨rfl, hb2⟩; have B2 := Lib.hid (B1.out.trans (hb2.mono B1.out.size)); clear hb2)
          | (go_at_call 33; (with_reducible refine (C1.out _).mono ?_); rintro e w3 ⟨rfl, hb3⟩; have B3 := Lib.hid (B2.out.trans (hb3.mono B2.out.size)); clear hb3)
          | (go_at_call 33; (with_reducible refine (C2.out _).mono ?_); rintro e w4 ⟨rfl, hb4⟩; have B4 := Lib.hid (B3.out.trans (hb4.mono B3.out.size)); clear hb4)
          | (go_at_call 35; (with_reducible refine (U2.out _).mono ?_); rintro e w5 ⟨rfl, hb5⟩; have B5 := Lib.hid (B4.out.trans (hb5.mono B4.out.size)); clear hb5)
          | (go_at_call 24; (with_reducible refine (N1.out _).mono ?_); rintro e w' ⟨rfl, rfl⟩))
        go_ret3
        exact ⟨rfl, B5.out⟩
      · obtain ⟨e1, e2, e3⟩ := HG.out (by rw [HGd.out, decide_eq_true hn]; rfl)
        rw [e1, e2, e3]
        clear e1 e2 e3 hn
        go_enter Try.func13, Try.ntmps13
        go_wp2_with (first
          | (go_at_call 32; (with_reducible refine (U1.out _).mono ?_); rintro e w1 ⟨rfl, hb1⟩; have B1 := Lib.hid hb1; clear hb1)
          | (go_at_call 34; (with_reducible refine (L1.out _).mono ?_); rintro e w2 ⟨rfl, hb2⟩; have B2 := Lib.hid (B1.out.trans (hb2.mono B1.out.size)); clear hb2)
          | (go_at_call 33; (with_reducible refine (C1.out _).mono ?_); rintro e w3 ⟨rfl, hb3⟩; have B3 := Lib.hid (B2.out.trans (hb3.mono B2.out.size)); clear hb3)
          | (go_at_call 33; (with_reducible refine (C2.out _).mono ?_); rintro e w4 ⟨rfl, hb4⟩; have B4 := Lib.hid (B3.out.trans (hb4.mono B3.out.size)); clear hb4)
          | (go_at_call 35; (with_reducible refine (U2.out _).mono ?_); rintro e w5 ⟨rfl, hb5⟩; have B5 := Lib.hid (B4.out.trans (hb5.mono B4.out.size)); clear hb5)
          | (go_at_call 24; (with_reducible refine (N1.out _).mono ?_); rintro e w' ⟨rfl, rfl⟩))
        go_ret3
        exact ⟨rfl, B5.out⟩
    · have C2 := Lib.hid (cut_none L hr.1 (by omega) hj)
      obtain ⟨e1, e2, e3⟩ := HB.out (by unfold good; rw [decide_eq_false (fun h => hj h.2)]; rfl)
      rw [e1, e2, e3]
      have U2 := Lib.hid (UN.out ⟨#[]⟩ (Nat.zero_le _))
      generalize (upR (bys ⟨#[]⟩)).2 = r at U2
      generalize strOfNums (upR (bys ⟨#[]⟩)).1 = nm at U2
      clear e1 e2 e3 hh hu hj hlen UN
      go_enter Try.func13, Try.ntmps13
      go_wp2_with (first
          | (go_at_call 32; (with_reducible refine (U1.out _).mono ?_); rintro e w1 ⟨rfl, hb1⟩; have B1 := Lib.hid hb1; clear hb1)
          | (go_at_call 34; (with_reducible refine (L1.out _).mono ?_); rintro e w2 ⟨rfl, hb2⟩; have B2 := Lib.hid (B1.out.trans (hb2.mono B1.out.size)); clear hb2)
          | (go_at_call 33; (with_reducible refine (C1.out _).mono ?_); rintro e w3 ⟨rfl, hb3⟩; have B3 := Lib.hid (B2.out.trans (hb3.mono B2.out.size)); clear hb3)
          | (go_at_call 33; (with_reducible refine (C2.out _).mono ?_); rintro e w4 ⟨rfl, hb4⟩; have B4 := Lib.hid (B3.out.trans (hb4.mono B3.out.size)); clear hb4)
          | (go_at_call 35; (with_reducible refine (U2.out _).mono ?_); rintro e w5 ⟨rfl, hb5⟩; have B5 := Lib.hid (B4.out.trans (hb5.mono B4.out.size)); clear hb5)
          | (go_at_call 24; (with_reducible refine (N1.out _).mono ?_); rintro e w' ⟨rfl, rfl⟩))
      go_ret3
      exact ⟨rfl, B5.out⟩
  · obtain ⟨e1, e2, e3⟩ := HB.out (by unfold good; rw [decide_eq_false (fun h => hh h.1)]; rfl)
    rw [e1, e2, e3]
    have CA := Lib.hid (cut_all L (by omega))
    have CB := Lib.hid (fun (x : ByteArray) (hx : x.size ≤ 100000) => cut_all x hx)
    have HU := Lib.hid hu
    clear e1 e2 e3 hh hu hlen
    go_enter Try.func13, Try.ntmps13
    go_wp2_with (first
      | (go_at_call 32; (with_reducible refine (U1.out _).mono ?_); rintro e w1 ⟨rfl, hb1⟩; have B1 := Lib.hid hb1; clear hb1)
      | (go_at_call 34; (with_reducible refine (L1.out _).mono ?_); rintro e w2 ⟨rfl, hb2⟩; have B2 := Lib.hid (B1.out.trans (hb2.mono B1.out.size)); clear hb2)
      | (go_at_call 33; (with_reducible refine (CA.out _).mono ?_); rintro e w3 ⟨x, y, c, rfl, hy, hx, hb3⟩; have B3 := Lib.hid (B2.out.trans (hb3.mono B2.out.size)); have hxb := size_ne (hx ⟨HU.out, hr.1⟩); have hy2 : y.size ≤ 100000 := (by omega); clear hb3 hx)
      | (go_at_call 33; (with_reducible refine (CB.out y hy2 _).mono ?_); rintro e w4 ⟨x2, y2, c2, rfl, hy3, _, hb4⟩; have B4 := Lib.hid (B3.out.trans (hb4.mono B3.out.size)); have hy4 : y2.size ≤ 1000000 := (by omega); clear hb4)
      | (go_at_call 35; (with_reducible refine (UN.out y2 hy4 _).mono ?_); rintro e w5 ⟨rfl, hb5⟩; have B5 := Lib.hid (B4.out.trans (hb5.mono B4.out.size)); clear hb5))
    go_ret3
    exact ⟨rfl, B5.out⟩
end Go.Proofs.Ytkcceobncjoodaa
