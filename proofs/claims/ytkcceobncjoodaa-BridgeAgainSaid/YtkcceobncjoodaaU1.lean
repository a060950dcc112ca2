/- Identities of other networks: strings.Cut at an underscore (by program out of the text on colons); User of both. Bound: texts of at most 100000 bytes. -/
import Derived.Test.YtkcceobncjoodaaB4
namespace Go.Proofs.Ytkcceobncjoodaa
open Go.RowKit
set_option linter.unusedVariables false
set_option linter.unusedSimpArgs false

namespace Und
/-- The place of the first underscore. -/
def uc (l : List Int) : Nat := l.findIdx (· == 95)
theorem uc_cons {c : Int} (l : List Int) (h : c ≠ 95) : uc (c :: l) = uc l + 1 := by
  unfold uc
  rw [List.findIdx_cons, beq_eq_false_iff_ne.2 h]
  rfl
theorem uc_le (l : List Int) : uc l ≤ l.length := List.findIdx_le_length
theorem indexByte_col (l : List UInt8) : Lib.indexByte l 95 = if uc (l.map fun c => (c.toNat : Int)) < l.length then (uc (l.map fun c => (c.toNat : Int)) : Int) else -1 := by
  induction l with
  | nil => rfl
  | cons b l ih =>
    rw [List.map_cons, Lib.indexByte]
    by_cases hb : b = 95
    · subst hb
      rw [if_pos (by rfl), uc, List.findIdx_cons]
      rfl
    · have hb' : (b == 95) = false := by simpa using hb
      have hc : (b.toNat : Int) ≠ 95 := by
        intro h
        apply hb
        apply UInt8.toNat_inj.1
        have : b.toNat = 95 := by omega
        rw [this]; rfl
      rw [hb', if_neg (by simp), uc_cons _ hc, ih, List.length_cons]
      by_cases hl : uc (l.map fun c => (c.toNat : Int)) < l.length
      · have e : ((uc (l.map fun c => (c.toNat : Int)) : Int) == -1) = false := beq_eq_false_iff_ne.2 (by omega)
        rw [if_pos hl, e, if_neg (by decide : ¬ (false = true)), if_pos (by omega)]
        omega
      · rw [if_neg hl, show ((-1 : Int) == -1) = true from rfl, if_pos rfl, if_neg (by omega)]
theorem indexByte_bys (s : ByteArray) : Lib.indexByte s.data.toList 95 = if uc (bys s) < s.size then (uc (bys s) : Int) else -1 := by
  rw [indexByte_col, len_data]; rfl

theorem indexByte_any (s : ByteArray) (c : Int) (hc : c = 95) (w : World) : Calls Try.prog 72 #[.string s, .int .u8 c] w fun e w' => e = .returned (.int .i64 (Lib.indexByte s.data.toList 95)) ∧ w = w' := by
  subst hc
  go_enter Try.func72, Try.ntmps72
  go_wp2
  rw [run_callFunc_extern Try.func77 (by kernel_rfl) (by kernel_rfl) (by kernel_rfl) (e := Extern.BytealgIndexByte.indexByte) (by kernel_rfl), Lib.run_indexByteString]
  simp only [Result.andThen]
  rw [Oper.upon_value]
  go_wp2
  go_ret
  exact ⟨rfl, rfl⟩
theorem sindex_any (s : ByteArray) (w : World) : Calls Try.prog 68 #[.string s, .string ⟨#[95]⟩] w fun e w' => e = .returned (.int .i64 (Lib.indexByte s.data.toList 95)) ∧ w = w' := by
  cases he : ([95] : List UInt8) == s.toList
  · go_enter Try.func68, Try.ntmps68
    go_wp2_with (go_at_call 72; refine (indexByte_any _ _ rfl _).mono ?_; rintro e w' ⟨rfl, rfl⟩)
    go_ret
    exact ⟨rfl, rfl⟩
  · have HF := Lib.hid (show Lib.indexByte s.data.toList 95 = 0 by
      have := eq_of_beq he
      rw [Lib.toList_data] at this
      rw [← this]; rfl)
    go_enter Try.func68, Try.ntmps68
    go_wp2
    go_ret
    exact ⟨ret_i64 HF.out.symm, rfl⟩
theorem cut_hit (s : ByteArray) (w : World) (h : uc (bys s) < s.size) (hs : s.size ≤ 9223372036854775807) :
    Calls Try.prog 56 #[.string s, .string ⟨#[95]⟩] w fun e w' => e = .returned (.tuple #[.string (s.extract 0 (uc (bys s))), .string (s.extract (uc (bys s) + 1) s.size), .bool true]) ∧ Below w.heap.size w w' := by
  have HF := Lib.hid (show Lib.indexByte s.data.toList 95 = (uc (bys s) : Int) by
    rw [indexByte_bys, if_pos h])
  generalize uc (bys s) = k at *
  have c1 : (0 : Int) ≤ ↑k := by omega
  have c2 : (↑k : Int) ≤ ↑s.size := by omega
  have c3 : (0 : Int) ≤ ↑k + 1 := by omega
  have c4 : (↑k + 1 : Int) ≤ ↑s.size := by omega
  go_enter Try.func56, Try.ntmps56
  go_wp2_with (go_at_call 68; refine (sindex_any _ _).mono ?_; rintro e w' ⟨rfl, rfl⟩; rw [HF.out])
  go_region
  go_wp2
  go_ret3
  exact ⟨rfl, (Below.refl _ _).drew⟩
theorem cut_miss (s : ByteArray) (w : World) (h : ¬ uc (bys s) < s.size) :
    Calls Try.prog 56 #[.string s, .string ⟨#[95]⟩] w fun e w' => e = .returned (.tuple #[.string s, .string ⟨#[]⟩, .bool false]) ∧ Below w.heap.size w w' := by
  have HF := Lib.hid (show Lib.indexByte s.data.toList 95 = -1 by
    rw [indexByte_bys, if_neg h])
  clear h
  go_enter Try.func56, Try.ntmps56
  go_wp2_with (go_at_call 68; refine (sindex_any _ _).mono ?_; rintro e w' ⟨rfl, rfl⟩; rw [HF.out])
  go_ret3
  exact ⟨rfl, Below.refl _ _⟩
theorem scut_hit (s : ByteArray) (w : World) (h : uc (bys s) < s.size) (hs : s.size ≤ 9223372036854775807) :
    Calls Try.prog 33 #[.string s, .string ⟨#[95]⟩] w fun e w' => e = .returned (.tuple #[.string (s.extract 0 (uc (bys s))), .string (s.extract (uc (bys s) + 1) s.size), .bool true]) ∧ Below w.heap.size w w' := by
  have C := Lib.hid (cut_hit s w h hs)
  clear h
  generalize s.extract 0 (uc (bys s)) = x at *
  generalize s.extract (uc (bys s) + 1) s.size = y at *
  go_enter Try.func33, Try.ntmps33
  go_wp2_with (go_at_call 56; refine C.out.mono ?_; rintro e w1 ⟨rfl, hb1⟩)
  go_ret3
  exact ⟨rfl, hb1⟩
theorem scut_miss (s : ByteArray) (w : World) (h : ¬ uc (bys s) < s.size) :
    Calls Try.prog 33 #[.string s, .string ⟨#[95]⟩] w fun e w' => e = .returned (.tuple #[.string s, .string ⟨#[]⟩, .bool false]) ∧ Below w.heap.size w w' := by
  have C := Lib.hid (cut_miss s w h)
  clear h
  go_enter Try.func33, Try.ntmps33
  go_wp2_with (go_at_call 56; refine C.out.mono ?_; rintro e w1 ⟨rfl, hb1⟩)
  go_ret3
  exact ⟨rfl, hb1⟩
end Und
def lcl (nw nm : ByteArray) : ByteArray := ⟨#[95]⟩ ++ nw ++ ⟨#[95]⟩ ++ strOfNums (E.esc (bys nm))
theorem lcl_size (nw nm : ByteArray) : (lcl nw nm).size = 2 + nw.size + (E.esc (bys nm)).length := by
  unfold lcl
  rw [ByteArray.size_append, ByteArray.size_append, ByteArray.size_append, strOfNums_size]
  show 1 + nw.size + 1 + _ = _
  omega
theorem lcl_bys (nw nm : ByteArray) : bys (lcl nw nm) = 95 :: (bys nw ++ 95 :: E.esc (bys nm)) := by
  unfold lcl
  rw [bys_append, bys_append, bys_append, bys_nums (E.esc_byt (bys_byt nm))]
  simp [bys]
def usE (nw nm sv : ByteArray) : Int := if E.net (bys nw) = true then (if nm.size = 0 then 9 else if I.isSrv (bys sv) = true then (if 32 < (lcl nw nm).size then 7 else 0) else 3) else 3
def usS (nw nm sv : ByteArray) : ByteArray := if usE nw nm sv = 0 then mkS 64 (lcl nw nm) sv else ⟨#[]⟩
theorem net_all {l : List Int} (h : E.net l = true) : l.all I.letB = true ∧ 1 ≤ l.length ∧ l.length ≤ 8 := by
  unfold E.net at h
  rw [Bool.and_eq_true, decide_eq_true_iff] at h
  exact ⟨h.1, h.2.1, h.2.2⟩
theorem all_loc {l : List Int} (h : l.all I.letB = true) : l.all I.locB = true := by
  rw [List.all_eq_true] at h ⊢
  exact fun c hc => E.locB_of_let (h c hc)
theorem lcl_loc {nw nm : ByteArray} (h : E.net (bys nw) = true) (hs : (lcl nw nm).size ≤ 32) : I.isLoc (bys (lcl nw nm)) = true := by
  unfold I.isLoc I.isPart
  rw [bys_len, Bool.and_eq_true, decide_eq_true_iff, lcl_bys]
  refine ⟨⟨by rw [lcl_size]; omega, hs⟩, ?_⟩
  rw [List.all_cons, List.all_append, List.all_cons, all_loc (net_all h).1, E.esc_loc (bys_byt nm)]
  rfl
/-- A mark, a right local part and a right server are an identifier. -/
theorem mkd_of {a b : ByteArray} (ha : I.isLoc (bys a) = true) (hb : I.isSrv (bys b) = true) : I.mkd 64 (bys (mkS 64 a b)) = true := by
  rw [mkS_bys (by omega) (by omega)]
  have hc : I.col (64 :: (bys a ++ 58 :: bys b)) = (bys a).length + 1 := by
    rw [I.col_cons _ (by decide), I.col_append_colon _ _ (I.isLoc_ne ha)]
  rw [I.mkd_iff, hc]
  refine ⟨⟨by simp, rfl, by simp⟩, ?_, ?_⟩
  · rw [List.take_succ_cons, List.take_left, List.drop_succ_cons, List.drop_zero]; exact ha
  · rw [show (bys a).length + 1 + 1 = ((bys a).length + 1) + 1 from rfl, List.drop_succ_cons, ← List.drop_drop, List.drop_left, List.drop_succ_cons, List.drop_zero]; exact hb
theorem us_cases (nw nm sv : ByteArray) : (usE nw nm sv = 0 ∧ usS nw nm sv = mkS 64 (lcl nw nm) sv ∧ I.mkd 64 (bys (mkS 64 (lcl nw nm) sv)) = true ∧ E.net (bys nw) = true ∧ nm.size ≠ 0 ∧ I.isSrv (bys sv) = true ∧ (lcl nw nm).size ≤ 32) ∨ (usE nw nm sv ≠ 0 ∧ usS nw nm sv = ⟨#[]⟩) := by
  by_cases h : usE nw nm sv = 0
  · refine .inl ⟨h, by unfold usS; rw [if_pos h], ?_⟩
    unfold usE at h
    split at h
    · rename_i h1
      split at h
      · cases h
      · rename_i h2
        split at h
        · rename_i h3
          split at h
          · cases h
          · rename_i h4
            exact ⟨mkd_of (lcl_loc h1 (by omega)) h3, h1, h2, h3, by omega⟩
        · cases h
    · cases h
  · exact .inr ⟨h, by unfold usS; rw [if_neg h]⟩
theorem empty_size {s : ByteArray} : (s.toList == []) = decide (s.size = 0) := by
  rw [Lib.toList_data]
  by_cases h : s.size = 0
  · rw [decide_eq_true h]
    have : s.data.toList = [] := List.eq_nil_of_length_eq_zero (by rw [Array.length_toList]; exact h)
    rw [this]; rfl
  · rw [decide_eq_false h, beq_eq_false_iff_ne]
    intro e
    apply h
    have := congrArg List.length e
    rw [Array.length_toList] at this
    exact this
theorem ret_si {a b : ByteArray} {c d : Int} (h : a = b) (k : c = d) : Ending.returned (.tuple #[.string a, .int .i64 c]) = .returned (.tuple #[.string b, .int .i64 d]) := by rw [h, k]
def UsP (w : World) (nw nm sv : ByteArray) (e : Ending) (w' : World) : Prop := e = .returned (.tuple #[.string (usS nw nm sv), .int .i64 (usE nw nm sv)]) ∧ Below w.heap.size w w'
set_option maxHeartbeats 2000000 in
theorem user10 (nw nm sv : ByteArray) (h1 : nw.size ≤ 100000) (h2 : nm.size ≤ 100000) (h3 : sv.size ≤ 100000) (w : World) : Calls Try.prog 10 #[.string nw, .string nm, .string sv] w (UsP w nw nm sv) := by
  unfold UsP
  have N1 := Lib.hid (net24 nw (by omega))
  have S1 := Lib.hid (server_any sv (by omega))
  have X1 := Lib.hid (escape26 nm (by omega))
  cases g1 : E.net (bys nw)
  · have HE := Lib.hid (show usE nw nm sv = 3 by unfold usE; rw [g1]; rfl)
    have HS := Lib.hid (show usS nw nm sv = ⟨#[]⟩ by unfold usS; rw [HE.out]; rfl)
    rw [g1] at N1
    clear g1
    go_enter Try.func10, Try.ntmps10
    go_wp2_with (go_at_call 24; refine (N1.out _).mono ?_; rintro e w' ⟨rfl, rfl⟩)
    go_ret2
    exact ⟨by rw [HS.out, HE.out]; first | done | rfl, Below.refl _ _⟩
  by_cases g2 : nm.size = 0
  · have HE := Lib.hid (show usE nw nm sv = 9 by unfold usE; rw [if_pos g1, if_pos g2])
    have HS := Lib.hid (show usS nw nm sv = ⟨#[]⟩ by unfold usS; rw [HE.out]; rfl)
    have hq : (nm.toList == []) = true := by rw [empty_size, decide_eq_true g2]
    rw [g1] at N1
    clear g1 g2
    go_enter Try.func10, Try.ntmps10
    go_wp2_with (go_at_call 24; refine (N1.out _).mono ?_; rintro e w' ⟨rfl, rfl⟩)
    go_ret2
    exact ⟨by rw [HS.out, HE.out]; first | done | rfl, Below.refl _ _⟩
  have hq : (nm.toList == []) = false := by rw [empty_size, decide_eq_false g2]
  cases g3 : I.isSrv (bys sv)
  · have HE := Lib.hid (show usE nw nm sv = 3 by unfold usE; rw [if_pos g1, if_neg g2, g3]; rfl)
    have HS := Lib.hid (show usS nw nm sv = ⟨#[]⟩ by unfold usS; rw [HE.out]; rfl)
    rw [g1] at N1
    rw [g3, err_f] at S1
    clear g1 g2 g3
    go_enter Try.func10, Try.ntmps10
    go_wp2_with (first
      | (go_at_call 24; refine (N1.out _).mono ?_; rintro e w' ⟨rfl, rfl⟩)
      | (go_at_call 25; refine (S1.out _).mono ?_; rintro e w' ⟨rfl, rfl⟩))
    go_ret2
    exact ⟨by rw [HS.out, HE.out]; first | done | rfl, Below.refl _ _⟩
  have hL := lcl_size nw nm
  have hel := E.esc_len (bys nm)
  rw [bys_len] at hel
  have hxs := strOfNums_size (E.esc (bys nm))
  have hx : ⟨#[95]⟩ ++ nw ++ ⟨#[95]⟩ ++ strOfNums (E.esc (bys nm)) = lcl nw nm := rfl
  have q1 : ¬ 9223372036854775807 < 1 + nw.size := by omega
  have q2 : ¬ 9223372036854775807 < 1 + nw.size + 1 := by omega
  have q3 : ¬ 9223372036854775807 < 1 + nw.size + 1 + (strOfNums (E.esc (bys nm))).size := by rw [hxs]; omega
  by_cases g4 : 32 < (lcl nw nm).size
  · have HE := Lib.hid (show usE nw nm sv = 7 by unfold usE; rw [if_pos g1, if_neg g2, if_pos g3, if_pos g4])
    have HS := Lib.hid (show usS nw nm sv = ⟨#[]⟩ by unfold usS; rw [HE.out]; rfl)
    have hz : (32 : Int) < ((lcl nw nm).size : Int) := by omega
    rw [g1] at N1
    rw [g3, err_t] at S1
    clear g1 g2 g3 g4 hL hel hxs
    generalize strOfNums (E.esc (bys nm)) = x at *
    generalize lcl nw nm = L at *
    go_enter Try.func10, Try.ntmps10
    go_wp2_with (first
      | (go_at_call 24; refine (N1.out _).mono ?_; rintro e w' ⟨rfl, rfl⟩)
      | (go_at_call 25; refine (S1.out _).mono ?_; rintro e w' ⟨rfl, rfl⟩)
      | (go_at_call 26; refine (X1.out _).mono ?_; rintro e w1 ⟨rfl, hb1⟩; have HB := Lib.hid hb1; clear hb1))
    go_ret2
    exact ⟨by rw [HS.out, HE.out]; first | done | rfl, HB.out⟩
  · have HE := Lib.hid (show usE nw nm sv = 0 by unfold usE; rw [if_pos g1, if_neg g2, if_pos g3, if_neg g4])
    have HS := Lib.hid (show usS nw nm sv = mkS 64 (lcl nw nm) sv by unfold usS; rw [if_pos HE.out])
    have hz : ¬ (32 : Int) < ((lcl nw nm).size : Int) := by omega
    have M1 := Lib.hid (make_any 64 (lcl nw nm) sv (by omega) (by omega))
    have hmk := mkd_of (lcl_loc (nm := nm) g1 (by omega)) g3
    rw [show anyB (mkS 64 (lcl nw nm) sv) = true by unfold anyB; rw [hmk]; rfl, err_t, show mkR 64 (lcl nw nm) sv = mkS 64 (lcl nw nm) sv by unfold mkR anyB; rw [hmk]; rfl] at M1
    clear hmk
    rw [g1] at N1
    rw [g3, err_t] at S1
    clear g1 g2 g3 g4 hL hel hxs
    generalize strOfNums (E.esc (bys nm)) = x at *
    generalize lcl nw nm = L at *
    go_enter Try.func10, Try.ntmps10
    go_wp2_with (first
      | (go_at_call 24; refine (N1.out _).mono ?_; rintro e w' ⟨rfl, rfl⟩)
      | (go_at_call 25; refine (S1.out _).mono ?_; rintro e w' ⟨rfl, rfl⟩)
      | (go_at_call 26; refine (X1.out _).mono ?_; rintro e w1 ⟨rfl, hb1⟩; have HB := Lib.hid hb1; clear hb1)
      | (go_at_call 27; refine (M1.out _).mono ?_; rintro e w2 ⟨rfl, hb2⟩; have HB2 := Lib.hid (HB.out.trans (hb2.mono HB.out.size)); clear hb2))
    go_ret2
    exact ⟨by rw [HS.out, HE.out]; first | done | rfl, HB2.out⟩
set_option maxHeartbeats 2000000 in
theorem ruser11 (nw nm sv : ByteArray) (h1 : nw.size ≤ 100000) (h2 : nm.size ≤ 100000) (h3 : sv.size ≤ 100000) (w : World) : Calls Try.prog 11 #[.string nw, .string nm, .string sv] w (UsP w nw nm sv) := by
  unfold UsP
  have N1 := Lib.hid (rnet28 nw (by omega))
  have S1 := Lib.hid (rserver_any sv (by omega))
  have X1 := Lib.hid (rescape29 nm (by omega))
  cases g1 : E.net (bys nw)
  · have HE := Lib.hid (show usE nw nm sv = 3 by unfold usE; rw [g1]; rfl)
    have HS := Lib.hid (show usS nw nm sv = ⟨#[]⟩ by unfold usS; rw [HE.out]; rfl)
    rw [g1] at N1
    clear g1
    go_enter Try.func11, Try.ntmps11
    go_wp2_with (go_at_call 28; refine (N1.out _).mono ?_; rintro e w' ⟨rfl, rfl⟩)
    go_ret2
    exact ⟨by rw [HS.out, HE.out]; first | done | rfl, Below.refl _ _⟩
  by_cases g2 : nm.size = 0
  · have HE := Lib.hid (show usE nw nm sv = 9 by unfold usE; rw [if_pos g1, if_pos g2])
    have HS := Lib.hid (show usS nw nm sv = ⟨#[]⟩ by unfold usS; rw [HE.out]; rfl)
    have hq : (nm.toList == []) = true := by rw [empty_size, decide_eq_true g2]
    rw [g1] at N1
    clear g1 g2
    go_enter Try.func11, Try.ntmps11
    go_wp2_with (go_at_call 28; refine (N1.out _).mono ?_; rintro e w' ⟨rfl, rfl⟩)
    go_ret2
    exact ⟨by rw [HS.out, HE.out]; first | done | rfl, Below.refl _ _⟩
  have hq : (nm.toList == []) = false := by rw [empty_size, decide_eq_false g2]
  cases g3 : I.isSrv (bys sv)
  · have HE := Lib.hid (show usE nw nm sv = 3 by unfold usE; rw [if_pos g1, if_neg g2, g3]; rfl)
    have HS := Lib.hid (show usS nw nm sv = ⟨#[]⟩ by unfold usS; rw [HE.out]; rfl)
    rw [g1] at N1
    rw [g3, err_f] at S1
    clear g1 g2 g3
    go_enter Try.func11, Try.ntmps11
    go_wp2_with (first
      | (go_at_call 28; refine (N1.out _).mono ?_; rintro e w' ⟨rfl, rfl⟩)
      | (go_at_call 23; refine (S1.out _).mono ?_; rintro e w' ⟨rfl, rfl⟩))
    go_ret2
    exact ⟨by rw [HS.out, HE.out]; first | done | rfl, Below.refl _ _⟩
  have hL := lcl_size nw nm
  have hel := E.esc_len (bys nm)
  rw [bys_len] at hel
  have hxs := strOfNums_size (E.esc (bys nm))
  have hx : ⟨#[95]⟩ ++ nw ++ ⟨#[95]⟩ ++ strOfNums (E.esc (bys nm)) = lcl nw nm := rfl
  have q1 : ¬ 9223372036854775807 < 1 + nw.size := by omega
  have q2 : ¬ 9223372036854775807 < 1 + nw.size + 1 := by omega
  have q3 : ¬ 9223372036854775807 < 1 + nw.size + 1 + (strOfNums (E.esc (bys nm))).size := by rw [hxs]; omega
  by_cases g4 : 32 < (lcl nw nm).size
  · have HE := Lib.hid (show usE nw nm sv = 7 by unfold usE; rw [if_pos g1, if_neg g2, if_pos g3, if_pos g4])
    have HS := Lib.hid (show usS nw nm sv = ⟨#[]⟩ by unfold usS; rw [HE.out]; rfl)
    have hz : (32 : Int) < ((lcl nw nm).size : Int) := by omega
    rw [g1] at N1
    rw [g3, err_t] at S1
    clear g1 g2 g3 g4 hL hel hxs
    generalize strOfNums (E.esc (bys nm)) = x at *
    generalize lcl nw nm = L at *
    go_enter Try.func11, Try.ntmps11
    go_wp2_with (first
      | (go_at_call 28; refine (N1.out _).mono ?_; rintro e w' ⟨rfl, rfl⟩)
      | (go_at_call 23; refine (S1.out _).mono ?_; rintro e w' ⟨rfl, rfl⟩)
      | (go_at_call 29; refine (X1.out _).mono ?_; rintro e w1 ⟨rfl, hb1⟩; have HB := Lib.hid hb1; clear hb1))
    go_ret2
    exact ⟨by rw [HS.out, HE.out]; first | done | rfl, HB.out⟩
  · have HE := Lib.hid (show usE nw nm sv = 0 by unfold usE; rw [if_pos g1, if_neg g2, if_pos g3, if_neg g4])
    have HS := Lib.hid (show usS nw nm sv = mkS 64 (lcl nw nm) sv by unfold usS; rw [if_pos HE.out])
    have hz : ¬ (32 : Int) < ((lcl nw nm).size : Int) := by omega
    have q4 : ¬ 9223372036854775807 < 1 + (lcl nw nm).size := by omega
    have q5 : ¬ 9223372036854775807 < 1 + (lcl nw nm).size + 1 := by omega
    have q6 : ¬ 9223372036854775807 < 1 + (lcl nw nm).size + 1 + sv.size := by omega
    rw [g1] at N1
    rw [g3, err_t] at S1
    clear g1 g2 g3 g4 hL hel hxs
    generalize strOfNums (E.esc (bys nm)) = x at *
    generalize lcl nw nm = L at *
    go_enter Try.func11, Try.ntmps11
    go_wp2_with (first
      | (go_at_call 28; refine (N1.out _).mono ?_; rintro e w' ⟨rfl, rfl⟩)
      | (go_at_call 23; refine (S1.out _).mono ?_; rintro e w' ⟨rfl, rfl⟩)
      | (go_at_call 29; refine (X1.out _).mono ?_; rintro e w1 ⟨rfl, hb1⟩; have HB := Lib.hid hb1; clear hb1))
    go_ret2
    exact ⟨by rw [HS.out, HE.out]; first | done | rfl, HB.out⟩
end Go.Proofs.Ytkcceobncjoodaa
