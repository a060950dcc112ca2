/- The walks of parts, marked and what stands over them, for every text. -/
import Derived.Test.YtbkchcpfnoclhaaGreatIW3
import Derived.Below
namespace Go.Proofs.YtbkchcpfnoclhaaGreat
open Go.RowKit
set_option linter.unusedVariables false

theorem ret_str {a b : ByteArray} (h : a = b) : Ending.returned (.string a) = .returned (.string b) := by rw [h]
theorem bys_extract (s : ByteArray) (a b : Nat) : bys (s.extract a b) = ((bys s).take b).drop a := by
  unfold bys
  rw [ByteArray.data_extract, Array.toList_extract, List.extract_eq_take_drop, List.map_take, List.map_drop, List.drop_take]
theorem bys_from (s : ByteArray) (a : Nat) : bys (s.extract a s.size) = (bys s).drop a := by
  rw [bys_extract, List.take_of_length_le (by rw [bys_len]; exact Nat.le_refl _)]
theorem size_extract_le (s : ByteArray) (a b : Nat) {m : Nat} (h : s.size ≤ m) : (s.extract a b).size ≤ m := by
  rw [ByteArray.size_extract]; omega
/-- The two parts of an identifier. -/
def locP (s : ByteArray) : ByteArray := s.extract 1 (I.col (bys s))
def srvP (s : ByteArray) : ByteArray := s.extract (I.col (bys s) + 1) s.size
theorem mkd_cons {m : Int} {t : List Int} (h : m ≠ 58) : I.mkd m (m :: t) = (decide (I.col t < t.length) && (I.isLoc (t.take (I.col t)) && I.isSrv (t.drop (I.col t + 1)))) := by
  unfold I.mkd
  rw [I.col_cons _ h]
  simp
theorem mkd_other {m : Int} {l : List Int} (h : l = [] ∨ l.getD 0 0 ≠ m) : I.mkd m l = false := by
  apply I.mkd_false
  rintro ⟨⟨h1, h2, _⟩, _⟩
  rcases h with rfl | h
  · simp at h1
  · exact h h2
theorem bys_head {s : ByteArray} {m : Int} (h0 : 0 < s.size) (h : (s[0].toNat : Int) = m) : bys s = m :: bys (s.extract 1 s.size) := by
  rw [bys_from]
  have hl := bys_len s
  cases hb : bys s with
  | nil => rw [hb] at hl; simp at hl; omega
  | cons c t =>
    have := bys_getD s 0 h0
    rw [hb] at this
    simp at this
    simp [this, h]
/-- All that the walks of parts and marked want of a text that begins with the mark. -/
structure Beg (s t : ByteArray) (m : Int) : Prop where
  eq : bys s = m :: bys t
  col : I.col (bys s) = I.col (bys t) + 1
  mkq : I.mkd m (bys s) = (decide (I.col (bys t) < t.size) && (I.isLoc (bys (t.extract 0 (I.col (bys t)))) && I.isSrv (bys (t.extract (I.col (bys t) + 1) t.size))))
  sz : t.size + 1 = s.size
  loc : t.extract 0 (I.col (bys t)) = locP s
  srv : t.extract (I.col (bys t) + 1) t.size = srvP s
theorem beg {s : ByteArray} {m : Int} (hm : m ≠ 58) (h0 : 0 < s.size) (h : (s[0].toNat : Int) = m) : Beg s (s.extract 1 s.size) m := by
  have e := bys_head h0 h
  have hsz : (s.extract 1 s.size).size = s.size - 1 := by rw [ByteArray.size_extract]; omega
  have hc : I.col (bys s) = I.col (bys (s.extract 1 s.size)) + 1 := by conv => lhs; rw [e, I.col_cons _ hm]
  have hcl := I.col_le (bys (s.extract 1 s.size))
  rw [bys_len, hsz] at hcl
  have hm' : I.mkd m (bys s) = I.mkd m (m :: bys (s.extract 1 s.size)) := by rw [← e]
  have hx : ∀ a b, (s.extract 1 s.size).extract a b = s.extract (1 + a) (min (1 + b) s.size) := fun a b => ByteArray.extract_extract
  obtain ⟨t, ht⟩ : ∃ t, t = s.extract 1 s.size := ⟨_, rfl⟩
  rw [← ht] at e hsz hc hcl hm' hx
  rw [← ht]
  refine ⟨e, hc, ?_, by omega, ?_, ?_⟩
  · rw [hm', mkd_cons hm, bys_len, bys_extract t 0, List.drop_zero, bys_from]
  · unfold locP
    rw [hx, hc, show min (1 + I.col (bys t)) s.size = I.col (bys t) + 1 by omega]
  · unfold srvP
    rw [hx, hc, hsz, show min (1 + (s.size - 1)) s.size = s.size by omega, show 1 + (I.col (bys t) + 1) = I.col (bys t) + 1 + 1 by omega]
abbrev no3 : Ending := .returned (.tuple #[.string ⟨#[]⟩, .string ⟨#[]⟩, .bool false])
set_option maxHeartbeats 800000 in
set_option maxRecDepth 100000 in
theorem parts_no (s : ByteArray) (m : Int) (hm : m ≠ 58) (hs : s.size ≤ 9223372036854775807) (hk : I.mkd m (bys s) = false) (w : World) :
    Calls Tryz.prog 27 #[.string s, .int .u8 m] w fun e w' => e = .returned (.tuple #[.string ⟨#[]⟩, .string ⟨#[]⟩, .bool false]) ∧ Below w.heap.size w w' := by
  by_cases h0 : s.size = 0
  · have e0 : ((s.size : Int) == 0) = true := beq_iff_eq.2 (by omega)
    clear h0 hk
    go_enter Tryz.func27, Tryz.ntmps27
    go_wp2
    go_ret3
    exact ⟨rfl, Below.refl _ _⟩
  · have e0 : ((s.size : Int) == 0) = false := beq_eq_false_iff_ne.2 (by omega)
    have hp : 0 < s.size := by omega
    clear h0
    by_cases h1 : (s[0].toNat : Int) = m
    · have e1 : ((s[0].toNat : Int) != m) = false := by rw [bne_eq_false_iff_eq]; exact h1
      have B := beg hm hp h1
      have hsx : (s.extract 1 s.size).size ≤ 9223372036854775807 := size_extract_le _ _ _ hs
      have hmk := B.mkq
      rw [hk] at hmk
      have HP := Lib.hid hp
      have q1 : (1 : Int) ≤ (s.size : Int) := by omega
      clear h1 B hk
      obtain ⟨t, ht⟩ : ∃ t, s.extract 1 s.size = t := ⟨_, rfl⟩
      rw [ht] at hmk hsx
      have HT := Lib.hid ht
      clear ht
      by_cases hc : I.col (bys t) < t.size
      · have C := Lib.hid (scut_hit t w hc hsx)
        rw [decide_eq_true hc, Bool.true_and] at hmk
        have CL := Lib.hid (isLocal_any (t.extract 0 (I.col (bys t))) (size_extract_le _ _ _ hsx))
        have CS := Lib.hid (isServer_any (t.extract (I.col (bys t) + 1) t.size) (size_extract_le _ _ _ hsx))
        clear hc
        generalize t.extract 0 (I.col (bys t)) = x at *
        generalize t.extract (I.col (bys t) + 1) t.size = y at *
        cases hx : I.isLoc (bys x)
        · clear hmk
          go_enter Tryz.func27, Tryz.ntmps27
          go_wp2_with (first
            | (go_at_call 39; rw [HT.out]; refine C.out.mono ?_; rintro e w1 ⟨rfl, hb1⟩; have HB := Lib.hid hb1; clear hb1)
            | (go_at_call 40; refine (CL.out _).mono ?_; rintro e w' ⟨rfl, rfl⟩))
          go_ret3
          exact ⟨rfl, HB.out⟩
        · rw [hx, Bool.true_and] at hmk
          have hy := hmk.symm
          clear hmk
          go_enter Tryz.func27, Tryz.ntmps27
          go_wp2_with (first
            | (go_at_call 39; rw [HT.out]; refine C.out.mono ?_; rintro e w1 ⟨rfl, hb1⟩; have HB := Lib.hid hb1; clear hb1)
            | (go_at_call 40; refine (CL.out _).mono ?_; rintro e w' ⟨rfl, rfl⟩)
            | (go_at_call 41; refine (CS.out _).mono ?_; rintro e w' ⟨rfl, rfl⟩))
          go_ret3
          exact ⟨rfl, HB.out⟩
      · have C := Lib.hid (scut_miss t w hc)
        clear hc hmk
        go_enter Tryz.func27, Tryz.ntmps27
        go_wp2_with (go_at_call 39; rw [HT.out]; refine C.out.mono ?_; rintro e w1 ⟨rfl, hb1⟩; have HB := Lib.hid hb1; clear hb1)
        go_ret3
        exact ⟨rfl, HB.out⟩
    · have e1 : ((s[0].toNat : Int) != m) = true := by rw [bne_iff_ne]; exact h1
      clear h1 hk
      go_enter Tryz.func27, Tryz.ntmps27
      go_wp2
      go_ret3
      exact ⟨rfl, Below.refl _ _⟩

set_option maxHeartbeats 800000 in
set_option maxRecDepth 100000 in
theorem parts_yes (s : ByteArray) (m : Int) (hm : m ≠ 58) (hs : s.size ≤ 9223372036854775807) (hk : I.mkd m (bys s) = true) (w : World) :
    Calls Tryz.prog 27 #[.string s, .int .u8 m] w fun e w' => e = .returned (.tuple #[.string (locP s), .string (srvP s), .bool true]) ∧ Below w.heap.size w w' := by
  obtain ⟨k1, k2, k3⟩ := (I.mkd_iff.1 hk).1
  rw [bys_len] at k1
  have hp : 0 < s.size := k1
  rw [bys_getD s 0 hp] at k2
  have e0 : ((s.size : Int) == 0) = false := beq_eq_false_iff_ne.2 (by omega)
  have e1 : ((s[0].toNat : Int) != m) = false := by rw [bne_eq_false_iff_eq]; exact k2
  have B := beg hm hp k2
  have hsx : (s.extract 1 s.size).size ≤ 9223372036854775807 := size_extract_le _ _ _ hs
  have hmk := B.mkq
  rw [hk] at hmk
  have q1 : (1 : Int) ≤ (s.size : Int) := by omega
  have HL := Lib.hid B.loc
  have HS := Lib.hid B.srv
  have HP := Lib.hid hp
  clear k1 k2 k3 B hk hm
  obtain ⟨t, ht⟩ : ∃ t, s.extract 1 s.size = t := ⟨_, rfl⟩
  rw [ht] at hmk hsx HL HS
  have HT := Lib.hid ht
  clear ht
  rw [eq_comm, Bool.and_eq_true, Bool.and_eq_true, decide_eq_true_iff] at hmk
  obtain ⟨hc, hx, hy⟩ := hmk
  have C := Lib.hid (scut_hit t w hc hsx)
  have CL := Lib.hid (isLocal_any (t.extract 0 (I.col (bys t))) (size_extract_le _ _ _ hsx))
  have CS := Lib.hid (isServer_any (t.extract (I.col (bys t) + 1) t.size) (size_extract_le _ _ _ hsx))
  clear hc
  generalize t.extract 0 (I.col (bys t)) = x at *
  generalize t.extract (I.col (bys t) + 1) t.size = y at *
  go_enter Tryz.func27, Tryz.ntmps27
  go_wp2_with (first
    | (go_at_call 39; rw [HT.out]; refine C.out.mono ?_; rintro e w1 ⟨rfl, hb1⟩; have HB := Lib.hid hb1; clear hb1)
    | (go_at_call 40; refine (CL.out _).mono ?_; rintro e w' ⟨rfl, rfl⟩)
    | (go_at_call 41; refine (CS.out _).mono ?_; rintro e w' ⟨rfl, rfl⟩))
  go_ret3
  exact ⟨by rw [← HL.out, ← HS.out]; rfl, HB.out⟩
end Go.Proofs.YtbkchcpfnoclhaaGreat
