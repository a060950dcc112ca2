/- Identities of other networks: what Bind answers; the closure; find. Bound: at most 900000 ghosts with texts of at most 100000 bytes. -/
import Derived.Test.YtkcceobncjoodaaC1
import Derived.Test.YtkcceobncjoodaaR4
namespace Go.Proofs.Ytkcceobncjoodaa
open Go.RowKit Go.Maps
set_option linter.unusedVariables false
set_option linter.unusedSimpArgs false

set_option maxHeartbeats 2000000 in
theorem closure41 (g p : Rc) (c1 : Nat) (u : World) (hb : Blk u c1 (enc g) 59) : Calls Try.prog 41 #[.agg #[.string p.nt, .string p.na, .string p.us], .pointer (some ⟨c1, 0, none⟩)] u fun e w' => e = .returned (.bool (prec g p)) ∧ Below u.heap.size u w' := by
  have BA := Lib.hid ((Below.refl u.heap.size u).alloc (Nat.le_refl _) (.cells #[.string p.nt, .string p.na, .string p.us] 59))
  have HX := Lib.hid (show Blk (u.alloc (.cells #[.string p.nt, .string p.na, .string p.us] 59)) u.heap.size (enc p) 59 from blk_new u (enc p) 59)
  have HG := Lib.hid (hb.alloc (.cells #[.string p.nt, .string p.na, .string p.us] 59))
  have HP := Lib.hid (fun w => precedes42 g p w)
  clear hb
  go_enter Try.func41, Try.ntmps41
  have q0 := HG.out.cell (i := 0) rfl
  have q1 := HG.out.cell (i := 1) rfl
  have q2 := HG.out.cell (i := 2) rfl
  go_wp2_with (go_at_call 42; (with_reducible refine (HP.out _).mono ?_); rintro e w' ⟨rfl, hb'⟩)
  go_ret
  exact ⟨rfl, BA.out.trans (hb'.mono BA.out.size)⟩
/-- What Bind answers: the list, the user, the error. -/
def bd (zs : List Rc) (nt na sv : ByteArray) : List Rc × ByteArray × Int :=
  if usE nt na sv ≠ 0 then ([], ⟨#[]⟩, usE nt na sv) else
  match idf zs nt na with
  | some u => (zs, u, 0)
  | none => if 200 ≤ zs.length then ([], ⟨#[]⟩, 29) else (insQ (prec ⟨nt, na, usS nt na sv⟩) ⟨nt, na, usS nt na sv⟩ zs, usS nt na sv, 0)
def BdX (w : World) (X : List Rc × ByteArray × Int) (e : Ending) (w' : World) : Prop := ∃ A' c', e = .returned (.tuple #[.slice A' X.1.length c', .string X.2.1, .int .i64 X.2.2]) ∧ Rcs w' A' X.1.length c' X.1 ∧ Below w.heap.size w w'
def BdP (w : World) (zs : List Rc) (nt na sv : ByteArray) (e : Ending) (w' : World) : Prop := BdX w (bd zs nt na sv) e w'
theorem bd_bad {zs : List Rc} {nt na sv : ByteArray} (h : usE nt na sv ≠ 0) : bd zs nt na sv = ([], ⟨#[]⟩, usE nt na sv) := by unfold bd; rw [if_pos h]
theorem bd_old {zs : List Rc} {nt na sv u : ByteArray} (h : usE nt na sv = 0) (hi : idf zs nt na = some u) : bd zs nt na sv = (zs, u, 0) := by unfold bd; rw [if_neg (by simpa using h), hi]
theorem bd_full {zs : List Rc} {nt na sv : ByteArray} (h : usE nt na sv = 0) (hi : idf zs nt na = none) (hl : 200 ≤ zs.length) : bd zs nt na sv = ([], ⟨#[]⟩, 29) := by unfold bd; rw [if_neg (by simpa using h), hi]; simp only; rw [if_pos hl]
theorem bd_new {zs : List Rc} {nt na sv : ByteArray} (h : usE nt na sv = 0) (hi : idf zs nt na = none) (hl : ¬ 200 ≤ zs.length) : bd zs nt na sv = (insQ (prec ⟨nt, na, usS nt na sv⟩) ⟨nt, na, usS nt na sv⟩ zs, usS nt na sv, 0) := by unfold bd; rw [if_neg (by simpa using h), hi]; simp only; rw [if_neg hl]
theorem ret_bd {A : Option Addr} {n c : Nat} {u u' : ByteArray} {r r' : Int} {m : Nat} (h1 : n = m) (h2 : u = u') (h3 : r = r') : Ending.returned (.tuple #[.slice A n c, .string u, .int .i64 r]) = .returned (.tuple #[.slice A m c, .string u', .int .i64 r']) := by rw [h1, h2, h3]
theorem bdx_none {w w' : World} {X : List Rc × ByteArray × Int} {r : Int} (hX : X = ([], ⟨#[]⟩, r)) (hb : Below w.heap.size w w') : BdX w X (.returned (.tuple #[.slice none 0 0, .string ⟨#[]⟩, .int .i64 r])) w' := by
  subst hX
  exact ⟨none, 0, rfl, Rcs.nil _, hb⟩
theorem find_none {zs : List Rc} {nt na : ByteArray} (h : ∀ p ∈ zs, idm nt na p = false) : idf zs nt na = none := by
  unfold idf
  rw [List.find?_eq_none.2 (fun p hp => by rw [h p hp]; simp)]
  rfl
theorem find_at {zs : List Rc} {nt na : ByteArray} {k : Nat} (hk : k < zs.length) (h : idm nt na (zs.getD k t0) = true) (hn : ∀ p ∈ zs.take k, idm nt na p = false) : idf zs nt na = some (zs.getD k t0).us := by
  unfold idf
  have e : zs = zs.take k ++ (zs.getD k t0) :: zs.drop (k + 1) := by
    rw [getD_at hk]
    exact (List.take_append_drop k zs).symm.trans (by rw [List.drop_eq_getElem_cons hk])
  rw [e, List.find?_append, List.find?_eq_none.2 (fun p hp => by rw [hn p hp]; simp), Option.none_or, List.find?_cons]
  rw [← e, h]
  rfl
theorem idm_and (u d : ByteArray) (p : Rc) : ((p.nt.toList == u.toList) && (p.na.toList == d.toList)) = idm u d p := by
  rw [str_beq, str_beq]; unfold idm; simp
set_option maxRecDepth 100000 in
set_option maxHeartbeats 2000000 in
theorem find43 (A : Option Addr) (n c : Nat) (zs : List Rc) (u d : ByteArray) (w : World) (h : Rcs w A n c zs) (hn : n ≤ 900000) : Calls Try.prog 43 #[.slice A n c, .string u, .string d] w fun e w' => e = .returned (.int .i64 (fidx (idm u d) zs)) ∧ Below w.heap.size w w' := by
  have H := Lib.hid h
  have HL := Lib.hid h.len
  clear h
  go_enter Try.func43, Try.ntmps43
  go_wp2
  go_loopg [7] n (fun gg s7 wr => ∃ kk : Nat, kk ≤ n ∧ n - kk ≤ gg ∧ s7 = .int .i64 kk ∧ Hid (Below w.heap.size w wr) ∧ Hid (∀ j, j < kk → idm u d (zs.getD j t0) = false))
  case atStart => exact ⟨0, Nat.zero_le _, by omega, rfl, Lib.hid (Below.refl _ w), Lib.hid (fun j hj => absurd hj (Nat.not_lt_zero _))⟩
  case round =>
    obtain ⟨kk, hkk, hg, rfl, BW, O⟩ := hrel
    by_cases hlt : kk < n
    · have hltz : (kk : Int) < (n : Int) := by omega
      obtain ⟨b, off, rfl, hbl, k0, k1, k2, _⟩ := (H.out.below BW.out).at_ hlt
      have HQ := Lib.hid (idm_and u d (zs.getD kk t0))
      generalize hz : zs.getD kk t0 = p at k0 k1 k2 HQ
      have HZ := Lib.hid hz
      clear hz
      by_cases hq : idm u d p = true
      · have HF := Lib.hid (fidx_at (q := idm u d) (by rw [HL.out]; exact hlt) (by rw [HZ.out]; exact hq) O.out)
        rw [hq, Bool.and_eq_true] at HQ
        have c1 := HQ.out.1
        have c2 := HQ.out.2
        clear hq
        go_wp2
        go_ret
        exact ⟨ret_i64 HF.out.symm, BW.out⟩
      · rw [Bool.not_eq_true] at hq
        have HF := Lib.hid hq
        rw [hq] at HQ
        cases c1 : (p.nt.toList == u.toList)
        · clear hq
          go_wp2
          go_roundg (n - (kk + 1))
          case measure => omega
          case rel =>
            refine ⟨kk + 1, by omega, by omega, by go_num, BW, Lib.hid (fun j hj => ?_)⟩
            by_cases e : j = kk
            · subst e; rw [HZ.out]; exact HF.out
            · exact O.out j (by omega)
        · rw [c1, Bool.true_and] at HQ
          have c2 := HQ.out
          clear hq
          go_wp2
          go_roundg (n - (kk + 1))
          case measure => omega
          case rel =>
            refine ⟨kk + 1, by omega, by omega, by go_num, BW, Lib.hid (fun j hj => ?_)⟩
            by_cases e : j = kk
            · subst e; rw [HZ.out]; exact HF.out
            · exact O.out j (by omega)
    · have hltz : ¬ (kk : Int) < (n : Int) := by omega
      have HF := Lib.hid (fidx_no (q := idm u d) (zs := zs) (fun j hj => O.out j (by rw [HL.out] at hj; omega)))
      go_wp2
      go_ret
      exact ⟨ret_i64 HF.out.symm, BW.out⟩
end Go.Proofs.Ytkcceobncjoodaa
