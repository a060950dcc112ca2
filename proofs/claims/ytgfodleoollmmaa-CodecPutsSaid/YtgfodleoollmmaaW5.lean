/- The walks of GetInt, of the program and of the reference. -/
import Derived.Test.YtgfodleoollmmaaW4
namespace Go.Proofs.Ytgfodleoollmmaa
open Go.RowKit
set_option linter.unusedVariables false

theorem got_no {z : Value} {r : Option (Value × List Int)} {w w' : World} {e : Ending} (h : Got z r w e w') (hr : r = none) : e = .returned (.tuple #[z, .slice none 0 0, .bool false]) ∧ Below w.heap.size w w' := by
  subst hr
  exact ⟨h.2, h.1⟩
theorem got_yes {z x : Value} {r : Option (Value × List Int)} {rest : List Int} {w w' : World} {e : Ending} (h : Got z r w e w') (hr : r = some (x, rest)) :
    ∃ A c, e = .returned (.tuple #[x, .slice A rest.length c, .bool true]) ∧ Sl w' A rest.length c rest ∧ Below w.heap.size w w' := by
  subst hr
  obtain ⟨hb, A, c, he, hs⟩ := h
  exact ⟨A, c, he, hs, hb⟩
theorem gi_rest {zs : List Int} {x : Value} {rest : List Int} (h : gi zs = some (x, rest)) : ∃ k, rest = zs.drop k ∧ ∃ u, x = .int .i64 (C.zag u) ∧ C.dec zs = some (u, k) := by
  unfold gi at h
  cases hd : C.dec zs with
  | none => rw [hd] at h; cases h
  | some p =>
    obtain ⟨u, k⟩ := p
    rw [hd] at h
    simp only [Option.some.injEq, Prod.mk.injEq] at h
    exact ⟨k, h.2.symm, u, h.1.symm, rfl⟩

set_option maxHeartbeats 400000 in
theorem getInt_any (a : Option Addr) (len cap : Nat) (zs : List Int) (hl : len ≤ 800000) (w : World) (h : Sl w a len cap zs) :
    Calls Try.prog 22 #[.slice a len cap] w (Got (.int .i64 0) (gi zs) w) := by
  have H := Lib.hid h
  have HL := Lib.hid (show zs.length ≤ 800000 by rw [h.sz]; exact hl)
  clear h
  cases hg : gi zs with
  | none =>
    have HG := Lib.hid hg
    clear hg
    go_enter Try.func22, Try.ntmps22
    go_wp2_with (first
      | (go_at_call 41; refine (cutInt_any _ _ _ zs (by omega) _ H.out).mono ?_; intro e w1 hgot; obtain ⟨rfl, hb1⟩ := got_no hgot HG.out; have HB := Lib.hid hb1; clear hb1 hgot)
      | (go_at_call 40; go_in))
    go_ret3
    simp only []
    go_wp2
    go_ret3
    exact got_none rfl HB.out
  | some p =>
    obtain ⟨x, rest⟩ := p
    have HG := Lib.hid hg
    have hrl : rest.length ≤ 800000 := by
      obtain ⟨k, hk, _⟩ := gi_rest hg
      rw [hk, List.length_drop]; have := HL.out; omega
    clear hg
    go_enter Try.func22, Try.ntmps22
    go_wp2_with (first
      | (go_at_call 41; refine (cutInt_any _ _ _ zs (by omega) _ H.out).mono ?_; intro e w1 hgot; obtain ⟨A1, c1, rfl, hs1, hb1⟩ := got_yes hgot HG.out; have HB := Lib.hid hb1; have HS := Lib.hid hs1; clear hb1 hgot hs1)
      | (go_at_call 35; refine (copied_any A1 _ c1 rest (by omega) _ HS.out).mono ?_; rintro e w2 ⟨A2, c2, rfl, ho2, hb2⟩; have HO2 := Lib.hid ho2; have HB2 := Lib.hid hb2; clear ho2 hb2)
      | (go_at_call 40; go_in))
    go_ret3
    simp only []
    go_wp2
    go_ret3
    exact got_some rfl rfl rfl (OwnPost.sl (w := w) HO2.out HS.out.bd) (HB.out.trans (HB2.out.mono HB.out.size))

theorem take_drop_get {zs : List Int} {k j : Nat} (hj : j < k) (hk : k ≤ zs.length) : (zs.take k).getD j 0 = zs.getD j 0 := by
  rw [List.getD_eq_getElem?_getD, List.getD_eq_getElem?_getD, List.getElem?_take, if_pos hj]
theorem hor_part_lt {zs : List Int} (hb : ∀ z ∈ zs, 0 ≤ z ∧ z ≤ 255) {k : Nat} (hk : k < zs.length) (hk9 : k ≤ 9) (hd : C.dec zs = some (C.hor (zs.take (k + 1)), k + 1)) (j : Nat) : C.hor ((zs.take (k + 1)).drop j) < 18446744073709551616 := by
  rcases Nat.eq_zero_or_pos j with h0 | h0
  · subst h0
    rw [List.drop_zero]
    exact (C.lt64_iff _).1 (C.enc_dec hb hd).2.1
  · have h1 := C.hor_lt ((zs.take (k + 1)).drop j)
    have h2 : ((zs.take (k + 1)).drop j).length ≤ 9 := by rw [List.length_drop, List.length_take]; omega
    have h3 : (128 : Nat) ^ ((zs.take (k + 1)).drop j).length ≤ 128 ^ 9 := Nat.pow_le_pow_right (by decide) h2
    have h4 : (128 : Nat) ^ 9 = 9223372036854775808 := by decide
    omega

set_option maxRecDepth 100000 in
set_option maxHeartbeats 1600000 in
theorem rgetInt_any (a : Option Addr) (len cap : Nat) (zs : List Int) (hl : len ≤ 800000) (w : World) (h : Sl w a len cap zs) :
    Calls Try.prog 23 #[.slice a len cap] w (Got (.int .i64 0) (gi zs) w) := by
  have H := Lib.hid h
  have hz := h.sz
  have hcap := h.le
  subst hz
  clear h
  go_enter Try.func23, Try.ntmps23
  go_wp2
  go_loop [5] (fun i => ∃ k : Nat, k ≤ zs.length ∧ k ≤ 10 ∧ i = .int .i64 k ∧ Hid (∀ j, j < k → 128 ≤ zs.getD j 0 ∧ zs.getD j 0 ≤ 255)) (fun i => zs.length - (intOf i).toNat)
  case atStart => exact ⟨0, by omega, by omega, rfl, Lib.hid (fun j hj => by omega)⟩
  case round =>
    obtain ⟨k, hk, hk10, rfl, HA⟩ := hrel
    by_cases h : k < zs.length
    · obtain ⟨b, o, rfl, z, hz, hzk, hbl, hc⟩ := H.out.byte h
      have HZK := Lib.hid hzk
      clear hzk
      by_cases h10 : k = 10
      · have e1 : ((k : Int) == 10) = true := beq_iff_eq.2 (by omega)
        have HN := Lib.hid (gi_none (C.decF_ten 9 0 zs rfl (by omega) (fun j hj => (HA.out j (by omega)).1)))
        have hk11 : 10 ≤ k := by omega
        clear h10
        go_wp2
        go_ret3
        exact got_none HN.out (Below.refl _ _)
      · have e1 : ((k : Int) == 10) = false := beq_eq_false_iff_ne.2 (by omega)
        have e0 : ((k : Int) == (zs.length : Int)) = false := beq_eq_false_iff_ne.2 (by omega)
        have hk9 : k ≤ 9 := by omega
        clear h10
        by_cases hlast : z < 128
        · have hch := C.decF_char k 0 zs (by omega) HA.out h (by rw [HZK.out]; omega) (by rw [HZK.out]; omega)
          rw [HZK.out, Nat.zero_add] at hch
          by_cases hbad : (k = 9 ∧ 1 < z) ∨ (0 < k ∧ z = 0)
          · have HN := Lib.hid (gi_none (show C.dec zs = none by unfold C.dec; rw [hch, if_pos (by omega)]))
            clear hch
            by_cases h9 : k = 9
            · have e2 : ((k : Int) == 9) = true := beq_iff_eq.2 (by omega)
              have hkp : 1 ≤ k := by omega
              rcases Nat.lt_or_ge 1 z with hz1 | hz1
              · clear hbad h9
                go_wp2
                go_ret3
                exact got_none HN.out (Below.refl _ _)
              · have e3 : ((z : Int) == 0) = true := beq_iff_eq.2 (by omega)
                clear hbad h9
                go_wp2
                go_ret3
                exact got_none HN.out (Below.refl _ _)
            · have e2 : ((k : Int) == 9) = false := beq_eq_false_iff_ne.2 (by omega)
              have hkp : 1 ≤ k := by omega
              have e3 : ((z : Int) == 0) = true := beq_iff_eq.2 (by omega)
              clear hbad h9
              go_wp2
              go_ret3
              exact got_none HN.out (Below.refl _ _)
          · have hd : C.dec zs = some (C.hor (zs.take (k + 1)), k + 1) := by unfold C.dec; rw [hch, if_neg (by omega)]
            have HD := Lib.hid hd
            have HG := Lib.hid (gi_some hd)
            have HU := Lib.hid (C.enc_dec H.out.bd hd).2.1
            have e3 : k ≤ 0 ∨ (1 ≤ k ∧ ((z : Int) == 0) = false) := by
              rcases Nat.eq_zero_or_pos k with h0 | h0
              · exact .inl (by omega)
              · exact .inr ⟨by omega, beq_eq_false_iff_ne.2 (by omega)⟩
            have e2 : (((k : Int) == 9) = true ∧ 1 ≤ k ∧ z ≤ 1) ∨ ((k : Int) == 9) = false := by
              by_cases h9 : k = 9
              · exact .inl ⟨beq_iff_eq.2 (by omega), by omega, by omega⟩
              · exact .inr (beq_eq_false_iff_ne.2 (by omega))
            clear hbad hch hd
            rcases e2 with ⟨e2, e2b, e2c⟩ | e2 <;> rcases e3 with e3 | ⟨e3b, e3⟩
            all_goals (try (exfalso; omega))
            all_goals
              go_wp2
              go_loop [6, 7] (fun u i => ∃ j U : Nat, j ≤ k + 1 ∧ i = .int .i64 ((j : Int) - 1) ∧ u = .int .u64 (U : Int) ∧ Hid (U = C.hor ((zs.take (k + 1)).drop j))) (fun _ i => (intOf i + 1).toNat)
              case atStart => exact ⟨k + 1, 0, by omega, by go_num, rfl, Lib.hid (by rw [List.drop_of_length_le (by rw [List.length_take]; omega)]; rfl)⟩
              case round =>
                obtain ⟨j, U, hj, rfl, rfl, HUj⟩ := hrel
                rcases Nat.eq_zero_or_pos j with h0 | h0
                · subst h0
                  rw [show ((0 : Nat) : Int) - 1 = -1 from rfl]
                  have hU2 : U = C.hor (zs.take (k + 1)) := by rw [HUj.out, List.drop_zero]
                  rw [← hU2] at HG HU
                  have hUb := (C.lt64_iff U).1 HU.out
                  have hw : IntKind.u64.wrap ((U : Int) / 2) = ((U / 2 : Nat) : Int) := by rw [IntKind.wrap_u64]; omega
                  obtain ⟨q, hq⟩ : ∃ q, q = U / 2 := ⟨_, rfl⟩
                  rw [← hq] at hw
                  have hqb : q ≤ 9223372036854775807 := by omega
                  by_cases hp : U % 2 = 0
                  · have hz : C.zag U = (q : Int) := by unfold C.zag; rw [if_pos hp, hq]
                    have HZ2 := Lib.hid hz
                    have ep : ((U : Int) % 2 == 1) = false := beq_eq_false_iff_ne.2 (by omega)
                    clear hUb hq hp hz hU2
                    rcases Nat.lt_or_ge (k + 1) cap with hck | hck
                    · have hck2 : ¬ cap = k + 1 := by omega
                      clear hck
                      go_wp2
                      go_quiet (fail)
                      go_wp2
                      go_ret3
                      exact got_some HG.out (congrArg (Value.int .i64) HZ2.out.symm) (by rw [List.length_drop]) ((H.out.later (k + 1) (by omega)).drewN _) (below_dn (Below.refl _ _) _)
                    · obtain rfl : cap = k + 1 := by omega
                      clear hck
                      go_wp2
                      go_quiet (fail)
                      go_wp2
                      go_ret3
                      exact got_some HG.out (congrArg (Value.int .i64) HZ2.out.symm) (by first | (rw [List.length_drop]; done) | (rw [List.length_drop]; omega)) (Sl.drewN (by simpa [Nat.sub_eq_zero_of_le hcap] using H.out.last (k + 1) (Nat.le_refl _) (some ⟨b, o, none⟩) (fun h => by cases h)) _) (below_dn (Below.refl _ _) _)
                  · have hz : C.zag U = -(q : Int) - 1 := by unfold C.zag; rw [if_neg hp, hq]
                    have HZ2 := Lib.hid hz
                    have ep : ((U : Int) % 2 == 1) = true := beq_iff_eq.2 (by omega)
                    clear hUb hq hp hz hU2
                    rcases Nat.lt_or_ge (k + 1) cap with hck | hck
                    · have hck2 : ¬ cap = k + 1 := by omega
                      clear hck
                      go_wp2
                      go_quiet (fail)
                      go_wp2
                      go_ret3
                      exact got_some HG.out (congrArg (Value.int .i64) HZ2.out.symm) (by rw [List.length_drop]) ((H.out.later (k + 1) (by omega)).drewN _) (below_dn (Below.refl _ _) _)
                    · obtain rfl : cap = k + 1 := by omega
                      clear hck
                      go_wp2
                      go_quiet (fail)
                      go_wp2
                      go_ret3
                      exact got_some HG.out (congrArg (Value.int .i64) HZ2.out.symm) (by first | (rw [List.length_drop]; done) | (rw [List.length_drop]; omega)) (Sl.drewN (by simpa [Nat.sub_eq_zero_of_le hcap] using H.out.last (k + 1) (Nat.le_refl _) (some ⟨b, o, none⟩) (fun h => by cases h)) _) (below_dn (Below.refl _ _) _)
                · obtain ⟨m, rfl⟩ : ∃ m, j = m + 1 := ⟨j - 1, by omega⟩
                  rw [show ((m + 1 : Nat) : Int) - 1 = (m : Int) by omega]
                  obtain ⟨b2, o2, e4, z2, hz2, hzm, _, hc2⟩ := H.out.byte (show m < zs.length by omega)
                  injection e4 with e4
                  injection e4 with e5 e6
                  subst e5 e6
                  have hpl := hor_part_lt H.out.bd h hk9 HD.out m
                  have hstep := C.hor_drop (zs := zs.take (k + 1)) (i := m) (by rw [List.length_take]; omega)
                  rw [take_drop_get (by omega) (by omega), hzm, Int.toNat_natCast, ← HUj.out] at hstep
                  rw [hstep] at hpl
                  have hw1 : IntKind.u64.wrap ((U : Int) * 128) = (U : Int) * 128 := by rw [IntKind.wrap_u64]; omega
                  obtain ⟨V, hV⟩ : ∃ V, V = z2 % 128 + 128 * U := ⟨_, rfl⟩
                  have hw2 : IntKind.u64.wrap ((U : Int) * 128 + (z2 : Int) % 128) = (V : Int) := by rw [IntKind.wrap_u64]; omega
                  have HV := Lib.hid (show V = C.hor ((zs.take (k + 1)).drop m) by rw [hstep, hV])
                  clear hpl hstep hV hzm h0
                  go_wp2
                  go_round
                  case rel => exact ⟨m, V, by omega, rfl, by first | rfl | rw [hw2] | (rw [hw1, hw2]), HV⟩
                  case measure => simp [intOf]
        · have HA2 : Hid (∀ j, j < k + 1 → 128 ≤ zs.getD j 0 ∧ zs.getD j 0 ≤ 255) := Lib.hid (fun j hj => by
            rcases Nat.lt_or_ge j k with h | h
            · exact HA.out j h
            · rw [show j = k by omega, HZK.out]; omega)
          go_wp2
          go_round
          case rel => exact ⟨k + 1, by omega, by omega, by go_num, HA2⟩
          case measure => simp [intOf]; omega
    · by_cases h10 : k = 10
      · have e1 : ((k : Int) == 10) = true := beq_iff_eq.2 (by omega)
        have HN := Lib.hid (gi_none (C.decF_all zs 0 (fun j hj => (HA.out j (by omega)).1)))
        clear h10
        go_wp2
        go_ret3
        exact got_none HN.out (Below.refl _ _)
      · have e1 : ((k : Int) == 10) = false := beq_eq_false_iff_ne.2 (by omega)
        have e0 : ((k : Int) == (zs.length : Int)) = true := beq_iff_eq.2 (by omega)
        have HN := Lib.hid (gi_none (C.decF_all zs 0 (fun j hj => (HA.out j (by omega)).1)))
        clear h10
        go_wp2
        go_ret3
        exact got_none HN.out (Below.refl _ _)
end Go.Proofs.Ytgfodleoollmmaa
