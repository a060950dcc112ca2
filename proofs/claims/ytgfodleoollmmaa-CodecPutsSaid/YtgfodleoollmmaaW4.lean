/- The walk of cutInt. -/
import Derived.Test.YtgfodleoollmmaaW3
import Derived.Deep.QuietTactic
import Derived.BigQuiet
namespace Go.Proofs.Ytgfodleoollmmaa
open Go.RowKit
set_option linter.unusedVariables false

/-- What a function that reads leaves: nothing, or a value and the bytes behind it. -/
def Got (z : Value) (r : Option (Value × List Int)) (w : World) (e : Ending) (w' : World) : Prop :=
  Below w.heap.size w w' ∧ match r with
  | none => e = .returned (.tuple #[z, .slice none 0 0, .bool false])
  | some (x, rest) => ∃ A c, e = .returned (.tuple #[x, .slice A rest.length c, .bool true]) ∧ Sl w' A rest.length c rest
def gi (zs : List Int) : Option (Value × List Int) := match C.dec zs with
  | none => none
  | some (u, k) => some (.int .i64 (C.zag u), zs.drop k)
theorem gi_none {zs : List Int} (h : C.dec zs = none) : gi zs = none := by unfold gi; rw [h]
theorem gi_some {zs : List Int} {u k : Nat} (h : C.dec zs = some (u, k)) : gi zs = some (.int .i64 (C.zag u), zs.drop k) := by unfold gi; rw [h]

theorem got_some {z x v : Value} {r : Option (Value × List Int)} {rest : List Int} {w w' : World} {A : Option Addr} {n c : Nat} (h : r = some (x, rest)) (he : v = x) (hn : n = rest.length) (hs : Sl w' A n c rest) (hb : Below w.heap.size w w') :
    Got z r w (.returned (.tuple #[v, .slice A n c, .bool true])) w' := by
  subst h he hn
  exact ⟨hb, A, c, rfl, hs⟩
theorem got_none {z : Value} {r : Option (Value × List Int)} {w w' : World} (h : r = none) (hb : Below w.heap.size w w') : Got z r w (.returned (.tuple #[z, .slice none 0 0, .bool false])) w' := by
  subst h
  exact ⟨hb, rfl⟩
theorem below_dn {B : Nat} {w w1 : World} (h : Below B w w1) (n : Nat) : Below B w (w1.drewN n) := ⟨h.os, h.tape, h.output, h.size, h.block⟩
theorem Sl.later {w : World} {b o len cap : Nat} {zs : List Int} (h : Sl w (some ⟨b, o, none⟩) len cap zs) (k : Nat) (hk : k ≤ len) : Sl w (some ⟨b, o + k, none⟩) (len - k) (cap - k) (zs.drop k) := by
  refine ⟨by rw [List.length_drop, h.sz], fun z hz => h.bd z (List.mem_of_mem_drop hz), by have := h.le; omega, (fun hn => by cases hn), fun h0 => ?_⟩
  obtain ⟨b', off, e, hl, hc⟩ := h.cell (by omega)
  injection e with e
  injection e with e1 e2
  subst e1 e2
  refine ⟨b, o + k, rfl, hl, fun i hi => ?_⟩
  rw [show o + k + i = o + (k + i) by omega, hc (k + i) (by omega), List.getD_eq_getElem?_getD, List.getD_eq_getElem?_getD, List.getElem?_drop]
theorem Sl.last {w : World} {a : Option Addr} {len cap : Nat} {zs : List Int} (h : Sl w a len cap zs) (k : Nat) (hk : cap ≤ k) (a' : Option Addr) (ha : a' = none → cap = 0) : Sl w a' (len - k) 0 (zs.drop k) := by
  have hle := h.le
  rw [List.drop_of_length_le (by rw [h.sz]; omega), Nat.sub_eq_zero_of_le (by omega)]
  exact Sl.empty w a' 0 (fun _ => rfl)
theorem zag_own {R : Nat} (h : C.lt64 R) : bits BinOp.xor IntKind.i64 (wrap64 ((R : Int) / 2)) (wrap64 (-wrap64 (bits BinOp.and IntKind.u64 (R : Int) 1))) = C.zag R := by
  have hR := (C.lt64_iff R).1 h
  have e1 : bits BinOp.and IntKind.u64 (R : Int) 1 = ((R % 2 : Nat) : Int) := by
    show IntKind.u64.wrap ((BitVec.ofInt 64 (R : Int) &&& BitVec.ofInt 64 1).toNat : Int) = _
    have h2 : (BitVec.ofInt 64 (1 : Int)).toNat = 1 := by decide
    rw [BitVec.toNat_and, C.nat64 R hR, h2, Nat.and_one_is_mod, IntKind.wrap_u64]; omega
  have e2 : wrap64 ((R : Int) / 2) = ((R / 2 : Nat) : Int) := by rw [IntWalk.wrap64_in _ (by omega)]; omega
  have e3 : wrap64 ((R % 2 : Nat) : Int) = ((R % 2 : Nat) : Int) := IntWalk.wrap64_in _ (by omega)
  have e4 : wrap64 (-((R % 2 : Nat) : Int)) = -((R % 2 : Nat) : Int) := IntWalk.wrap64_in _ (by omega)
  rw [e1, e2, e3, e4]
  have hm : (BitVec.ofInt 64 ((R / 2 : Nat) : Int)).toNat = R / 2 := C.nat64 _ (by omega)
  unfold C.zag
  by_cases h0 : R % 2 = 0
  · rw [if_pos h0, h0]
    show IntKind.i64.wrap ((BitVec.ofInt 64 ((R / 2 : Nat) : Int) ^^^ BitVec.ofInt 64 (-((0 : Nat) : Int))).toNat : Int) = _
    have hz : (BitVec.ofInt 64 (-((0 : Nat) : Int))).toNat = 0 := by decide
    rw [BitVec.toNat_xor, hm, hz, Nat.xor_zero, IntKind.wrap_i64]; omega
  · rw [if_neg h0, show R % 2 = 1 by omega]
    show IntKind.i64.wrap ((BitVec.ofInt 64 ((R / 2 : Nat) : Int) ^^^ BitVec.ofInt 64 (-((1 : Nat) : Int))).toNat : Int) = _
    have hz : (BitVec.ofInt 64 (-((1 : Nat) : Int))).toNat = 18446744073709551615 := by decide
    rw [BitVec.toNat_xor, hm, hz, C.xor_ones _ (by omega), IntKind.wrap_i64]; omega

set_option maxRecDepth 100000 in
set_option maxHeartbeats 1600000 in
theorem cutInt_any (a : Option Addr) (len cap : Nat) (zs : List Int) (hl : len ≤ 900000) (w : World) (h : Sl w a len cap zs) :
    Calls Try.prog 41 #[.slice a len cap] w (Got (.int .i64 0) (gi zs) w) := by
  have H := Lib.hid h
  have hz := h.sz
  have hcap := h.le
  subst hz
  clear h
  go_enter Try.func41, Try.ntmps41
  go_wp2
  go_loop [5, 6, 7, 10] (fun u _ _ i => ∃ (k r : Nat), k ≤ zs.length ∧ i = .int .i64 k ∧ u = .int .u64 r ∧ k ≤ 9 ∧ Hid (C.Front zs k r)) (fun _ _ _ i => zs.length - (intOf i).toNat)
  case atStart => exact ⟨0, 0, by omega, rfl, rfl, by omega, Lib.hid (C.front_zero zs)⟩
  case round =>
    obtain ⟨k, r, hk, rfl, rfl, hk9, HF⟩ := hrel
    by_cases h : k < zs.length
    · obtain ⟨b, o, rfl, z, hz, hzk, hbl, hc⟩ := H.out.byte h
      have HZK := Lib.hid hzk
      clear hzk
      by_cases hbad : (k = 9 ∧ 1 < z) ∨ (0 < k ∧ z = 0)
      · have HN := Lib.hid (gi_none (C.front_bad HF.out h HZK.out (by omega)))
        by_cases h9 : k = 9
        · have e1 : ((k : Int) == 9) = true := beq_iff_eq.2 (by omega)
          have hkp : 1 ≤ k := by omega
          rcases Nat.lt_or_ge 1 z with hz1 | hz1
          · clear hbad h9
            go_wp2
            go_ret3
            exact got_none HN.out (Below.refl _ _)
          · have e2 : ((z : Int) == 0) = true := beq_iff_eq.2 (by omega)
            clear hbad h9
            go_wp2
            go_ret3
            exact got_none HN.out (Below.refl _ _)
        · have e1 : ((k : Int) == 9) = false := beq_eq_false_iff_ne.2 (by omega)
          have hkp : 1 ≤ k := by omega
          have e2 : ((z : Int) == 0) = true := beq_iff_eq.2 (by omega)
          clear hbad h9
          go_wp2
          go_ret3
          exact got_none HN.out (Below.refl _ _)
      · have hor := C.or_step (c := z) HF.out.1 hz hk9 (by omega)
        by_cases hlast : z < 128
        · have HG := Lib.hid (gi_some (C.front_last HF.out h HZK.out (by omega) (by omega)))
          have HU := Lib.hid ((C.enc_dec H.out.bd (C.front_last HF.out h HZK.out (by omega) (by omega))).2.1)
          rw [Int.toNat_natCast] at HG HU
          have hzm : z % 128 = z := Nat.mod_eq_of_lt hlast
          rw [hzm] at hor
          generalize r + 128 ^ k * z = R at *
          have HZA := Lib.hid (zag_own HU.out)
          clear hzm
          have e2 : k ≤ 0 ∨ (1 ≤ k ∧ ((z : Int) == 0) = false) := by
            rcases Nat.eq_zero_or_pos k with h0 | h0
            · exact .inl (by omega)
            · exact .inr ⟨by omega, beq_eq_false_iff_ne.2 (by omega)⟩
          have e1 : (((k : Int) == 9) = true ∧ 1 ≤ k ∧ z ≤ 1) ∨ ((k : Int) == 9) = false := by
            by_cases h9 : k = 9
            · exact .inl ⟨beq_iff_eq.2 (by omega), by omega, by omega⟩
            · exact .inr (beq_eq_false_iff_ne.2 (by omega))
          clear hbad
          rcases e1 with ⟨e1, e1b, e1c⟩ | e1 <;> rcases e2 with e2 | ⟨e2b, e2⟩ <;> rcases Nat.lt_or_ge (k + 1) cap with hck | hck
          all_goals (try (exfalso; omega))
          all_goals
            first
            | have hck2 : ¬ cap = k + 1 := by omega
              clear hck
              go_wp2
              go_quiet (fail)
              go_wp2
              go_ret3
              exact got_some HG.out (congrArg (Value.int .i64) HZA.out) (by rw [List.length_drop]) ((H.out.later (k + 1) (by omega)).drewN _) (below_dn (Below.refl _ _) _)
            | obtain rfl : cap = k + 1 := by omega
              clear hck
              go_wp2
              go_quiet (fail)
              go_wp2
              go_ret3
              exact got_some HG.out (congrArg (Value.int .i64) HZA.out) (by first | (rw [List.length_drop]; done) | (rw [List.length_drop]; omega)) (Sl.drewN (by simpa [Nat.sub_eq_zero_of_le hcap] using H.out.last (k + 1) (Nat.le_refl _) (some ⟨b, o, none⟩) (fun h => by cases h)) _) (below_dn (Below.refl _ _) _)
        · have HG := Lib.hid (C.front_on HF.out h HZK.out (by omega) (by omega) (by omega))
          have hzm : z % 128 = z - 128 := by omega
          rw [hzm] at hor
          rw [Int.toNat_natCast] at HG
          generalize r + 128 ^ k * (z - 128) = R at *
          have hk8 : k ≤ 8 := by omega
          have e1 : ((k : Int) == 9) = false := beq_eq_false_iff_ne.2 (by omega)
          have e2 : ((z : Int) == 0) = false := beq_eq_false_iff_ne.2 (by omega)
          clear hbad hzm
          rcases Nat.eq_zero_or_pos k with h0 | h0
          · have hk0 : k ≤ 0 := by omega
            clear h0
            go_wp2
            go_round
            case rel => exact ⟨k + 1, R, by omega, by go_num, by first | rfl | rw [hor], by omega, HG⟩
            case measure => simp [intOf]; omega
          · go_wp2
            go_round
            case rel => exact ⟨k + 1, R, by omega, by go_num, by first | rfl | rw [hor], by omega, HG⟩
            case measure => simp [intOf]; omega
    · have HN := Lib.hid (gi_none (C.front_end HF.out (by omega)))
      go_wp2
      go_ret3
      exact got_none HN.out (Below.refl _ _)
end Go.Proofs.Ytgfodleoollmmaa
