/- The mainline: the reference's Closest. Bound: at most 900000 events and numbers. -/
import Derived.Test.YtoljlpddcpdoiaaW12
namespace Go.Proofs.Ytoljlpddcpdoiaa
open Go Go.RowKit Go.Maps
set_option linter.unusedVariables false
set_option linter.unusedSimpArgs false

theorem rk_mem (zs : List Int) (x : Int) : (rk zs x).isSome = decide (x ∈ zs) := by
  unfold rk
  cases hp : plc (meL zs) zs.length x with
  | some i =>
    obtain ⟨j, rfl, hj, h⟩ := plc_lt hp
    exact (has_yes hj h).symm
  | none =>
    unfold plc at hp
    rw [Option.map_eq_none_iff, List.find?_eq_none] at hp
    refine (has_no fun j hj h => ?_).symm
    have := hp j (by simpa using hj)
    simp only [beq_iff_eq] at this
    exact this h
theorem take_snoc {way : List Int} {k : Nat} (hk : k < way.length) : way.take k ++ [way.getD k 0] <+: way := by
  refine ⟨way.drop (k + 1), ?_⟩
  rw [List.append_assoc, List.getD_eq_getElem?_getD, List.getElem?_eq_getElem hk]
  simp only [Option.getD_some, List.singleton_append]
  rw [← List.drop_eq_getElem_cons hk, List.take_append_drop]
theorem take_at {way : List Int} {k : Nat} {P : Int → Prop} (h : ∀ j, j < k → j < way.length → P (way.getD j 0)) : ∀ z ∈ way.take k, P z := by
  intro z hz
  obtain ⟨j, hj, rfl⟩ := List.getElem_of_mem hz
  rw [List.length_take] at hj
  have := h j (by omega) (by omega)
  rw [List.getD_eq_getElem?_getD, List.getElem?_eq_getElem (by omega)] at this
  rw [List.getElem_take]
  exact this
set_option maxRecDepth 100000 in
set_option maxHeartbeats 8000000 in
theorem rclosest14 (A : Option Addr) (n c : Nat) (E : Nat → Me) (A2 : Option Addr) (n2 k2 : Nat) (zs : List Int) (id : Int) (w : World) (h : Evm w A n E) (hn : n ≤ 900000) (h2 : Its w A2 n2 k2 zs) (hn2 : n2 ≤ 900000) (hw : i64B id) : Calls Try.prog 14 #[.slice A n c, .slice A2 n2 k2, .int .i64 id] w fun e w' => e = .returned (.int .i64 (clo (wayL E n id) (rk zs) n2)) ∧ Below w.heap.size w w' := by
  have HO := Lib.hid (rof12 A n c E id w h hn hw)
  have H2 := Lib.hid h2
  have HLn := Lib.hid (way_len E n id)
  unfold IntsP at HO
  clear h h2
  generalize wayL E n id = way at HO HLn
  have hwl : way.length ≤ 900001 := by have := HLn.out; omega
  go_enter Try.func14, Try.ntmps14
  go_wp2_with (go_at_call 12; (with_reducible refine HO.out.mono ?_); rintro e w1 ⟨A1, c1, rfl, hi, hb, _⟩; have I1 := Lib.hid hi; have B1 := Lib.hid hb; clear hi hb)
  go_loopg [8] way.length (fun gg s8 wr => ∃ kk : Nat, kk ≤ way.length ∧ way.length - kk ≤ gg ∧ s8 = .int .i64 kk ∧ Hid (∀ j, j < kk → j < way.length → rk zs (way.getD j 0) = none) ∧ wr = w1)
  case atStart => exact ⟨0, Nat.zero_le _, by omega, rfl, Lib.hid (fun j hj => absurd hj (Nat.not_lt_zero _)), rfl⟩
  case round =>
    obtain ⟨kk, hkk, hg, rfl, HJ, rfl⟩ := hrel
    by_cases hlt : kk < way.length
    · have hltz : (kk : Int) < (way.length : Int) := by omega
      have hk0 : (0 : Int) ≤ (kk : Int) := by omega
      obtain ⟨b, off, rfl, hbl, q0, hfit⟩ := I1.out.at_ hlt
      have HM := Lib.hid (rk_mem zs (way.getD kk 0))
      have HY := Lib.hid (fun y (h : rk zs (way.getD kk 0) = some y) => clo_yes (nn := (n2 : Int)) (f := rk zs) (take_snoc hlt) (take_at HJ.out) h)
      have HN : Hid (rk zs (way.getD kk 0) = none → ∀ j, j < kk + 1 → j < way.length → rk zs (way.getD j 0) = none) := Lib.hid (fun h j hj hl => by
        by_cases e : j = kk
        · subst e; exact h
        · exact HJ.out j (by omega) hl)
      generalize way.getD kk 0 = x at q0 HM HY HN hfit
      have HH := Lib.hid (has18 A2 n2 k2 zs x wr (H2.out.below B1.out) (by omega))
      have HPl := Lib.hid (place26 A2 n2 k2 zs x wr (H2.out.below B1.out) hn2)
      cases hr : rk zs x with
      | none =>
        have HN2 := Lib.hid (HN.out hr)
        rw [hr] at HM
        have hd : decide (x ∈ zs) = false := HM.out.symm
        rw [hd] at HH
        clear hr HY HN HPl
        go_wp2_with (go_at_call 18; (with_reducible refine HH.out.mono ?_); rintro e w2 ⟨rfl, rfl⟩)
        go_roundg (way.length - (kk + 1))
        case measure => omega
        case rel => exact ⟨kk + 1, by omega, by omega, by go_num, HN2, rfl⟩
      | some y =>
        have HY2 := Lib.hid (HY.out y hr)
        rw [hr] at HM HPl
        have hd : decide (x ∈ zs) = true := HM.out.symm
        rw [hd] at HH
        clear hr HY HN
        go_wp2_with (first
          | (go_at_call 18; (with_reducible refine HH.out.mono ?_); rintro e w2 ⟨rfl, rfl⟩)
          | (go_at_call 26; (with_reducible refine HPl.out.mono ?_); rintro e w2 ⟨rfl, rfl⟩))
        go_ret
        exact ⟨ret_i64 (by rw [HY2.out]; first | done | rfl), B1.out⟩
    · have hltz : ¬ (kk : Int) < (way.length : Int) := by omega
      have HC := Lib.hid (show clo way (rk zs) n2 = n2 from clo_no (fun x hx => by
        have := take_at (way := way) (k := kk) (P := fun z => rk zs z = none) HJ.out x (by rw [List.take_of_length_le (by omega)]; exact hx)
        exact this))
      go_wp2
      go_ret
      exact ⟨ret_i64 HC.out.symm, B1.out⟩
end Go.Proofs.Ytoljlpddcpdoiaa
