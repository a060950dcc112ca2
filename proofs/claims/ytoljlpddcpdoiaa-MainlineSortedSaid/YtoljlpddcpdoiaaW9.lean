/- The mainline: Closest of the program; the references' place, Place, Has, Same (at equal lists). Bound: at most 900000 events and numbers. -/
import Derived.Test.YtoljlpddcpdoiaaW8
import Derived.Deep.QuietTactic
import Derived.WalkSmall
namespace Go.Proofs.Ytoljlpddcpdoiaa
open Go Go.RowKit Go.Maps
set_option linter.unusedVariables false
set_option linter.unusedSimpArgs false

set_option maxHeartbeats 4000000 in
theorem closest13 (A : Option Addr) (n c : Nat) (E : Nat → Me) (A2 : Option Addr) (n2 k2 : Nat) (zs : List Int) (id : Int) (w : World) (h : Evm w A n E) (hn : n ≤ 900000) (h2 : Its w A2 n2 k2 zs) (hn2 : n2 ≤ 900000) (hw : i64B id) : Calls Try.prog 13 #[.slice A n c, .slice A2 n2 k2, .int .i64 id] w fun e w' => e = .returned (.int .i64 (clo (wayL E n id) (rk zs) n2)) ∧ Below w.heap.size w w' := by
  have HX := Lib.hid (index22 A n c E w h hn)
  have HR := Lib.hid (fun v (hb : Below w.heap.size w v) => ranks25 A2 n2 k2 zs v (h2.below hb) hn2)
  have HC := Lib.hid (fun Mp m Mr mr v (hb : Below w.heap.size w v) (x1 : MapI v Mp m (plc E n)) (x2 : MapI v Mr mr (rk zs)) => closest24 A n c E Mp m Mr mr (rk zs) n2 id v (h.below hb) hn hw x1 x2)
  clear h h2
  go_enter Try.func13, Try.ntmps13
  go_wp2_with (first
    | (go_at_call 22; (with_reducible refine HX.out.mono ?_); rintro e w1 ⟨rfl, ⟨m, hm, hmi⟩, hb⟩; have M1 := Lib.hid hmi; have B1 := Lib.hid hb; clear hmi hb hm)
    | (go_at_call 25; (with_reducible refine (HR.out _ B1.out).mono ?_); rintro e w2 ⟨rfl, ⟨mr, hm, hmi⟩, hb⟩; have M2 := Lib.hid (M1.out.below hb); have R2 := Lib.hid hmi; have B2 := Lib.hid (B1.out.trans (hb.mono B1.out.size)); clear hmi hb hm)
    | (go_at_call 24; (with_reducible refine (HC.out _ m _ mr _ B2.out M2.out R2.out).mono ?_); rintro e w3 ⟨rfl, hb⟩; have B3 := Lib.hid (B2.out.trans (hb.mono B2.out.size)); clear hb))
  go_ret
  exact ⟨rfl, B3.out⟩
theorem plc_first {E : Nat → Me} {n k : Nat} {x : Int} (hk : k < n) (h : (E k).id = x) (hn : ∀ j, j < k → (E j).id ≠ x) : plc E n x = some (k : Int) := by
  unfold plc
  rw [List.find?_range_eq_some.2 ⟨by simpa using h, by simpa using hk, fun j hj => by simpa using hn j hj⟩]
  rfl
theorem plc_none {E : Nat → Me} {n : Nat} {x : Int} (hn : ∀ j, j < n → (E j).id ≠ x) : plc E n x = none := by
  unfold plc
  rw [List.find?_eq_none.2 (fun j hj => by simpa using hn j (by simpa using hj))]
  rfl
set_option maxHeartbeats 4000000 in
theorem place33 (A : Option Addr) (n c : Nat) (E : Nat → Me) (id : Int) (w : World) (h : Evm w A n E) (hn : n ≤ 900000) : Calls Try.prog 33 #[.slice A n c, .int .i64 id] w fun e w' => e = .returned (.int .i64 ((plc E n id).getD (-1))) ∧ w' = w := by
  have H := Lib.hid h
  clear h
  go_enter Try.func33, Try.ntmps33
  go_wp2
  go_loopg [5] n (fun gg s5 wr => ∃ kk : Nat, kk ≤ n ∧ n - kk ≤ gg ∧ s5 = .int .i64 kk ∧ Hid (∀ j, j < kk → (E j).id ≠ id) ∧ wr = w)
  case atStart => exact ⟨0, Nat.zero_le _, by omega, rfl, Lib.hid (fun j hj => absurd hj (Nat.not_lt_zero _)), rfl⟩
  case round =>
    obtain ⟨kk, hkk, hg, rfl, HJ, rfl⟩ := hrel
    by_cases hlt : kk < n
    · have hltz : (kk : Int) < (n : Int) := by omega
      have hk0 : (0 : Int) ≤ (kk : Int) := by omega
      obtain ⟨b, off, rfl, hbl, k0, _⟩ := H.out.get hlt
      have HF := Lib.hid (fun h => plc_first (E := E) (x := id) hlt h HJ.out)
      have HN : Hid ((E kk).id ≠ id → ∀ j, j < kk + 1 → (E j).id ≠ id) := Lib.hid (fun h j hj => by
        by_cases e : j = kk
        · subst e; exact h
        · exact HJ.out j (by omega))
      generalize (E kk).id = i at k0 HF HN
      by_cases hi : i = id
      · subst hi
        have HF2 := Lib.hid (HF.out rfl)
        clear HF HN
        go_wp2
        go_ret
        exact ⟨ret_i64 (by rw [HF2.out]; rfl), rfl⟩
      · have hib : (i == id) = false := by simpa using hi
        have HN2 := Lib.hid (HN.out hi)
        clear HF HN hi
        go_wp2
        go_roundg (n - (kk + 1))
        case measure => omega
        case rel => exact ⟨kk + 1, by omega, by omega, by go_num, HN2, rfl⟩
    · have hltz : ¬ (kk : Int) < (n : Int) := by omega
      obtain rfl : kk = n := by omega
      have HF2 := Lib.hid (plc_none HJ.out)
      go_wp2
      go_ret
      exact ⟨ret_i64 (by rw [HF2.out]; rfl), rfl⟩
set_option maxHeartbeats 4000000 in
theorem place26 (A : Option Addr) (n c : Nat) (zs : List Int) (x : Int) (w : World) (h : Its w A n c zs) (hn : n ≤ 900000) : Calls Try.prog 26 #[.slice A n c, .int .i64 x] w fun e w' => e = .returned (.int .i64 ((rk zs x).getD n)) ∧ w' = w := by
  have H := Lib.hid h
  have HRk := Lib.hid (show plc (meL zs) n x = rk zs x by unfold rk; rw [h.len])
  clear h
  go_enter Try.func26, Try.ntmps26
  go_wp2
  go_loopg [5] n (fun gg s5 wr => ∃ kk : Nat, kk ≤ n ∧ n - kk ≤ gg ∧ s5 = .int .i64 kk ∧ Hid (∀ j, j < kk → (meL zs j).id ≠ x) ∧ wr = w)
  case atStart => exact ⟨0, Nat.zero_le _, by omega, rfl, Lib.hid (fun j hj => absurd hj (Nat.not_lt_zero _)), rfl⟩
  case round =>
    obtain ⟨kk, hkk, hg, rfl, HJ, rfl⟩ := hrel
    by_cases hlt : kk < n
    · have hltz : (kk : Int) < (n : Int) := by omega
      have hk0 : (0 : Int) ≤ (kk : Int) := by omega
      obtain ⟨b, off, rfl, hbl, k0, _⟩ := H.out.at_ hlt
      have HF := Lib.hid (fun h => plc_first (E := meL zs) (x := x) hlt h HJ.out)
      have HN : Hid ((meL zs kk).id ≠ x → ∀ j, j < kk + 1 → (meL zs j).id ≠ x) := Lib.hid (fun h j hj => by
        by_cases e : j = kk
        · subst e; exact h
        · exact HJ.out j (by omega))
      rw [show (meL zs kk).id = zs.getD kk 0 from rfl] at HF HN
      generalize zs.getD kk 0 = i at k0 HF HN
      by_cases hi : i = x
      · subst hi
        have HF2 := Lib.hid (HRk.out.symm.trans (HF.out rfl))
        clear HF HN
        go_wp2
        go_ret
        exact ⟨ret_i64 (by rw [HF2.out]; rfl), rfl⟩
      · have hib : (i == x) = false := by simpa using hi
        have HN2 := Lib.hid (HN.out hi)
        clear HF HN hi
        go_wp2
        go_roundg (n - (kk + 1))
        case measure => omega
        case rel => exact ⟨kk + 1, by omega, by omega, by go_num, HN2, rfl⟩
    · have hltz : ¬ (kk : Int) < (n : Int) := by omega
      obtain rfl : kk = n := by omega
      have HF2 := Lib.hid (HRk.out.symm.trans (plc_none HJ.out))
      go_wp2
      go_ret
      exact ⟨ret_i64 (by rw [HF2.out]; rfl), rfl⟩
theorem has_yes {zs : List Int} {k : Nat} {x : Int} (hk : k < zs.length) (h : zs.getD k 0 = x) : decide (x ∈ zs) = true := by
  rw [List.getD_eq_getElem?_getD, List.getElem?_eq_getElem hk] at h
  simp only [Option.getD_some] at h
  rw [decide_eq_true_iff, ← h]
  exact List.getElem_mem _
theorem has_no {zs : List Int} {x : Int} (h : ∀ j, j < zs.length → zs.getD j 0 ≠ x) : decide (x ∈ zs) = false := by
  rw [decide_eq_false_iff_not]
  intro hm
  obtain ⟨j, hj, e⟩ := List.getElem_of_mem hm
  exact h j hj (by rw [List.getD_eq_getElem?_getD, List.getElem?_eq_getElem hj]; exact e)
theorem ret_b {a b : Bool} (h : a = b) : Ending.returned (.bool a) = .returned (.bool b) := by rw [h]
set_option maxHeartbeats 4000000 in
theorem has18 (A : Option Addr) (n c : Nat) (zs : List Int) (x : Int) (w : World) (h : Its w A n c zs) (hn : n ≤ 1000000) : Calls Try.prog 18 #[.slice A n c, .int .i64 x] w fun e w' => e = .returned (.bool (decide (x ∈ zs))) ∧ w' = w := by
  have H := Lib.hid h
  have HL := Lib.hid h.len
  clear h
  go_enter Try.func18, Try.ntmps18
  go_wp2
  go_loopg [5] n (fun gg s5 wr => ∃ kk : Nat, kk ≤ n ∧ n - kk ≤ gg ∧ s5 = .int .i64 kk ∧ Hid (∀ j, j < kk → zs.getD j 0 ≠ x) ∧ wr = w)
  case atStart => exact ⟨0, Nat.zero_le _, by omega, rfl, Lib.hid (fun j hj => absurd hj (Nat.not_lt_zero _)), rfl⟩
  case round =>
    obtain ⟨kk, hkk, hg, rfl, HJ, rfl⟩ := hrel
    by_cases hlt : kk < n
    · have hltz : (kk : Int) < (n : Int) := by omega
      have hk0 : (0 : Int) ≤ (kk : Int) := by omega
      obtain ⟨b, off, rfl, hbl, k0, _⟩ := H.out.at_ hlt
      have HF := Lib.hid (fun h => has_yes (zs := zs) (k := kk) (x := x) (by rw [HL.out]; exact hlt) h)
      have HN : Hid (zs.getD kk 0 ≠ x → ∀ j, j < kk + 1 → zs.getD j 0 ≠ x) := Lib.hid (fun h j hj => by
        by_cases e : j = kk
        · subst e; exact h
        · exact HJ.out j (by omega))
      generalize zs.getD kk 0 = i at k0 HF HN
      by_cases hi : i = x
      · subst hi
        have HF2 := Lib.hid (HF.out rfl)
        clear HF HN
        go_wp2
        go_ret
        exact ⟨ret_b HF2.out.symm, rfl⟩
      · have hib : (i == x) = false := by simpa using hi
        have HN2 := Lib.hid (HN.out hi)
        clear HF HN hi
        go_wp2
        go_roundg (n - (kk + 1))
        case measure => omega
        case rel => exact ⟨kk + 1, by omega, by omega, by go_num, HN2, rfl⟩
    · have hltz : ¬ (kk : Int) < (n : Int) := by omega
      obtain rfl : kk = n := by omega
      have HF2 := Lib.hid (has_no (zs := zs) (x := x) (fun j hj => HJ.out j (by rw [HL.out] at hj; exact hj)))
      go_wp2
      go_ret
      exact ⟨ret_b HF2.out.symm, rfl⟩
set_option maxHeartbeats 4000000 in
theorem same10 (A1 A2 : Option Addr) (n c1 c2 : Nat) (zs : List Int) (w : World) (h1 : Its w A1 n c1 zs) (h2 : Its w A2 n c2 zs) (hn : n ≤ 1000000) : Calls Try.prog 10 #[.slice A1 n c1, .slice A2 n c2] w fun e w' => e = .returned (.bool true) ∧ Below w.heap.size w w' := by
  have H1 := Lib.hid h1
  have H2 := Lib.hid h2
  clear h1 h2
  go_enter Try.func10, Try.ntmps10
  go_wp2
  go_loopg [5] n (fun gg s5 wr => ∃ kk : Nat, kk ≤ n ∧ n - kk ≤ gg ∧ s5 = .int .i64 kk ∧ Hid (Below w.heap.size w wr))
  case atStart => exact ⟨0, Nat.zero_le _, by omega, rfl, Lib.hid (Below.refl _ _)⟩
  case round =>
    obtain ⟨kk, hkk, hg, rfl, BW⟩ := hrel
    by_cases hlt : kk < n
    · have hltz : (kk : Int) < (n : Int) := by omega
      have hk0 : (0 : Int) ≤ (kk : Int) := by omega
      obtain ⟨b, off, rfl, hbl, k0, _⟩ := (H1.out.below BW.out).at_ hlt
      obtain ⟨b2, off2, rfl, hbl2, q0, _⟩ := (H2.out.below BW.out).at_ hlt
      generalize zs.getD kk 0 = p at k0 q0
      go_wp2
      all_goals go_quiet (fail)
      all_goals go_wp2
      all_goals go_roundg (n - (kk + 1))
      all_goals first
        | omega
        | exact ⟨kk + 1, by omega, by omega, by go_num, Lib.hid (below_drewN BW.out _)⟩
    · have hltz : ¬ (kk : Int) < (n : Int) := by omega
      go_wp2
      go_ret
      exact ⟨rfl, BW.out⟩
end Go.Proofs.Ytoljlpddcpdoiaa
