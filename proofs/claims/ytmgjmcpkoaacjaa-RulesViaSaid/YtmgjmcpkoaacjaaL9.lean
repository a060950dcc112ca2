/- The walks of RulesVia. -/
import Derived.Test.YtmgjmcpkoaacjaaOp2
namespace Go.Proofs.Ytmgjmcpkoaacjaa
open Go.RowKit
set_option linter.unusedVariables false

theorem first_of (p : Nat → Prop) (n : Nat) (h : ∃ j, j < n ∧ p j) : ∃ k, k < n ∧ p k ∧ ∀ j, j < k → ¬ p j := by
  induction n with
  | zero => obtain ⟨j, hj, _⟩ := h; omega
  | succ n ih =>
    by_cases h' : ∃ j, j < n ∧ p j
    · obtain ⟨k, hk, hp, hl⟩ := ih h'
      exact ⟨k, by omega, hp, hl⟩
    · obtain ⟨j, hj, hp⟩ := h
      have : j = n := by
        rcases Nat.lt_or_ge j n with h1 | h1
        · exact absurd ⟨j, h1, hp⟩ h'
        · omega
      subst this
      exact ⟨j, hj, hp, fun i hi hpi => h' ⟨i, hi, hpi⟩⟩
theorem first_or (p : Nat → Prop) (n : Nat) : (∃ k, k < n ∧ p k ∧ ∀ j, j < k → ¬ p j) ∨ ∀ j, j < n → ¬ p j := by
  by_cases h : ∃ j, j < n ∧ p j
  · exact .inl (first_of p n h)
  · exact .inr fun j hj hp => h ⟨j, hj, hp⟩
theorem creator_ex (E : Nat → Ev) (n : Nat) : ∃ s, CreatorPost E n s := by
  rcases first_or (fun j => (E j).kd = 1) n with ⟨k, hk, h1, hl⟩ | h
  · exact ⟨_, .inl ⟨k, .inl ⟨k, hk, h1, hl, rfl⟩, hk, rfl⟩⟩
  · exact ⟨_, .inr ⟨.inr ⟨h, rfl⟩, rfl⟩⟩
theorem levels_ex (E : Nat → Ev) (LV : Nat → Lvl) (n : Nat) (s : ByteArray) : ∃ L, LevelsPost E LV n s L := by
  rcases first_or (fun j => (E j).kd = 3) n with ⟨k, hk, h1, hl⟩ | h
  · exact ⟨_, .inl ⟨k, .inl ⟨k, hk, h1, hl, rfl⟩, hk, rfl⟩⟩
  · exact ⟨_, .inr ⟨.inr ⟨h, rfl⟩, rfl⟩⟩
theorem member_ex (E : Nat → Ev) (u : ByteArray) (n : Nat) : ∃ m, MemPost E u n m := by
  rcases first_or (fun j => gives (E j) u = true) n with ⟨k, hk, h1, hl⟩ | h
  · exact ⟨_, .inl ⟨k, hk, h1, fun j hj => by simpa using hl j hj, rfl⟩⟩
  · exact ⟨_, .inr ⟨fun j hj => by simpa using h j hj, rfl⟩⟩
theorem user_ex (U : Nat → ByteArray × Int) (u : ByteArray) (n : Nat) (d : Int) : ∃ r, UserPost U u n d r := by
  rcases first_or (fun j => isU U u j = true) n with ⟨k, hk, h1, hl⟩ | h
  · exact ⟨_, .inl ⟨k, hk, h1, fun j hj => by simpa using hl j hj, rfl⟩⟩
  · exact ⟨_, .inr ⟨fun j hj => by simpa using h j hj, rfl⟩⟩

theorem via_many (A : Option Addr) (n c : Nat) (u : ByteArray) (w : World) (hn : 40 < n) :
    Calls Try.prog 5 #[.slice A n c, .string u] w fun e w' => e = .returned (.bool true) ∧ Below w.heap.size w w' := by
  have d1 : decide ((40 : Int) < (n : Int)) = true := by simp; omega
  clear hn
  go_enter Try.func5, Try.ntmps5
  go_wp2_with (go_at_call 8; refine (lives_any _).mono ?_; rintro e w1 ⟨rfl, hb1⟩)
  go_ret
  exact ⟨rfl, hb1⟩
theorem lv_cells {w : World} {b off n : Nat} {E : Nat → Ev} {LV : Nat → Lvl} (h : Evs w b off n E) (hV : Leveled w n E LV) {j : Nat} (hj : j < n) :
    ∃ uA uC kA kC, w.cell? ⟨b, off + j * 29 + 10 + 7, none⟩ = some (.slice uA (LV j).nU uC) ∧ w.cell? ⟨b, off + j * 29 + 10 + 7 + 1, none⟩ = some (.slice kA (LV j).nK kC) := by
  obtain ⟨uA, uC, kA, kC, e, _, _⟩ := hV j hj
  have hr := h.lvr hj
  rw [e] at hr
  exact ⟨uA, uC, kA, kC, hr 0 _ rfl, hr 1 _ rfl⟩

set_option maxHeartbeats 2000000 in
theorem via_long (A : Option Addr) (n c : Nat) (E : Nat → Ev) (LV : Nat → Lvl) (u : ByteArray) (w : World) (hn : n ≤ 40) (hE : EvsA w A n E) (hV : Leveled w n E LV) (hl : ∃ j, j < n ∧ (110 < (LV j).nU ∨ 20 < (LV j).nK)) :
    Calls Try.prog 5 #[.slice A n c, .string u] w fun e w' => e = .returned (.bool true) ∧ Below w.heap.size w w' := by
  have d1 : decide ((40 : Int) < (n : Int)) = false := by simp; omega
  have HE := Lib.hid hE
  have HV := Lib.hid hV
  have HL := Lib.hid hl
  clear hE hV hl
  go_enter Try.func5, Try.ntmps5
  go_wp2
  go_loopg [5] n (fun gg s5 wr => ∃ kk : Nat, kk ≤ n ∧ n - kk ≤ gg ∧ s5 = .int .i64 kk ∧ w = wr ∧ Hid (∀ j, j < kk → ¬ (110 < (LV j).nU ∨ 20 < (LV j).nK)))
  case atStart => exact ⟨0, Nat.zero_le _, by omega, rfl, rfl, Lib.hid (fun j hj => absurd hj (Nat.not_lt_zero _))⟩
  case round =>
    obtain ⟨kk, hkk, hg, rfl, rfl, S⟩ := hrel
    by_cases hlt : kk < n
    · have hltz : (kk : Int) < (n : Int) := by omega
      obtain ⟨b, off, rfl, hev⟩ := HE.out.at_ hlt
      obtain ⟨uA, uC, kA, kC, cu, ck⟩ := lv_cells hev HV.out hlt
      clear hev
      have HQ := Lib.hid (rfl : (LV kk) = LV kk)
      generalize hla : (LV kk).nU = lA at cu
      generalize hlb : (LV kk).nK = lB at ck
      have Hla := Lib.hid hla
      have Hlb := Lib.hid hlb
      clear hla hlb HQ
      by_cases q : 110 < lA
      · have d2 : decide ((110 : Int) < (lA : Int)) = true := by simp; omega
        clear q
        go_wp2_with (go_at_call 8; refine (lives_any _).mono ?_; rintro e w1 ⟨rfl, hb1⟩)
        go_ret
        exact ⟨rfl, hb1⟩
      · have d2 : decide ((110 : Int) < (lA : Int)) = false := by simp; omega
        by_cases q3 : 20 < lB
        · have d3 : decide ((20 : Int) < (lB : Int)) = true := by simp; omega
          clear q q3
          go_wp2_with (go_at_call 8; refine (lives_any _).mono ?_; rintro e w1 ⟨rfl, hb1⟩)
          go_ret
          exact ⟨rfl, hb1⟩
        · have d3 : decide ((20 : Int) < (lB : Int)) = false := by simp; omega
          have HF := Lib.hid (show ¬ (110 < (LV kk).nU ∨ 20 < (LV kk).nK) by rw [Hla.out, Hlb.out]; omega)
          clear q q3
          go_wp2
          go_roundg (n - (kk + 1))
          case measure => omega
          case rel =>
            refine ⟨kk + 1, by omega, by omega, by go_num, rfl, Lib.hid (fun j hj => ?_)⟩
            by_cases e : j = kk
            · subst e; exact HF.out
            · exact S.out j (by omega)
    · exfalso
      obtain ⟨j, hj, h⟩ := HL.out
      exact S.out j (by omega) h

set_option maxHeartbeats 2000000 in
theorem via_short (A : Option Addr) (n c : Nat) (E : Nat → Ev) (LV : Nat → Lvl) (u : ByteArray) (w : World) (hn : n ≤ 40) (hE : EvsA w A n E) (hV : Leveled w n E LV) (hl : ∀ j, j < n → ¬ (110 < (LV j).nU ∨ 20 < (LV j).nK)) :
    Calls Try.prog 5 #[.slice A n c, .string u] w fun e w' => e = .returned (.bool true) ∧ Below w.heap.size w w' := by
  have d1 : decide ((40 : Int) < (n : Int)) = false := by simp; omega
  have hB : Bounded n LV := fun j hj => by have := hl j hj; omega
  obtain ⟨s, hs⟩ := creator_ex E n
  obtain ⟨L, hL⟩ := levels_ex E LV n s
  obtain ⟨m, hm⟩ := member_ex E u n
  obtain ⟨r, hr⟩ := user_ex L.U u L.nU L.d
  have HX := Lib.hid (fun (w' : World) (hb : Below w.heap.size w w') => via16 c u m r (by omega) (hE.below hb) (hV.below hb) hB hs hL hm hr)
  have HY := Lib.hid (fun (w' : World) (hb : Below w.heap.size w w') => via17 c u m r (by omega) (hE.below hb) (hV.below hb) hB hs hL hm hr)
  have HE := Lib.hid hE
  have HV := Lib.hid hV
  have HL := Lib.hid hl
  clear hE hV hl hB hs hL hm hr
  generalize via m r L.x5 = vv at HX HY
  have q2 : (vv == vv) = true := by simp
  go_enter Try.func5, Try.ntmps5
  go_wp2
  go_loopg [5] n (fun gg s5 wr => ∃ kk : Nat, kk ≤ n ∧ n - kk ≤ gg ∧ s5 = .int .i64 kk ∧ w = wr)
  case atStart => exact ⟨0, Nat.zero_le _, by omega, rfl, rfl⟩
  case round =>
    obtain ⟨kk, hkk, hg, rfl, rfl⟩ := hrel
    by_cases hlt : kk < n
    · have hltz : (kk : Int) < (n : Int) := by omega
      obtain ⟨b, off, rfl, hev⟩ := HE.out.at_ hlt
      obtain ⟨uA, uC, kA, kC, cu, ck⟩ := lv_cells hev HV.out hlt
      have hq := HL.out kk hlt
      clear hev
      generalize (LV kk).nU = lA at cu hq
      generalize (LV kk).nK = lB at ck hq
      have d2 : decide ((110 : Int) < (lA : Int)) = false := by simp; omega
      have d3 : decide ((20 : Int) < (lB : Int)) = false := by simp; omega
      clear hq
      go_wp2
      go_roundg (n - (kk + 1))
      case measure => omega
      case rel => exact ⟨kk + 1, by omega, by omega, by go_num, rfl⟩
    · have hltz : ¬ (kk : Int) < (n : Int) := by omega
      have : kk = n := by omega
      subst this
      go_wp2_with (first
        | (go_at_call 16; refine (HX.out _ (Below.refl _ _)).mono ?_; rintro e w1 ⟨rfl, hb1⟩; have B1 := Lib.hid hb1; clear hb1)
        | (go_at_call 17; refine (HY.out _ B1.out).mono ?_; rintro e w2 ⟨rfl, hb2⟩; have B2 := Lib.hid (B1.out.trans (hb2.mono B1.out.size)); clear hb2)
        | (go_at_call 8; refine (lives_any _).mono ?_; rintro e w3 ⟨rfl, hb3⟩; have B3 := Lib.hid (B2.out.trans (hb3.mono B2.out.size)); clear hb3))
      go_ret
      exact ⟨rfl, B3.out⟩
end Go.Proofs.Ytmgjmcpkoaacjaa
