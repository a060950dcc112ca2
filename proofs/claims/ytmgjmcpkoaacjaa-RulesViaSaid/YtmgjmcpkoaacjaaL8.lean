/- Who may invite: members.Of and Via, of the program and of the reference, on any list of events. -/
import Derived.Test.YtmgjmcpkoaacjaaL7
namespace Go.Proofs.Ytmgjmcpkoaacjaa
open Go.RowKit
set_option linter.unusedVariables false

theorem member_zero (A : Option Addr) (c : Nat) (u : ByteArray) (w : World) : Calls Try.prog 20 #[.slice A 0 c, .string u] w fun e w' => e = .returned (.int .i64 0) ∧ w = w' := by
  go_enter Try.func20, Try.ntmps20
  go_wp2
  go_loopg [5, 8] 0 (fun gg _ s8 wr => s8 = .int .i64 (0 : Nat) ∧ w = wr)
  case atStart => exact ⟨rfl, rfl⟩
  case round =>
    obtain ⟨rfl, rfl⟩ := hrel
    go_wp2
    go_ret
    exact ⟨rfl, rfl⟩
theorem member_all {w : World} {A : Option Addr} {n : Nat} {E : Nat → Ev} (c : Nat) (u : ByteArray) (m : Int) (hE : EvsA w A n E) (hm : MemPost E u n m) : Calls Try.prog 20 #[.slice A n c, .string u] w fun e w' => e = .returned (.int .i64 m) ∧ w = w' := by
  rcases hE with rfl | ⟨b, off, rfl, hE⟩
  · rcases hm with ⟨k, hk, _⟩ | ⟨_, rfl⟩
    · omega
    · exact member_zero A c u w
  · exact member_is b off n c E u m w hE hm
set_option maxHeartbeats 1000000 in
theorem rmember_all {w : World} {A : Option Addr} {n : Nat} {E : Nat → Ev} (c : Nat) (u : ByteArray) (m : Int) (hbig : n ≤ 9223372036854775807) (hE : EvsA w A n E) (hm : MemPost E u n m) : Calls Try.prog 23 #[.slice A n c, .string u] w fun e w' => e = .returned (.int .i64 m) ∧ w = w' := by
  have HE := Lib.hid hE
  have HM := Lib.hid hm
  clear hE hm
  go_enter Try.func23, Try.ntmps23
  go_wp2
  go_loopg [5] n (fun gg s5 wr => ∃ kk : Nat, kk ≤ n ∧ n - kk ≤ gg ∧ s5 = .int .i64 kk ∧ w = wr ∧ Hid (∀ j, j < kk → gives (E j) u = false))
  case atStart => exact ⟨0, Nat.zero_le _, by omega, rfl, rfl, Lib.hid (fun j hj => absurd hj (Nat.not_lt_zero _))⟩
  case round =>
    obtain ⟨kk, hkk, hg, rfl, rfl, A1⟩ := hrel
    by_cases hlt : kk < n
    · have hltz : (kk : Int) < (n : Int) := by omega
      obtain ⟨b, off, rfl, hev⟩ := HE.out.at_ hlt
      have ck := hev.kd hlt
      have cy := hev.key hlt
      have cn := hev.num hlt
      have HG := Lib.hid (show gives (E kk) u = ((E kk).kd == 2 && ((E kk).key.toList == u.toList)) from rfl)
      generalize hkd : (E kk).kd = kd at ck
      generalize hky : (E kk).key = ky at cy
      generalize hnn : (E kk).n = nn at cn
      have Hkd := Lib.hid hkd; have Hky := Lib.hid hky; have Hnn := Lib.hid hnn
      clear hkd hky hnn hev
      cases q1 : (kd == 2) with
      | false =>
        have HF := Lib.hid (show gives (E kk) u = false by rw [HG.out, Hkd.out, q1]; rfl)
        go_wp2
        go_roundg (n - (kk + 1))
        case measure => omega
        case rel =>
          refine ⟨kk + 1, by omega, by omega, by go_num, rfl, Lib.hid (fun j hj => ?_)⟩
          by_cases e : j = kk
          · subst e; exact HF.out
          · exact A1.out j (by omega)
      | true =>
        cases q2 : (ky.toList == u.toList) with
        | false =>
          have HF := Lib.hid (show gives (E kk) u = false by rw [HG.out, Hkd.out, Hky.out, q1, q2]; rfl)
          go_wp2
          go_roundg (n - (kk + 1))
          case measure => omega
          case rel =>
            refine ⟨kk + 1, by omega, by omega, by go_num, rfl, Lib.hid (fun j hj => ?_)⟩
            by_cases e : j = kk
            · subst e; exact HF.out
            · exact A1.out j (by omega)
        | true =>
          have HF := Lib.hid (show gives (E kk) u = true by rw [HG.out, Hkd.out, Hky.out, q1, q2]; rfl)
          have HX := Lib.hid (MemPost.one (.inl ⟨kk, hlt, HF.out, A1.out, Hnn.out.symm⟩) HM.out)
          go_wp2
          go_ret
          exact ⟨by rw [HX.out]; rfl, rfl⟩
    · have hltz : ¬ (kk : Int) < (n : Int) := by omega
      have : kk = n := by omega
      subst this
      have HX := Lib.hid (MemPost.one (.inr ⟨A1.out, rfl⟩) HM.out)
      go_wp2
      go_ret
      exact ⟨by rw [← HX.out]; rfl, rfl⟩

/-- What Via answers. -/
def via (m r i : Int) : Int := if m = 3 ∧ i ≤ r then 0 else 21

set_option maxHeartbeats 2000000 in
theorem via16_no {w : World} {A : Option Addr} {n : Nat} {E : Nat → Ev} {LV : Nat → Lvl} {s : ByteArray} {L : Lvl} (c : Nat) (u : ByteArray) (m r : Int) (hbig : n ≤ 9223372036854775807) (hE : EvsA w A n E) (hV : Leveled w n E LV) (hB : Bounded n LV) (hs : CreatorPost E n s) (hL : LevelsPost E LV n s L) (hm : MemPost E u n m) (hm3 : m ≠ 3) :
    Calls Try.prog 16 #[.slice A n c, .string u] w fun e w' => e = .returned (.int .i64 21) ∧ Below w.heap.size w w' := by
  have HO := Lib.hid (of19 c hE hV hB hs hL)
  have HE := Lib.hid hE
  have HM := Lib.hid hm
  have qm : (m != 3) = true := by simpa using hm3
  clear hE hV hB hs hL hm hm3
  go_enter Try.func16, Try.ntmps16
  go_upto_region 2 with (go_at_call 19; refine HO.out.mono ?_; rintro e w1 ⟨cs, rfl, ⟨uA, uC, kA, kC, rfl, hu1, hk1⟩, hb1⟩; have U1 := Lib.hid (hu1.below (Below.alloc (Below.refl w1.heap.size w1) (Nat.le_refl _) (.cells (lvc uA L.nU uC kA L.nK kC L.d L.x3 L.x4 L.x5 L.x6 L.x7 L.x8).toArray 28))); have HB := Lib.hid (Below.alloc hb1 hb1.size (.cells (lvc uA L.nU uC kA L.nK kC L.d L.x3 L.x4 L.x5 L.x6 L.x7 L.x8).toArray 28)); have T1 := Lib.hid (blk_new w1 (lvc uA L.nU uC kA L.nK kC L.d L.x3 L.x4 L.x5 L.x6 L.x7 L.x8) 28); clear hu1 hk1 hb1)
  generalize hw2 : (w1.alloc _) = w2 at U1 HB T1 ⊢
  clear hw2
  go_quiet ((go_at_call 20; refine (member_all c u m (HE.out.below (below_drewN HB.out _)) HM.out).mono ?_; rintro e w' ⟨rfl, rfl⟩; exact ⟨rfl, _, rfl⟩))
  all_goals go_wp2
  all_goals go_ret
  all_goals exact ⟨rfl, below_drewN HB.out _⟩

set_option maxHeartbeats 4000000 in
theorem via16_yes {w : World} {A : Option Addr} {n : Nat} {E : Nat → Ev} {LV : Nat → Lvl} {s : ByteArray} {L : Lvl} (c : Nat) (u : ByteArray) (m r : Int) (hbig : n ≤ 9223372036854775807) (hE : EvsA w A n E) (hV : Leveled w n E LV) (hB : Bounded n LV) (hs : CreatorPost E n s) (hL : LevelsPost E LV n s L) (hm : MemPost E u n m) (hm3 : m = 3) (hr : UserPost L.U u L.nU L.d r) :
    Calls Try.prog 16 #[.slice A n c, .string u] w fun e w' => e = .returned (.int .i64 (via 3 r L.x5)) ∧ Below w.heap.size w w' := by
  have HO := Lib.hid (of19 c hE hV hB hs hL)
  have HE := Lib.hid hE
  have HM := Lib.hid hm
  have HR := Lib.hid hr
  have HVia := Lib.hid (show via 3 r L.x5 = if L.x5 ≤ r then 0 else 21 by unfold via; simp)
  subst hm3
  clear hE hV hB hs hL hm hr
  by_cases hq : L.x5 ≤ r
  all_goals
    first | (rw [if_pos hq] at HVia) | (rw [if_neg hq] at HVia)
    rw [HVia.out]
    clear HVia
    go_enter Try.func16, Try.ntmps16
    go_upto_region 2 with (go_at_call 19; refine HO.out.mono ?_; rintro e w1 ⟨cs, rfl, ⟨uA, uC, kA, kC, rfl, hu1, hk1⟩, hb1⟩; have U1 := Lib.hid (hu1.below (Below.alloc (Below.refl w1.heap.size w1) (Nat.le_refl _) (.cells (lvc uA L.nU uC kA L.nK kC L.d L.x3 L.x4 L.x5 L.x6 L.x7 L.x8).toArray 28))); have HB := Lib.hid (Below.alloc hb1 hb1.size (.cells (lvc uA L.nU uC kA L.nK kC L.d L.x3 L.x4 L.x5 L.x6 L.x7 L.x8).toArray 28)); have T1 := Lib.hid (blk_new w1 (lvc uA L.nU uC kA L.nK kC L.d L.x3 L.x4 L.x5 L.x6 L.x7 L.x8) 28); clear hu1 hk1 hb1)
    generalize hw2 : (w1.alloc _) = w2 at U1 HB T1 ⊢
    clear hw2
    have k0 := T1.out.cell (i := 0) rfl
    have k1 := T1.out.cell (i := 1) rfl
    have k2 := T1.out.cell (i := 2) rfl
    have k3 := T1.out.cell (i := 3) rfl
    have k4 := T1.out.cell (i := 4) rfl
    have k5 := T1.out.cell (i := 5) rfl
    have k6 := T1.out.cell (i := 6) rfl
    have k7 := T1.out.cell (i := 7) rfl
    have k8 := T1.out.cell (i := 8) rfl
    generalize w1.heap.size = t at T1 k0 k1 k2 k3 k4 k5 k6 k7 k8 ⊢
    obtain ⟨nU, U, nK, K, d, x3, x4, x5, x6, x7, x8⟩ := L
    dsimp only at *
    first | have d1 : decide (x5 ≤ r) = true := by simpa using hq | have d1 : decide (x5 ≤ r) = false := by simpa using hq
    first | have d2 : decide (r < x5) = true := by simp; omega | have d2 : decide (r < x5) = false := by simp; omega
    have Hq := Lib.hid hq; clear hq
    go_region_held3 (fun w' => w'.cell? ⟨t, 0, none⟩ = some (.slice uA nU uC) ∧ w'.cell? ⟨t, 1, none⟩ = some (.slice kA nK kC) ∧ w'.cell? ⟨t, 2, none⟩ = some (.int .i64 d) ∧ w'.cell? ⟨t, 3, none⟩ = some (.int .i64 x3) ∧ w'.cell? ⟨t, 4, none⟩ = some (.int .i64 x4) ∧ w'.cell? ⟨t, 5, none⟩ = some (.int .i64 x5) ∧ w'.cell? ⟨t, 6, none⟩ = some (.int .i64 x6) ∧ w'.cell? ⟨t, 7, none⟩ = some (.int .i64 x7) ∧ w'.cell? ⟨t, 8, none⟩ = some (.int .i64 x8)) (first | exact ⟨k0, k1, k2, k3, k4, k5, k6, k7, k8⟩ | go_keep)
    (first
      | (go_at_call 20; refine (member_all c u 3 (HE.out.below (Below.drew HB.out)) HM.out).mono ?_; rintro e w' ⟨rfl, rfl⟩)
      | (go_at_call 21; refine (user21 uA nU uC kA nK kC U d x3 x4 x5 x6 x7 x8 u _ (U1.out.below (Below.drew (Below.refl _ w2)))).mono ?_; rintro e w3 ⟨r', rfl, hr', hb3⟩; obtain rfl := hr'.one HR.out; have HB3 := Lib.hid hb3; clear k0 k1 k2 k3 k4 k5 k6 k7 k8 hr'; have T3 := (T1.out.drew).below hb3; have k0 := T3.cell (i := 0) rfl; have k1 := T3.cell (i := 1) rfl; have k2 := T3.cell (i := 2) rfl; have k3 := T3.cell (i := 3) rfl; have k4 := T3.cell (i := 4) rfl; have k5 := T3.cell (i := 5) rfl; have k6 := T3.cell (i := 6) rfl; have k7 := T3.cell (i := 7) rfl; have k8 := T3.cell (i := 8) rfl; clear hb3 T3))
    go_wp2
    go_ret
    exact ⟨rfl, HB.out.drew.trans (HB3.out.mono HB.out.size)⟩

theorem via16 {w : World} {A : Option Addr} {n : Nat} {E : Nat → Ev} {LV : Nat → Lvl} {s : ByteArray} {L : Lvl} (c : Nat) (u : ByteArray) (m r : Int) (hbig : n ≤ 9223372036854775807) (hE : EvsA w A n E) (hV : Leveled w n E LV) (hB : Bounded n LV) (hs : CreatorPost E n s) (hL : LevelsPost E LV n s L) (hm : MemPost E u n m) (hr : UserPost L.U u L.nU L.d r) :
    Calls Try.prog 16 #[.slice A n c, .string u] w fun e w' => e = .returned (.int .i64 (via m r L.x5)) ∧ Below w.heap.size w w' := by
  by_cases h3 : m = 3
  · have := via16_yes c u m r hbig hE hV hB hs hL hm h3 hr
    rw [h3]; exact this
  · have e : via m r L.x5 = 21 := by unfold via; simp [h3]
    rw [e]
    exact via16_no c u m r hbig hE hV hB hs hL hm h3

set_option maxHeartbeats 2000000 in
theorem via17_no {w : World} {A : Option Addr} {n : Nat} {E : Nat → Ev} {LV : Nat → Lvl} {s : ByteArray} {L : Lvl} (c : Nat) (u : ByteArray) (m r : Int) (hbig : n ≤ 9223372036854775807) (hE : EvsA w A n E) (hV : Leveled w n E LV) (hB : Bounded n LV) (hs : CreatorPost E n s) (hL : LevelsPost E LV n s L) (hm : MemPost E u n m) (hm3 : m ≠ 3) :
    Calls Try.prog 17 #[.slice A n c, .string u] w fun e w' => e = .returned (.int .i64 21) ∧ Below w.heap.size w w' := by
  have HO := Lib.hid (rof22 c hbig hE hV hs hL)
  have HE := Lib.hid hE
  have HM := Lib.hid hm
  have qm : (m == 3) = false := by simpa using hm3
  clear hE hV hB hs hL hm hm3
  go_enter Try.func17, Try.ntmps17
  go_upto_region 2 with (go_at_call 22; refine HO.out.mono ?_; rintro e w1 ⟨cs, rfl, ⟨uA, uC, kA, kC, rfl, hu1, hk1⟩, hb1⟩; have U1 := Lib.hid (hu1.below (Below.alloc (Below.refl w1.heap.size w1) (Nat.le_refl _) (.cells (lvc uA L.nU uC kA L.nK kC L.d L.x3 L.x4 L.x5 L.x6 L.x7 L.x8).toArray 28))); have HB := Lib.hid (Below.alloc hb1 hb1.size (.cells (lvc uA L.nU uC kA L.nK kC L.d L.x3 L.x4 L.x5 L.x6 L.x7 L.x8).toArray 28)); have T1 := Lib.hid (blk_new w1 (lvc uA L.nU uC kA L.nK kC L.d L.x3 L.x4 L.x5 L.x6 L.x7 L.x8) 28); clear hu1 hk1 hb1)
  generalize hw2 : (w1.alloc _) = w2 at U1 HB T1 ⊢
  clear hw2
  go_quiet ((go_at_call 23; refine (rmember_all c u m hbig (HE.out.below (below_drewN HB.out _)) HM.out).mono ?_; rintro e w' ⟨rfl, rfl⟩; exact ⟨rfl, _, rfl⟩))
  all_goals go_wp2
  all_goals go_ret
  all_goals exact ⟨rfl, below_drewN HB.out _⟩

set_option maxHeartbeats 4000000 in
theorem via17_yes {w : World} {A : Option Addr} {n : Nat} {E : Nat → Ev} {LV : Nat → Lvl} {s : ByteArray} {L : Lvl} (c : Nat) (u : ByteArray) (m r : Int) (hbig : n ≤ 9223372036854775807) (hE : EvsA w A n E) (hV : Leveled w n E LV) (hB : Bounded n LV) (hs : CreatorPost E n s) (hL : LevelsPost E LV n s L) (hm : MemPost E u n m) (hm3 : m = 3) (hr : UserPost L.U u L.nU L.d r) :
    Calls Try.prog 17 #[.slice A n c, .string u] w fun e w' => e = .returned (.int .i64 (via 3 r L.x5)) ∧ Below w.heap.size w w' := by
  have HO := Lib.hid (rof22 c hbig hE hV hs hL)
  have HE := Lib.hid hE
  have HM := Lib.hid hm
  have HR := Lib.hid hr
  have HVia := Lib.hid (show via 3 r L.x5 = if L.x5 ≤ r then 0 else 21 by unfold via; simp)
  subst hm3
  clear hE hV hB hs hL hm hr
  by_cases hq : L.x5 ≤ r
  all_goals
    first | (rw [if_pos hq] at HVia) | (rw [if_neg hq] at HVia)
    rw [HVia.out]
    clear HVia
    go_enter Try.func17, Try.ntmps17
    go_upto_region 2 with (go_at_call 22; refine HO.out.mono ?_; rintro e w1 ⟨cs, rfl, ⟨uA, uC, kA, kC, rfl, hu1, hk1⟩, hb1⟩; have U1 := Lib.hid (hu1.below (Below.alloc (Below.refl w1.heap.size w1) (Nat.le_refl _) (.cells (lvc uA L.nU uC kA L.nK kC L.d L.x3 L.x4 L.x5 L.x6 L.x7 L.x8).toArray 28))); have HB := Lib.hid (Below.alloc hb1 hb1.size (.cells (lvc uA L.nU uC kA L.nK kC L.d L.x3 L.x4 L.x5 L.x6 L.x7 L.x8).toArray 28)); have T1 := Lib.hid (blk_new w1 (lvc uA L.nU uC kA L.nK kC L.d L.x3 L.x4 L.x5 L.x6 L.x7 L.x8) 28); clear hu1 hk1 hb1)
    generalize hw2 : (w1.alloc _) = w2 at U1 HB T1 ⊢
    clear hw2
    have k0 := T1.out.cell (i := 0) rfl
    have k1 := T1.out.cell (i := 1) rfl
    have k2 := T1.out.cell (i := 2) rfl
    have k3 := T1.out.cell (i := 3) rfl
    have k4 := T1.out.cell (i := 4) rfl
    have k5 := T1.out.cell (i := 5) rfl
    have k6 := T1.out.cell (i := 6) rfl
    have k7 := T1.out.cell (i := 7) rfl
    have k8 := T1.out.cell (i := 8) rfl
    generalize w1.heap.size = t at T1 k0 k1 k2 k3 k4 k5 k6 k7 k8 ⊢
    obtain ⟨nU, U, nK, K, d, x3, x4, x5, x6, x7, x8⟩ := L
    dsimp only at *
    first | have d1 : decide (x5 ≤ r) = true := by simpa using hq | have d1 : decide (x5 ≤ r) = false := by simpa using hq
    first | have d2 : decide (r < x5) = true := by simp; omega | have d2 : decide (r < x5) = false := by simp; omega
    have Hq := Lib.hid hq; clear hq
    go_region_held3 (fun w' => w'.cell? ⟨t, 0, none⟩ = some (.slice uA nU uC) ∧ w'.cell? ⟨t, 1, none⟩ = some (.slice kA nK kC) ∧ w'.cell? ⟨t, 2, none⟩ = some (.int .i64 d) ∧ w'.cell? ⟨t, 3, none⟩ = some (.int .i64 x3) ∧ w'.cell? ⟨t, 4, none⟩ = some (.int .i64 x4) ∧ w'.cell? ⟨t, 5, none⟩ = some (.int .i64 x5) ∧ w'.cell? ⟨t, 6, none⟩ = some (.int .i64 x6) ∧ w'.cell? ⟨t, 7, none⟩ = some (.int .i64 x7) ∧ w'.cell? ⟨t, 8, none⟩ = some (.int .i64 x8)) (first | exact ⟨k0, k1, k2, k3, k4, k5, k6, k7, k8⟩ | go_keep)
    (first
      | (go_at_call 23; refine (rmember_all c u 3 hbig (HE.out.below (Below.drew HB.out)) HM.out).mono ?_; rintro e w' ⟨rfl, rfl⟩)
      | (go_at_call 24; refine (user24 uA nU uC kA nK kC U d x3 x4 x5 x6 x7 x8 u _ (U1.out.below (Below.drew (Below.refl _ w2)))).mono ?_; rintro e w3 ⟨r', rfl, hr', hb3⟩; obtain rfl := hr'.one HR.out; have HB3 := Lib.hid hb3; clear k0 k1 k2 k3 k4 k5 k6 k7 k8 hr'; have T3 := (T1.out.drew).below hb3; have k0 := T3.cell (i := 0) rfl; have k1 := T3.cell (i := 1) rfl; have k2 := T3.cell (i := 2) rfl; have k3 := T3.cell (i := 3) rfl; have k4 := T3.cell (i := 4) rfl; have k5 := T3.cell (i := 5) rfl; have k6 := T3.cell (i := 6) rfl; have k7 := T3.cell (i := 7) rfl; have k8 := T3.cell (i := 8) rfl; clear hb3 T3))
    go_wp2
    go_ret
    exact ⟨rfl, HB.out.drew.trans (HB3.out.mono HB.out.size)⟩

theorem via17 {w : World} {A : Option Addr} {n : Nat} {E : Nat → Ev} {LV : Nat → Lvl} {s : ByteArray} {L : Lvl} (c : Nat) (u : ByteArray) (m r : Int) (hbig : n ≤ 9223372036854775807) (hE : EvsA w A n E) (hV : Leveled w n E LV) (hB : Bounded n LV) (hs : CreatorPost E n s) (hL : LevelsPost E LV n s L) (hm : MemPost E u n m) (hr : UserPost L.U u L.nU L.d r) :
    Calls Try.prog 17 #[.slice A n c, .string u] w fun e w' => e = .returned (.int .i64 (via m r L.x5)) ∧ Below w.heap.size w w' := by
  by_cases h3 : m = 3
  · have := via17_yes c u m r hbig hE hV hB hs hL hm h3 hr
    rw [h3]; exact this
  · have e : via m r L.x5 = 21 := by unfold via; simp [h3]
    rw [e]
    exact via17_no c u m r hbig hE hV hB hs hL hm h3

end Go.Proofs.Ytmgjmcpkoaacjaa
