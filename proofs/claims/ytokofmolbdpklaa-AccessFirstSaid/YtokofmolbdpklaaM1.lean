/- access.May, of the program and of the reference. Condition: few enough users and kinds to be copied. -/
import Derived.Test.YtokofmolbdpklaaA1
import Derived.Test.YtokofmolbdpklaaO1
namespace Go.Proofs.Ytokofmolbdpklaa
open Go.RowKit
set_option linter.unusedVariables false

def OfS (Ck : Ct) (e : Ending) (w' : World) : Prop := ∃ a, e = .returned (.tuple #[.agg (cells Ck a).toArray, .bool true]) ∧ IsCt w' Ck a
def mayI (n : Nat) (kd : Nat → Int) (C : Nat → Ct) (sv : ByteArray) : Int := match fk n kd with | none => 0 | some k => if allow (C k) sv then 0 else 22
theorem of14_s (A : Option Addr) (n c : Nat) (kd : Nat → Int) (C : Nat → Ct) (ad : Nat → Ads) (w w1 : World) (h : Evl w A n kd C ad) (hm : ∀ j, j < n → Sm (C j)) (k : Nat) (hk : fk n kd = some k) (hb : Below w.heap.size w w1) :
    Calls Try.prog 14 #[.slice A n c] w1 fun e w' => OfS (C k) e w' ∧ Below w1.heap.size w1 w' :=
  (of14 A n c kd C ad w1 (h.below hb) hm).mono fun e w' hp => ⟨(by
    rcases hp.1 with ⟨k', a, h1, h2, h3⟩ | ⟨h1, h2⟩
    · rw [hk] at h1; cases h1; exact ⟨a, h2, h3⟩
    · rw [hk] at h1; cases h1), hp.2⟩
theorem of14_n (A : Option Addr) (n c : Nat) (kd : Nat → Int) (C : Nat → Ct) (ad : Nat → Ads) (w w1 : World) (h : Evl w A n kd C ad) (hm : ∀ j, j < n → Sm (C j)) (hk : fk n kd = none) (hb : Below w.heap.size w w1) :
    Calls Try.prog 14 #[.slice A n c] w1 fun e w' => e = .returned (.tuple #[.agg (cells ct0 ad0).toArray, .bool false]) ∧ Below w1.heap.size w1 w' :=
  (of14 A n c kd C ad w1 (h.below hb) hm).mono fun e w' hp => ⟨(by
    rcases hp.1 with ⟨k', a, h1, h2, h3⟩ | ⟨h1, h2⟩
    · rw [hk] at h1; cases h1
    · exact h2), hp.2⟩
set_option maxHeartbeats 2000000 in
theorem may17_s (A : Option Addr) (n c : Nat) (sv : ByteArray) (Ck : Ct) (q : Bool) (w : World)
    (co : ∀ w1, Below w.heap.size w w1 → Calls Try.prog 14 #[.slice A n c] w1 fun e w' => OfS Ck e w' ∧ Below w1.heap.size w1 w')
    (ca : ∀ a w1, IsCt w1 Ck a → Calls Try.prog 9 #[.agg (cells Ck a).toArray, .string sv] w1 fun e w' => e = .returned (.bool q) ∧ Below w1.heap.size w1 w') :
    Calls Try.prog 17 #[.slice A n c, .string sv] w fun e w' => e = .returned (.int .i64 (if q then 0 else 22)) ∧ Below w.heap.size w w' := by
  have CO := Lib.hid co
  have CA := Lib.hid ca
  clear co ca
  go_enter Try.func17, Try.ntmps17
  cases q
  · go_wp2_with (first
      | (go_at_call 14; (with_reducible refine (CO.out _ (Below.refl _ _)).mono ?_); rintro e w1 ⟨⟨a1, rfl, hc1⟩, hb1⟩; have HC1 := Lib.hid hc1; have HB1 := Lib.hid hb1; clear hc1 hb1)
      | (refine store_mid_as rfl 28 _ _ rfl w1.heap.size 0 (cells Ck a1).toArray rfl rfl (Blk.there (n := 16) (blk_new w1 c16 28) (by decide)) size28c (ctc_one _ _) ?_; intro w4 e4; have E4 : Hid (w4 = (w1.alloc (.cells c16.toArray 28)).setCells w1.heap.size 0 (cells Ck a1)) := Lib.hid e4; clear e4; have X4 : Hid (Blk w4 w1.heap.size (cells Ck a1) 28) := Lib.hid (by rw [E4.out]; exact (blk_new w1 c16 28).setAll _ rfl); have B4 : Hid (Below w.heap.size w w4) := Lib.hid (by rw [E4.out]; exact below_setAll HB1.out.size _ _ _ (HB1.out.alloc HB1.out.size _)); have C4 : Hid (IsCt w4 Ck a1) := Lib.hid (by rw [E4.out]; exact (HC1.out.below ((Below.refl _ w1).alloc (Nat.le_refl _) _)).otherAll _ _ _ (HC1.out.apart (Nat.le_refl _))); have m0 := X4.out.cell (i := 0) rfl; have m1 := X4.out.cell (i := 1) rfl; have m2 := X4.out.cell (i := 2) rfl; have m3 := X4.out.cell (i := 3) rfl; have m4 := X4.out.cell (i := 4) rfl; have m5 := X4.out.cell (i := 5) rfl; have m6 := X4.out.cell (i := 6) rfl; have m7 := X4.out.cell (i := 7) rfl; have m8 := X4.out.cell (i := 8) rfl; have m9 := X4.out.cell (i := 9) rfl; have m10 := X4.out.cell (i := 10) rfl; have m11 := X4.out.cell (i := 11) rfl; have m12 := X4.out.cell (i := 12) rfl; have m13 := X4.out.cell (i := 13) rfl; have m14 := X4.out.cell (i := 14) rfl; have m15 := X4.out.cell (i := 15) rfl)
      | (go_at_call 9; (with_reducible refine (CA.out a1 _ C4.out).mono ?_); rintro e w5 ⟨rfl, hb5⟩))
    go_ret
    exact ⟨rfl, B4.out.trans (hb5.mono B4.out.size)⟩
  · go_wp2_with (first
      | (go_at_call 14; (with_reducible refine (CO.out _ (Below.refl _ _)).mono ?_); rintro e w1 ⟨⟨a1, rfl, hc1⟩, hb1⟩; have HC1 := Lib.hid hc1; have HB1 := Lib.hid hb1; clear hc1 hb1)
      | (refine store_mid_as rfl 28 _ _ rfl w1.heap.size 0 (cells Ck a1).toArray rfl rfl (Blk.there (n := 16) (blk_new w1 c16 28) (by decide)) size28c (ctc_one _ _) ?_; intro w4 e4; have E4 : Hid (w4 = (w1.alloc (.cells c16.toArray 28)).setCells w1.heap.size 0 (cells Ck a1)) := Lib.hid e4; clear e4; have X4 : Hid (Blk w4 w1.heap.size (cells Ck a1) 28) := Lib.hid (by rw [E4.out]; exact (blk_new w1 c16 28).setAll _ rfl); have B4 : Hid (Below w.heap.size w w4) := Lib.hid (by rw [E4.out]; exact below_setAll HB1.out.size _ _ _ (HB1.out.alloc HB1.out.size _)); have C4 : Hid (IsCt w4 Ck a1) := Lib.hid (by rw [E4.out]; exact (HC1.out.below ((Below.refl _ w1).alloc (Nat.le_refl _) _)).otherAll _ _ _ (HC1.out.apart (Nat.le_refl _))); have m0 := X4.out.cell (i := 0) rfl; have m1 := X4.out.cell (i := 1) rfl; have m2 := X4.out.cell (i := 2) rfl; have m3 := X4.out.cell (i := 3) rfl; have m4 := X4.out.cell (i := 4) rfl; have m5 := X4.out.cell (i := 5) rfl; have m6 := X4.out.cell (i := 6) rfl; have m7 := X4.out.cell (i := 7) rfl; have m8 := X4.out.cell (i := 8) rfl; have m9 := X4.out.cell (i := 9) rfl; have m10 := X4.out.cell (i := 10) rfl; have m11 := X4.out.cell (i := 11) rfl; have m12 := X4.out.cell (i := 12) rfl; have m13 := X4.out.cell (i := 13) rfl; have m14 := X4.out.cell (i := 14) rfl; have m15 := X4.out.cell (i := 15) rfl)
      | (go_at_call 9; (with_reducible refine (CA.out a1 _ C4.out).mono ?_); rintro e w5 ⟨rfl, hb5⟩))
    go_ret
    exact ⟨rfl, B4.out.trans (hb5.mono B4.out.size)⟩
set_option maxHeartbeats 2000000 in
theorem may17_n (A : Option Addr) (n c : Nat) (sv : ByteArray) (w : World)
    (co : ∀ w1, Below w.heap.size w w1 → Calls Try.prog 14 #[.slice A n c] w1 fun e w' => e = .returned (.tuple #[.agg (cells ct0 ad0).toArray, .bool false]) ∧ Below w1.heap.size w1 w') :
    Calls Try.prog 17 #[.slice A n c, .string sv] w fun e w' => e = .returned (.int .i64 0) ∧ Below w.heap.size w w' := by
  have CO := Lib.hid co
  clear co
  go_enter Try.func17, Try.ntmps17
  go_wp2_with (first
    | (go_at_call 14; (with_reducible refine (CO.out _ (Below.refl _ _)).mono ?_); rintro e w1 ⟨rfl, hb1⟩; have HB1 := Lib.hid hb1; clear hb1)
    | (refine store_mid_as rfl 28 _ _ rfl w1.heap.size 0 (cells ct0 ad0).toArray rfl rfl (Blk.there (n := 16) (blk_new w1 c16 28) (by decide)) size28c (ctc_one _ _) ?_; intro w4 e4; have E4 : Hid (w4 = (w1.alloc (.cells c16.toArray 28)).setCells w1.heap.size 0 (cells ct0 ad0)) := Lib.hid e4; clear e4; have B4 : Hid (Below w.heap.size w w4) := Lib.hid (by rw [E4.out]; exact below_setAll HB1.out.size _ _ _ (HB1.out.alloc HB1.out.size _))))
  go_ret
  exact ⟨rfl, B4.out⟩
theorem may17 (A : Option Addr) (n c : Nat) (kd : Nat → Int) (C : Nat → Ct) (ad : Nat → Ads) (sv : ByteArray) (hs : sv.size ≤ 4611686018427387903) (w : World) (h : Evl w A n kd C ad) (hm : ∀ j, j < n → Sm (C j)) :
    Calls Try.prog 17 #[.slice A n c, .string sv] w fun e w' => e = .returned (.int .i64 (mayI n kd C sv)) ∧ Below w.heap.size w w' := by
  unfold mayI
  cases hf : fk n kd with
  | none => exact may17_n A n c sv w (fun w1 hb => of14_n A n c kd C ad w w1 h hm hf hb)
  | some k => exact may17_s A n c sv (C k) (allow (C k) sv) w (fun w1 hb => of14_s A n c kd C ad w w1 h hm k hf hb) (fun a w1 hi => allowed9 (C k) a sv hs w1 hi)
theorem of15_s (A : Option Addr) (n c : Nat) (kd : Nat → Int) (C : Nat → Ct) (ad : Nat → Ads) (w w1 : World) (h : Evl w A n kd C ad) (k : Nat) (hk : fk n kd = some k) (hb : Below w.heap.size w w1) :
    Calls Try.prog 15 #[.slice A n c] w1 fun e w' => OfS (C k) e w' ∧ Below w1.heap.size w1 w' :=
  (of15 A n c kd C ad w1 (h.below hb)).mono fun e w' hp => ⟨(by
    rcases hp.1 with ⟨k', a, h1, h2, h3⟩ | ⟨h1, h2⟩
    · rw [hk] at h1; cases h1; exact ⟨a, h2, h3⟩
    · rw [hk] at h1; cases h1), hp.2⟩
theorem of15_n (A : Option Addr) (n c : Nat) (kd : Nat → Int) (C : Nat → Ct) (ad : Nat → Ads) (w w1 : World) (h : Evl w A n kd C ad) (hk : fk n kd = none) (hb : Below w.heap.size w w1) :
    Calls Try.prog 15 #[.slice A n c] w1 fun e w' => e = .returned (.tuple #[.agg (cells ct0 ad0).toArray, .bool false]) ∧ Below w1.heap.size w1 w' :=
  (of15 A n c kd C ad w1 (h.below hb)).mono fun e w' hp => ⟨(by
    rcases hp.1 with ⟨k', a, h1, h2, h3⟩ | ⟨h1, h2⟩
    · rw [hk] at h1; cases h1
    · exact h2), hp.2⟩
set_option maxHeartbeats 2000000 in
theorem may18_s (A : Option Addr) (n c : Nat) (sv : ByteArray) (Ck : Ct) (q : Bool) (w : World)
    (co : ∀ w1, Below w.heap.size w w1 → Calls Try.prog 15 #[.slice A n c] w1 fun e w' => OfS Ck e w' ∧ Below w1.heap.size w1 w')
    (ca : ∀ a w1, IsCt w1 Ck a → Calls Try.prog 10 #[.agg (cells Ck a).toArray, .string sv] w1 fun e w' => e = .returned (.bool q) ∧ Below w1.heap.size w1 w') :
    Calls Try.prog 18 #[.slice A n c, .string sv] w fun e w' => e = .returned (.int .i64 (if q then 0 else 22)) ∧ Below w.heap.size w w' := by
  have CO := Lib.hid co
  have CA := Lib.hid ca
  clear co ca
  go_enter Try.func18, Try.ntmps18
  cases q
  · go_wp2_with (first
      | (go_at_call 15; (with_reducible refine (CO.out _ (Below.refl _ _)).mono ?_); rintro e w1 ⟨⟨a1, rfl, hc1⟩, hb1⟩; have HC1 := Lib.hid hc1; have HB1 := Lib.hid hb1; clear hc1 hb1)
      | (refine store_mid_as rfl 28 _ _ rfl w1.heap.size 0 (cells Ck a1).toArray rfl rfl (Blk.there (n := 16) (blk_new w1 c16 28) (by decide)) size28c (ctc_one _ _) ?_; intro w4 e4; have E4 : Hid (w4 = (w1.alloc (.cells c16.toArray 28)).setCells w1.heap.size 0 (cells Ck a1)) := Lib.hid e4; clear e4; have X4 : Hid (Blk w4 w1.heap.size (cells Ck a1) 28) := Lib.hid (by rw [E4.out]; exact (blk_new w1 c16 28).setAll _ rfl); have B4 : Hid (Below w.heap.size w w4) := Lib.hid (by rw [E4.out]; exact below_setAll HB1.out.size _ _ _ (HB1.out.alloc HB1.out.size _)); have C4 : Hid (IsCt w4 Ck a1) := Lib.hid (by rw [E4.out]; exact (HC1.out.below ((Below.refl _ w1).alloc (Nat.le_refl _) _)).otherAll _ _ _ (HC1.out.apart (Nat.le_refl _))); have m0 := X4.out.cell (i := 0) rfl; have m1 := X4.out.cell (i := 1) rfl; have m2 := X4.out.cell (i := 2) rfl; have m3 := X4.out.cell (i := 3) rfl; have m4 := X4.out.cell (i := 4) rfl; have m5 := X4.out.cell (i := 5) rfl; have m6 := X4.out.cell (i := 6) rfl; have m7 := X4.out.cell (i := 7) rfl; have m8 := X4.out.cell (i := 8) rfl; have m9 := X4.out.cell (i := 9) rfl; have m10 := X4.out.cell (i := 10) rfl; have m11 := X4.out.cell (i := 11) rfl; have m12 := X4.out.cell (i := 12) rfl; have m13 := X4.out.cell (i := 13) rfl; have m14 := X4.out.cell (i := 14) rfl; have m15 := X4.out.cell (i := 15) rfl)
      | (go_at_call 10; (with_reducible refine (CA.out a1 _ C4.out).mono ?_); rintro e w5 ⟨rfl, hb5⟩))
    go_ret
    exact ⟨rfl, B4.out.trans (hb5.mono B4.out.size)⟩
  · go_wp2_with (first
      | (go_at_call 15; (with_reducible refine (CO.out _ (Below.refl _ _)).mono ?_); rintro e w1 ⟨⟨a1, rfl, hc1⟩, hb1⟩; have HC1 := Lib.hid hc1; have HB1 := Lib.hid hb1; clear hc1 hb1)
      | (refine store_mid_as rfl 28 _ _ rfl w1.heap.size 0 (cells Ck a1).toArray rfl rfl (Blk.there (n := 16) (blk_new w1 c16 28) (by decide)) size28c (ctc_one _ _) ?_; intro w4 e4; have E4 : Hid (w4 = (w1.alloc (.cells c16.toArray 28)).setCells w1.heap.size 0 (cells Ck a1)) := Lib.hid e4; clear e4; have X4 : Hid (Blk w4 w1.heap.size (cells Ck a1) 28) := Lib.hid (by rw [E4.out]; exact (blk_new w1 c16 28).setAll _ rfl); have B4 : Hid (Below w.heap.size w w4) := Lib.hid (by rw [E4.out]; exact below_setAll HB1.out.size _ _ _ (HB1.out.alloc HB1.out.size _)); have C4 : Hid (IsCt w4 Ck a1) := Lib.hid (by rw [E4.out]; exact (HC1.out.below ((Below.refl _ w1).alloc (Nat.le_refl _) _)).otherAll _ _ _ (HC1.out.apart (Nat.le_refl _))); have m0 := X4.out.cell (i := 0) rfl; have m1 := X4.out.cell (i := 1) rfl; have m2 := X4.out.cell (i := 2) rfl; have m3 := X4.out.cell (i := 3) rfl; have m4 := X4.out.cell (i := 4) rfl; have m5 := X4.out.cell (i := 5) rfl; have m6 := X4.out.cell (i := 6) rfl; have m7 := X4.out.cell (i := 7) rfl; have m8 := X4.out.cell (i := 8) rfl; have m9 := X4.out.cell (i := 9) rfl; have m10 := X4.out.cell (i := 10) rfl; have m11 := X4.out.cell (i := 11) rfl; have m12 := X4.out.cell (i := 12) rfl; have m13 := X4.out.cell (i := 13) rfl; have m14 := X4.out.cell (i := 14) rfl; have m15 := X4.out.cell (i := 15) rfl)
      | (go_at_call 10; (with_reducible refine (CA.out a1 _ C4.out).mono ?_); rintro e w5 ⟨rfl, hb5⟩))
    go_ret
    exact ⟨rfl, B4.out.trans (hb5.mono B4.out.size)⟩
set_option maxHeartbeats 2000000 in
theorem may18_n (A : Option Addr) (n c : Nat) (sv : ByteArray) (w : World)
    (co : ∀ w1, Below w.heap.size w w1 → Calls Try.prog 15 #[.slice A n c] w1 fun e w' => e = .returned (.tuple #[.agg (cells ct0 ad0).toArray, .bool false]) ∧ Below w1.heap.size w1 w') :
    Calls Try.prog 18 #[.slice A n c, .string sv] w fun e w' => e = .returned (.int .i64 0) ∧ Below w.heap.size w w' := by
  have CO := Lib.hid co
  clear co
  go_enter Try.func18, Try.ntmps18
  go_wp2_with (first
    | (go_at_call 15; (with_reducible refine (CO.out _ (Below.refl _ _)).mono ?_); rintro e w1 ⟨rfl, hb1⟩; have HB1 := Lib.hid hb1; clear hb1)
    | (refine store_mid_as rfl 28 _ _ rfl w1.heap.size 0 (cells ct0 ad0).toArray rfl rfl (Blk.there (n := 16) (blk_new w1 c16 28) (by decide)) size28c (ctc_one _ _) ?_; intro w4 e4; have E4 : Hid (w4 = (w1.alloc (.cells c16.toArray 28)).setCells w1.heap.size 0 (cells ct0 ad0)) := Lib.hid e4; clear e4; have B4 : Hid (Below w.heap.size w w4) := Lib.hid (by rw [E4.out]; exact below_setAll HB1.out.size _ _ _ (HB1.out.alloc HB1.out.size _))))
  go_ret
  exact ⟨rfl, B4.out⟩
theorem may18 (A : Option Addr) (n c : Nat) (kd : Nat → Int) (C : Nat → Ct) (ad : Nat → Ads) (sv : ByteArray) (hs : sv.size ≤ 4611686018427387903) (w : World) (h : Evl w A n kd C ad) :
    Calls Try.prog 18 #[.slice A n c, .string sv] w fun e w' => e = .returned (.int .i64 (mayI n kd C sv)) ∧ Below w.heap.size w w' := by
  unfold mayI
  cases hf : fk n kd with
  | none => exact may18_n A n c sv w (fun w1 hb => of15_n A n c kd C ad w w1 h hf hb)
  | some k => exact may18_s A n c sv (C k) (allow (C k) sv) w (fun w1 hb => of15_s A n c kd C ad w w1 h k hf hb) (fun a w1 hi => allowed10 (C k) a sv hs w1 hi)
end Go.Proofs.Ytokofmolbdpklaa
