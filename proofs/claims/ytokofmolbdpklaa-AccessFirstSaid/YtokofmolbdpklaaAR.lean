/- AccessRooms: its walk. -/
import Derived.Test.YtokofmolbdpklaaL20
import Derived.Test.YtokofmolbdpklaaG9
namespace Go.Proofs.Ytokofmolbdpklaa
open Go.RowKit
set_option linter.unusedVariables false

def ctk (n : Nat) (kd : Nat → Int) (C : Nat → Ct) : Ct := match fk n kd with | none => ct0 | some k => C k
def OfU (Ck : Ct) (f : Bool) (e : Ending) (w' : World) : Prop := ∃ a, e = .returned (.tuple #[.agg (cells Ck a).toArray, .bool f]) ∧ IsCt w' Ck a
theorem of14_u (A : Option Addr) (n c : Nat) (kd : Nat → Int) (C : Nat → Ct) (ad : Nat → Ads) (w w1 : World) (h : Evl w A n kd C ad) (hm : ∀ j, j < n → Sm (C j)) (hb : Below w.heap.size w w1) :
    Calls Try.prog 14 #[.slice A n c] w1 fun e w' => OfU (ctk n kd C) (fk n kd).isSome e w' ∧ Below w1.heap.size w1 w' :=
  (of14 A n c kd C ad w1 (h.below hb) hm).mono fun e w' hp => ⟨(by
    rcases hp.1 with ⟨k', a, h1, h2, h3⟩ | ⟨h1, h2⟩
    · refine ⟨a, ?_, ?_⟩
      · rw [h2]; unfold ctk; rw [h1]; rfl
      · unfold ctk; rw [h1]; exact h3
    · refine ⟨ad0, ?_, ?_⟩
      · rw [h2]; unfold ctk; rw [h1]; rfl
      · unfold ctk; rw [h1]; exact ct0_is _), hp.2⟩
theorem of15_u (A : Option Addr) (n c : Nat) (kd : Nat → Int) (C : Nat → Ct) (ad : Nat → Ads) (w w1 : World) (h : Evl w A n kd C ad) (hb : Below w.heap.size w w1) :
    Calls Try.prog 15 #[.slice A n c] w1 fun e w' => OfU (ctk n kd C) (fk n kd).isSome e w' ∧ Below w1.heap.size w1 w' :=
  (of15 A n c kd C ad w1 (h.below hb)).mono fun e w' hp => ⟨(by
    rcases hp.1 with ⟨k', a, h1, h2, h3⟩ | ⟨h1, h2⟩
    · refine ⟨a, ?_, ?_⟩
      · rw [h2]; unfold ctk; rw [h1]; rfl
      · unfold ctk; rw [h1]; exact h3
    · refine ⟨ad0, ?_, ?_⟩
      · rw [h2]; unfold ctk; rw [h1]; rfl
      · unfold ctk; rw [h1]; exact ct0_is _), hp.2⟩
theorem may17g (A : Option Addr) (n c : Nat) (kd : Nat → Int) (C : Nat → Ct) (ad : Nat → Ads) (sv : ByteArray) (hs : 0 < n → sv.size ≤ 4611686018427387903) (w w1 : World) (h : Evl w A n kd C ad) (hm : ∀ j, j < n → Sm (C j)) (hb : Below w.heap.size w w1) :
    Calls Try.prog 17 #[.slice A n c, .string sv] w1 fun e w' => e = .returned (.int .i64 (mayI n kd C sv)) ∧ Below w1.heap.size w1 w' := by
  rcases Nat.eq_zero_or_pos n with h0 | h0
  · have hf : fk n kd = none := fk_none (fun j hj => by omega)
    have := may17_n A n c sv w1 (fun u hu => of14_n A n c kd C ad w u h hm hf (hb.trans (hu.mono hb.size)))
    unfold mayI
    rw [hf]
    exact this
  · exact may17 A n c kd C ad sv (hs h0) w1 (h.below hb) hm
theorem may18g (A : Option Addr) (n c : Nat) (kd : Nat → Int) (C : Nat → Ct) (ad : Nat → Ads) (sv : ByteArray) (hs : 0 < n → sv.size ≤ 4611686018427387903) (w w1 : World) (h : Evl w A n kd C ad) (hb : Below w.heap.size w w1) :
    Calls Try.prog 18 #[.slice A n c, .string sv] w1 fun e w' => e = .returned (.int .i64 (mayI n kd C sv)) ∧ Below w1.heap.size w1 w' := by
  rcases Nat.eq_zero_or_pos n with h0 | h0
  · have hf : fk n kd = none := fk_none (fun j hj => by omega)
    have := may18_n A n c sv w1 (fun u hu => of15_n A n c kd C ad w u h hf (hb.trans (hu.mono hb.size)))
    unfold mayI
    rw [hf]
    exact this
  · exact may18 A n c kd C ad sv (hs h0) w1 (h.below hb)
set_option maxRecDepth 100000 in
set_option maxHeartbeats 4000000 in
theorem rooms_walk (A : Option Addr) (n c : Nat) (E : Nat → Evd) (sv : ByteArray) (hsv : sv.size ≤ 9223372036854775807) (w : World) (h : Evx w A n E) :
    Calls Try.prog 4 #[.slice A n c, .string sv] w fun e w' => e = .returned (.bool true) ∧ Below w.heap.size w w' := by
  have H := Lib.hid h
  have hbig := h.big
  have HV := Lib.hid hsv
  have AW := Lib.hid (fun u => awake8 u)
  have G13 := Lib.hid (great13 A n c 20 E w h)
  clear h hsv
  go_enter Try.func4, Try.ntmps4
  go_wp2_with (first
    | (go_at_call 13; (with_reducible refine G13.out.mono ?_); rintro e w2 ⟨⟨q, rfl, hq⟩, hb2⟩; have HQ := Lib.hid hq; have B2 := Lib.hid hb2; clear hq hb2)
    | (go_at_call 8; (with_reducible refine (AW.out _).mono ?_); rintro e u4 ⟨rfl, hb5⟩))
  · go_ret
    exact ⟨rfl, B2.out.trans (hb5.mono B2.out.size)⟩
  · obtain rfl : q = false := by first | assumption | simp_all
    have HU := Lib.hid (HQ.out rfl).2
    have HSz := Lib.hid B2.out.size
    clear HQ
    go_loopg [5] n (fun gg s5 wr => ∃ kk : Nat, kk ≤ n ∧ n - kk ≤ gg ∧ s5 = .int .i64 kk ∧ Hid (∀ j, j < kk → (E j).C.nA ≤ 20 ∧ (E j).C.nD ≤ 20 ∧ sv.size ≤ 80) ∧ Hid (Below w2.heap.size w2 wr))
    case atStart => exact ⟨0, Nat.zero_le _, by omega, rfl, Lib.hid (fun j hj => absurd hj (Nat.not_lt_zero _)), Lib.hid (Below.refl _ _)⟩
    case round =>
      obtain ⟨kk, hkk, hg, rfl, HO, BW⟩ := hrel
      by_cases hlt : kk < n
      · have hltz : (kk : Int) < (n : Int) := by omega
        obtain ⟨b, off, rfl, _, R⟩ := (H.out.below (B2.out.trans (BW.out.mono HSz.out))).evl.get hlt
        have HG := Lib.hid (great7b (E kk).C (E kk).a sv HV.out wr ((H.out.below (B2.out.trans (BW.out.mono HSz.out))).ct kk hlt))
        have HN := Lib.hid (fun h => great_bound (nA := (E kk).C.nA) (nD := (E kk).C.nD) (al := (E kk).C.al) (dn := (E kk).C.dn) (sv := sv) h)
        generalize great (E kk).C.nA (E kk).C.nD (E kk).C.al (E kk).C.dn sv = g at HG HN
        cases g
        · go_wp2_with (first
            | (refine load_mid_g (by rfl) 28 _ rfl b (off + kk * 29 + 10) rfl (cells (E kk).C (E kk).a) _ R.out Try.underlying28 rfl size28c ?_)
            | (go_at_call 7; (with_reducible refine HG.out.mono ?_); rintro e w3 ⟨rfl, hb3⟩))
          go_roundg (n - (kk + 1))
          case measure => omega
          case rel =>
            refine ⟨kk + 1, by omega, by omega, by go_num, Lib.hid (fun j hj => ?_), Lib.hid (BW.out.trans (hb3.mono BW.out.size))⟩
            by_cases e : j = kk
            · subst e; exact HN.out (by trivial)
            · exact HO.out j (by omega)
        · go_wp2_with (first
            | (refine load_mid_g (by rfl) 28 _ rfl b (off + kk * 29 + 10) rfl (cells (E kk).C (E kk).a) _ R.out Try.underlying28 rfl size28c ?_)
            | (go_at_call 7; (with_reducible refine HG.out.mono ?_); rintro e w3 ⟨rfl, hb3⟩)
            | (go_at_call 8; (with_reducible refine (AW.out _).mono ?_); rintro e u4 ⟨rfl, hb5⟩))
          go_ret
          exact ⟨rfl, B2.out.trans ((BW.out.trans ((hb3.trans (hb5.mono hb3.size)).mono BW.out.size)).mono HSz.out)⟩
      · have hltz : ¬ (kk : Int) < (n : Int) := by omega
        have HM : Hid (∀ j, j < n → Sm (E j).C) := Lib.hid (fun j hj => ⟨by have := (HO.out j (by omega)).1; omega, by have := (HO.out j (by omega)).2.1; omega, by have := (HU.out j hj).1; omega, by have := (HU.out j hj).2; omega⟩)
        have HS : Hid (0 < n → sv.size ≤ 4611686018427387903) := Lib.hid (fun h0 => by have := (HO.out 0 (by omega)).2.2; omega)
        have B0 := Lib.hid (B2.out.trans (BW.out.mono HSz.out))
        have O14 := Lib.hid (fun u hb => of14_u A n c (fun j => (E j).e3) (fun j => (E j).C) (fun j => (E j).a) w u H.out.evl HM.out hb)
        have O15 := Lib.hid (fun u hb => of15_u A n c (fun j => (E j).e3) (fun j => (E j).C) (fun j => (E j).a) w u H.out.evl hb)
        have M17 := Lib.hid (fun u hb => may17g A n c (fun j => (E j).e3) (fun j => (E j).C) (fun j => (E j).a) sv HS.out w u H.out.evl HM.out hb)
        have M18 := Lib.hid (fun u hb => may18g A n c (fun j => (E j).e3) (fun j => (E j).C) (fun j => (E j).a) sv HS.out w u H.out.evl hb)
        generalize mayI n (fun j => (E j).e3) (fun j => (E j).C) sv = r at M17 M18
        generalize (fk n (fun j => (E j).e3)).isSome = f at O14 O15
        generalize ctk n (fun j => (E j).e3) (fun j => (E j).C) = Ck at O14 O15
        clear HO HU HM HS G13 HV H B2 BW HSz
        go_wp2_with (first
          | (go_at_call 14; (with_reducible refine (O14.out _ B0.out).mono ?_); rintro e w1 ⟨⟨a1, rfl, hc1⟩, hb1⟩; have I1 := Lib.hid hc1; have B1 := Lib.hid (B0.out.trans (hb1.mono B0.out.size)); clear hc1 hb1)
          | (refine store_mid_as rfl 28 _ _ rfl w1.heap.size 0 (cells Ck a1).toArray rfl rfl (Blk.there (n := 16) (blk_new w1 c16 28) (by decide)) size28c (ctc_one _ _) ?_; intro w4 qw4; have X4 : Hid (Blk w4 w1.heap.size (cells Ck a1) 28) := Lib.hid (by rw [qw4]; exact (blk_new w1 c16 28).setAll _ rfl); have I4 : Hid (IsCt w4 Ck a1) := Lib.hid (by rw [qw4]; exact (I1.out.below ((Below.refl _ w1).alloc (Nat.le_refl _) _)).otherAll _ _ _ (I1.out.apart (Nat.le_refl _))); have B4 : Hid (Below w.heap.size w w4) := Lib.hid (by rw [qw4]; exact below_setAll B1.out.size _ _ _ (B1.out.alloc B1.out.size _)); clear qw4)
          | (go_at_call 15; (with_reducible refine (O15.out _ B4.out).mono ?_); rintro e w5 ⟨⟨a5, rfl, hc5⟩, hb5⟩; have J5 := Lib.hid hc5; have X5 := Lib.hid (X4.out.below hb5); have I5 := Lib.hid (I4.out.below hb5); have B5 := Lib.hid (B4.out.trans (hb5.mono B4.out.size)); clear hc5 hb5)
          | (refine store_mid_as rfl 28 _ _ rfl w5.heap.size 0 (cells Ck a5).toArray rfl rfl (Blk.there (n := 16) (blk_new w5 c16 28) (by decide)) size28c (ctc_one _ _) ?_; intro w6 qw6; have Y6 : Hid (Blk w6 w5.heap.size (cells Ck a5) 28) := Lib.hid (by rw [qw6]; exact (blk_new w5 c16 28).setAll _ rfl); have J6 : Hid (IsCt w6 Ck a5) := Lib.hid (by rw [qw6]; exact (J5.out.below ((Below.refl _ w5).alloc (Nat.le_refl _) _)).otherAll _ _ _ (J5.out.apart (Nat.le_refl _))); have X6 : Hid (Blk w6 w1.heap.size (cells Ck a1) 28) := Lib.hid (by rw [qw6]; exact (X5.out.alloc _).otherAll _ _ _ (by have := X5.out.lt; omega)); have I6 : Hid (IsCt w6 Ck a1) := Lib.hid (by rw [qw6]; exact (I5.out.below ((Below.refl _ w5).alloc (Nat.le_refl _) _)).otherAll _ _ _ (I5.out.apart (Nat.le_refl _))); have B6 : Hid (Below w.heap.size w w6) := Lib.hid (by rw [qw6]; exact below_setAll B5.out.size _ _ _ (B5.out.alloc B5.out.size _)); clear qw6)
          | (refine load_mid_g (by rfl) 28 _ rfl w1.heap.size 0 rfl (cells Ck a1) _ X6.out.range Try.underlying28 rfl size28c ?_)
          | (refine load_mid_g (by rfl) 28 _ rfl w5.heap.size 0 rfl (cells Ck a5) _ Y6.out.range Try.underlying28 rfl size28c ?_)
          | (go_at_call 16; (with_reducible refine (same16 Ck a1 a5 _ I6.out J6.out).mono ?_); rintro e w7 ⟨rfl, hb7⟩; have B7 := Lib.hid (B6.out.trans (hb7.mono B6.out.size)); clear hb7)
          | (go_at_call 17; (with_reducible refine (M17.out _ B7.out).mono ?_); rintro e w8 ⟨rfl, hb8⟩; have B8 := Lib.hid (B7.out.trans (hb8.mono B7.out.size)); clear hb8)
          | (go_at_call 18; (with_reducible refine (M18.out _ B8.out).mono ?_); rintro e w9 ⟨rfl, hb9⟩; have B9 := Lib.hid (B8.out.trans (hb9.mono B8.out.size)); clear hb9)
          | (go_at_call 8; (with_reducible refine (AW.out _).mono ?_); rintro e u4 ⟨rfl, hb5⟩))
        go_ret
        exact ⟨rfl, B9.out.trans (hb5.mono B9.out.size)⟩
end Go.Proofs.Ytokofmolbdpklaa
