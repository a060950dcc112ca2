/- The walk of the statement on copies, at most 2000 bytes. -/
import Derived.Test.YtgfodleoollmmaaW8
namespace Go.Proofs.Ytgfodleoollmmaa
open Go.RowKit
set_option linter.unusedVariables false

theorem gi_enc {n : Int} (h : C.in64 n) (r : List Int) : gi (C.enc (C.zig n) ++ r) = some (.int .i64 n, r) := by
  rw [gi_some (C.dec_enc (C.zig_lt h) r), C.zag_zig, List.drop_left]
theorem gi_enc0 {n : Int} (h : C.in64 n) (zs : List Int) (k : Nat) (hk : k = zs.length) : gi ((zs ++ C.enc (C.zig n)).drop k) = some (.int .i64 n, []) := by
  subst hk
  rw [List.drop_left]
  have := gi_enc h []
  rwa [List.append_nil] at this
theorem seven_lit (w : World) (B : Nat) (hB : B ≤ w.heap.size) : Sl (w.alloc (.cells #[.int .u8 7, .int .u8 7, .int .u8 7, .int .u8 7] 5)) (some ⟨w.heap.size, 0, none⟩) 4 4 [7, 7, 7, 7] :=
  sl_lit w [7, 7, 7, 7] (bytes_lit (zs := [7, 7, 7, 7]) rfl) _ rfl 4 rfl 5 (0, 0)

theorem own_alloc {w : World} {B : Nat} {v : Value} {zs : List Int} (h : Own w B v zs) (o : Obj) : Own (w.alloc o) B v zs := own_below h ((Below.refl _ _).alloc (Nat.le_refl _) _)
theorem below_alloc {B : Nat} {w w1 : World} (h : Below B w w1) (hB : B ≤ w.heap.size) (o : Obj) : Below B w (w1.alloc o) := h.alloc (Nat.le_trans hB h.size) o
theorem sl_room {w w' : World} {B : Nat} {A : Option Addr} {c : Nat} {zs : List Int} (h : Own w' B (.slice A (zs ++ [7, 7, 7, 7]).length c) (zs ++ [7, 7, 7, 7])) (hz : ∀ z ∈ zs, 0 ≤ z ∧ z ≤ 255) :
    (∃ g, A = some ⟨g, 0, none⟩) ∧ zs.length + 4 ≤ c ∧ Sl w' A (zs.length + 4) c (zs ++ [7, 7, 7, 7]) ∧ Sl w' A zs.length c zs := by
  have hs := OwnPost.sl (w := w) h (by
    intro z hz'
    rcases List.mem_append.1 hz' with h | h
    · exact hz z h
    · exact bytes_lit (zs := [7, 7, 7, 7]) rfl z h)
  have hl : (zs ++ [7, 7, 7, 7]).length = zs.length + 4 := by simp
  rw [hl] at hs h
  refine ⟨?_, hs.le, hs, ?_⟩
  · rcases h.2 with ⟨e, h0⟩ | ⟨g, cap, cur, e, _⟩
    · simp at h0
    · injection e with e1; exact ⟨g, e1⟩
  · have := hs.take zs.length (by omega)
    rwa [List.take_left] at this
theorem seven {w : World} {A : Option Addr} {c : Nat} {zs : List Int} (h : Sl w A (zs.length + 4) c (zs ++ [7, 7, 7, 7])) {k : Nat} (hk : k < 4) : ∃ b off, A = some ⟨b, off, none⟩ ∧ w.cell? ⟨b, off + (zs.length + k), none⟩ = some (.int .u8 7) := by
  obtain ⟨b, off, e, _, hc⟩ := h.cell (by omega)
  refine ⟨b, off, e, ?_⟩
  rw [hc _ (by omega)]
  congr 2
  rw [List.getD_eq_getElem?_getD, List.getElem?_append_right (by omega)]
  rw [show zs.length + k - zs.length = k by omega]
  match k, hk with
  | 0, _ => rfl
  | 1, _ => rfl
  | 2, _ => rfl
  | 3, _ => rfl

theorem own_len {B : Nat} {w w' : World} {ys : List Int} {e : Ending} (h : OwnPost B w ys e w') (hb : ∀ z ∈ ys, 0 ≤ z ∧ z ≤ 255) : ∃ L A c, L = ys.length ∧ e = .returned (.slice A L c) ∧ Sl w' A L c ys ∧ Below B w w' := by
  obtain ⟨A, c, he, ho, hw⟩ := h
  exact ⟨_, A, c, rfl, he, OwnPost.sl (w := w) ho hb, hw⟩
theorem got_end {z x : Value} {r : Option (Value × List Int)} {w w' : World} {e : Ending} (h : Got z r w e w') (hr : r = some (x, [])) :
    ∃ A c, e = .returned (.tuple #[x, .slice A 0 c, .bool true]) ∧ Below w.heap.size w w' := by
  obtain ⟨A, c, he, _, hb⟩ := got_yes h hr
  exact ⟨A, c, he, hb⟩
theorem app_bd {x y : List Int} (h : ∀ z ∈ x, 0 ≤ z ∧ z ≤ 255) (h2 : ∀ z ∈ y, 0 ≤ z ∧ z ≤ 255) : ∀ z ∈ x ++ y, 0 ≤ z ∧ z ≤ 255 := by
  intro z hz
  rcases List.mem_append.1 hz with hz | hz
  · exact h z hz
  · exact h2 z hz
theorem bool_bd (b : Bool) : ∀ z ∈ [if b then (1 : Int) else 0], 0 ≤ z ∧ z ≤ 255 := by cases b <;> simp

set_option maxHeartbeats 3200000 in
theorem copies_any (a : Option Addr) (len cap : Nat) (zs : List Int) (n m : Int) (hn : C.in64 n) (hm : C.in64 m) (w : World) (h : Sl w a len cap zs) :
    Calls Try.prog 8 #[.slice a len cap, .int .i64 n, .int .i64 m] w fun e w' => e = .returned (.bool true) ∧ Below w.heap.size w w' := by
  by_cases hlen : 2000 < len
  · have g : decide ((2000 : Int) < (len : Int)) = true := by simp; omega
    go_enter Try.func8, Try.ntmps8
    go_wp2_with (go_at_call 10; refine (awake_any _).mono ?_; rintro e wl ⟨rfl, hbl⟩)
    go_ret
    exact ⟨rfl, hbl⟩
  have g : decide ((2000 : Int) < (len : Int)) = false := by simp; omega
  have H := Lib.hid h
  have hz := h.sz
  subst hz
  clear h
  have HA := Lib.hid ((Below.refl w.heap.size w).alloc (Nat.le_refl _) (.cells #[] 5))
  have HN := Lib.hid hn
  have HM := Lib.hid hm
  have HEn := Lib.hid (C.enc_bd (C.zig_lt hn))
  have HEm := Lib.hid (C.enc_bd (C.zig_lt hm))
  go_enter Try.func8, Try.ntmps8
  go_wp2_with (first
    | (at_builtin; (with_reducible refine app_bytes rfl (.tmp 22) (.tmp 23) ?_ (B := w.heap.size) _ [] ?_ (lit_own w) ?_ a zs.length cap zs ?_ (H.out.below HA.out) (by simp; omega) ?_); (rfl); (rfl); (simp); (rfl); intro v1 w1 ho1 hb1; rw [List.nil_append] at ho1; obtain ⟨A1, c1, rfl⟩ := own_shape ho1; have HO := Lib.hid ho1; have HB := Lib.hid (HA.out.trans hb1); clear ho1 hb1)
    | (at_builtin; (with_reducible refine app_bytes rfl (.tmp 24) (.tmp 25) ?_ (B := w.heap.size) _ zs ?_ (own_alloc HO.out _) (by have := HB.out.size; simp; omega) _ 4 4 [7, 7, 7, 7] ?_ (seven_lit w1 w.heap.size HB.out.size) (by simp; omega) ?_); (rfl); (rfl); (rfl); intro v2 w2 ho2 hb2; obtain ⟨A2, c2, rfl⟩ := own_shape ho2; obtain ⟨⟨g2, rfl⟩, hcap, hs2, ht2⟩ := sl_room (w := w) ho2 H.out.bd; have HB2 := Lib.hid ((below_alloc HB.out (Nat.le_refl _) _).trans hb2); have HS2 := Lib.hid hs2; have HT2 := Lib.hid ht2; clear ho2 hb2 hs2 ht2)
    | (go_at_call 12; refine (putInt_any _ _ c2 zs n HN.out (by omega) _ HT2.out).mono ?_; intro e w3 h3; obtain ⟨L3, A3, c3, hL3, rfl, ho3, hb3⟩ := own_len h3 (app_bd H.out.bd HEn.out.1); have HL3 := Lib.hid hL3; have HO3 := Lib.hid ho3; have HB3 := Lib.hid hb3; clear ho3 hb3 hL3 h3)
    | (go_at_call 12; refine (putInt_any _ _ c2 zs m HM.out (by omega) _ (HT2.out.below HB3.out)).mono ?_; intro e w4 h4; obtain ⟨L4, A4, c4, hL4, rfl, ho4, hb4⟩ := own_len h4 (app_bd H.out.bd HEm.out.1); have HL4 := Lib.hid hL4; have HO4 := Lib.hid ho4; have HB4 := Lib.hid hb4; clear ho4 hb4 hL4 h4)
    | (go_at_call 20; refine (putBool_any _ _ c2 zs _ (by omega) _ ((HT2.out.below HB3.out).below HB4.out)).mono ?_; intro e w5 h5; obtain ⟨L5, A5, c5, hL5, rfl, ho5, hb5⟩ := own_len h5 (app_bd H.out.bd (bool_bd _)); have HL5 := Lib.hid hL5; have HB5 := Lib.hid hb5; clear ho5 hb5 hL5 h5))
  trace "MARK1"
  go_loop [11] (fun i => ∃ k : Nat, k ≤ 4 ∧ i = .int .i64 k) (fun i => 4 - (intOf i).toNat)
  case atStart => exact ⟨0, by omega, rfl⟩
  case round =>
    obtain ⟨k, hk, rfl⟩ := hrel
    have hsz2 := HB2.out.size
    have hsz3 := HB3.out.size
    have hsz4 := HB4.out.size
    have hsz5 := HB5.out.size
    by_cases hlt : k < 4
    · obtain ⟨b, o, e, hcell⟩ := seven (((HS2.out.below HB3.out).below HB4.out).below HB5.out) hlt
      injection e with e
      injection e with e1 e2
      subst e1 e2
      have hcell2 : w5.cell? ⟨g2, zs.length + k, none⟩ = some (.int .u8 7) := by rw [Nat.zero_add] at hcell; exact hcell
      clear hsz2 hsz3 hsz4 hsz5
      trace "MARK2"
      go_wp2
      go_round
      case rel => exact ⟨k + 1, by omega, by go_num⟩
      case measure => simp [intOf]; omega
    · obtain rfl : k = 4 := by omega
      have e3 : L3 = zs.length + (C.enc (C.zig n)).length := by rw [HL3.out, List.length_append]
      have e4 : L4 = zs.length + (C.enc (C.zig m)).length := by rw [HL4.out, List.length_append]
      have e5 : L5 = zs.length + 1 := by rw [HL5.out, List.length_append]; rfl
      have b3 := HEn.out.2.2
      have b4 := HEm.out.2.2
      have m3 : ¬ (L3 : Int) < (zs.length : Int) := by omega
      have m4 : ¬ (L4 : Int) < (zs.length : Int) := by omega
      have q5 : ((L5 : Int) == (zs.length : Int) + 1) = true := beq_iff_eq.2 (by omega)
      have qn : (n == n) = true := beq_self_eq_true _
      have qm : (m == m) = true := beq_self_eq_true _
      have l3 : zs.length ≤ L3 := by omega
      have l4 : zs.length ≤ L4 := by omega
      have u3 : L3 - zs.length ≤ 800000 := by omega
      have u4 : L4 - zs.length ≤ 800000 := by omega
      have HX := Lib.hid ((HO3.out.below HB4.out).below HB5.out)
      have HY := Lib.hid (HO4.out.below HB5.out)
      have HBB := Lib.hid (show Below w.heap.size w w5 from ((HB2.out.trans (HB3.out.mono hsz2)).trans (HB4.out.mono (Nat.le_trans hsz2 hsz3))).trans (HB5.out.mono (Nat.le_trans hsz2 (Nat.le_trans hsz3 hsz4))))
      clear e3 e4 b3 b4 hsz2 hsz3 hsz4 hsz5 e5
      trace "MARK3"
      go_wp2_with (first
        | ((with_reducible refine wpList_from rfl rfl A3 L3 c3 (zs ++ C.enc (C.zig n)) _ zs.length ?_ ?_ rfl HX.out l3 ?_); (rfl); (rfl); intro A6 hs6; have HS6 := Lib.hid hs6; clear hs6)
        | ((with_reducible refine wpList_from rfl rfl A4 L4 c4 (zs ++ C.enc (C.zig m)) _ zs.length ?_ ?_ rfl (HY.out.below HB6.out) l4 ?_); (rfl); (rfl); intro A7 hs7; have HS7 := Lib.hid hs7; clear hs7)
        | (go_at_call 22; refine (getInt_any A6 _ _ _ u3 _ HS6.out).mono ?_; intro e w6 hgot; obtain ⟨A8, c8, rfl, hb6⟩ := got_end hgot (gi_enc0 HN.out zs _ rfl); have HB6 := Lib.hid hb6; clear hgot hb6)
        | (go_at_call 22; refine (getInt_any A7 _ _ _ u4 _ HS7.out).mono ?_; intro e w7 hgot; obtain ⟨A9, c9, rfl, hb7⟩ := got_end hgot (gi_enc0 HM.out zs _ rfl); have HB7 := Lib.hid hb7; clear hgot hb7)
        | (go_at_call 10; refine (awake_any _).mono ?_; rintro e wl ⟨rfl, hbl⟩))
      trace "MARK4"
      go_ret
      have s5 := HBB.out.size
      have s6 := HB6.out.size
      have s7 := HB7.out.size
      exact ⟨rfl, ((HBB.out.trans (HB6.out.mono s5)).trans (HB7.out.mono (Nat.le_trans s5 s6))).trans (hbl.mono (Nat.le_trans s5 (Nat.le_trans s6 s7)))⟩
end Go.Proofs.Ytgfodleoollmmaa
