/- The walks of addInt, Int, PutInt, PutBool and SameBytes. Bounds: at most a million bytes. -/
import Derived.Test.YtgfodleoollmmaaW1
namespace Go.Proofs.Ytgfodleoollmmaa
open Go.RowKit
set_option linter.unusedVariables false

theorem new_cell (w : World) (C : Array Value) (t : TypeId) (f : Nat × Nat) (j : Nat) : (w.alloc (.cells C t f)).cell? ⟨w.heap.size, j, none⟩ = C[j]? := by
  have := cell_of_row (w.alloc (.cells C t f)) w.heap.size j C t f (heap_alloc_new w _)
  simpa using this
theorem sl_one (w : World) (z : Int) (h0 : 0 ≤ z) (h1 : z ≤ 255) (c : Nat) (hc : 1 ≤ c) (t : TypeId) (f : Nat × Nat) : Sl (w.alloc (.cells #[.int .u8 z] t f)) (some ⟨w.heap.size, 0, none⟩) 1 c [z] :=
  ⟨rfl, by simp; omega, hc, (fun h => by cases h), fun _ => ⟨w.heap.size, 0, rfl, by simp, fun i hi => by
    rw [new_cell]
    obtain rfl : i = 0 := by omega
    rfl⟩⟩
theorem Own.alloc {w : World} {B : Nat} {v : Value} {zs : List Int} (h : Own w B v zs) (o : Obj) : Own (w.alloc o) B v zs := World.ownsRow.alloc h o

/-- One append of a single byte. -/
theorem app_byte {w : World} {ops : Array Oper} {rest : List Oper} {o : Oper} {a : Act} {Q : Exit → Act → World → Prop} (hgd : o.guard = none) (s x : Operand)
    (ho : o.op = .call { callee := .builtin .append, args := #[s, x], argTypes := #[22, 22] }) {B : Nat}
    (v : Value) (xs : List Int) (hs : a.eval s = v) (hown : Own w B v xs) (hB : B ≤ w.heap.size) (z : Int) (hz : 0 ≤ z ∧ z ≤ 255) (t : TypeId) (f : Nat × Nat)
    (hx : a.eval x = .slice (some ⟨w.heap.size, 0, none⟩) 1 1) (hn : xs.length ≤ 999000)
    (h : ∀ v' w', Own w' B v' (xs ++ [z]) → Below B w w' → wpList Try.prog ops Q rest (a.put o.dst v') w') : wpList Try.prog ops Q (o :: rest) a (w.alloc (.cells #[.int .u8 z] t f)) :=
  app_bytes hgd s x ho v xs hs (hown.alloc _) (by simp; omega) _ 1 1 [z] hx (sl_one w z hz.1 hz.2 1 (Nat.le_refl _) t f) (by omega) fun v' w' h1 h2 => h v' w' h1 (((Below.refl B w).alloc hB _).trans h2)

theorem or128 (r : Nat) : bits .or .u8 ((r : Int) % 256) 128 = ((r % 128 + 128 : Nat) : Int) := by
  have e : (r : Int) % 256 = ((r % 256 : Nat) : Int) := by omega
  have h1 : (BitVec.ofInt 8 ((r % 256 : Nat) : Int)).toNat = r % 256 := by rw [BitVec.ofInt_natCast, BitVec.toNat_ofNat]; exact Nat.mod_eq_of_lt (by omega)
  have h2 : (BitVec.ofInt 8 (128 : Int)).toNat = 128 := by decide
  rw [e]
  show IntKind.u8.wrap ((BitVec.ofInt 8 ((r % 256 : Nat) : Int) ||| BitVec.ofInt 8 128).toNat : Int) = _
  rw [BitVec.toNat_or, h1, h2, IntKind.wrap_u8]
  have h3 : ∀ x : Fin 256, (x.val ||| 128) % 256 = x.val % 128 + 128 := by decide +kernel
  have h4 := h3 ⟨r % 256, by omega⟩
  simp only at h4
  omega
theorem u64_div {r : Nat} (h : C.lt64 r) : IntKind.u64.wrap ((r : Int) / 128) = (r : Int) / 128 := by
  have := (C.lt64_iff r).1 h
  rw [IntKind.wrap_u64]; omega
theorem u8_small (r : Nat) (h : r < 256) : IntKind.u8.wrap (r : Int) = (r : Int) := by rw [IntKind.wrap_u8]; omega

set_option maxRecDepth 100000 in
set_option maxHeartbeats 800000 in
theorem addInt_pos (n : Int) (h0 : 0 ≤ n) (h1 : n ≤ 9223372036854775807) (B : Nat) (A : Option Addr) (c : Nat) (zs : List Int) (w : World) (hown : Own w B (.slice A zs.length c) zs) (hB : B ≤ w.heap.size) (hz : zs.length ≤ 900000) :
    Calls Try.prog 34 #[.slice A zs.length c, .int .i64 n] w (OwnPost B w (zs ++ C.enc (C.zig n))) := by
  have HO := Lib.hid hown
  have HZ := Lib.hid (C.zig_lt ((C.in64_iff n).2 (by omega)))
  have hor := C.zig_own h0 h1
  obtain ⟨u, hu⟩ : ∃ u, u = C.zig n := ⟨_, rfl⟩
  rw [← hu] at hor HZ ⊢
  clear hown hu
  go_enter Try.func34, Try.ntmps34
  go_wp2
  clear hor
  go_loopw [0, 5] (fun v x wr => ∃ (A : Option Addr) (c : Nat) (ys : List Int) (r : Nat), v = .slice A ys.length c ∧ x = .int .u64 r ∧ ys.length ≤ zs.length + 11 ∧ Hid (C.lt64 r) ∧ Hid (ys ++ C.enc r = zs ++ C.enc u) ∧ Hid (Own wr B (.slice A ys.length c) ys) ∧ Hid (Below B w wr)) (fun _ x _ => (intOf x).toNat)
  case atStart => exact ⟨A, c, zs, u, rfl, rfl, by omega, HZ, Lib.hid rfl, HO, Lib.hid (Below.refl _ _)⟩
  case round =>
    obtain ⟨A, c, ys, r, rfl, rfl, hy, HR, HE, HOy, HB⟩ := hrel
    have hBr := HB.out.size
    by_cases h : r < 128
    · have HF := Lib.hid (show ys ++ [(r : Int)] = zs ++ C.enc u by rw [← HE.out, C.enc_small h])
      go_wp2_with (at_builtin; (with_reducible refine app_byte rfl (.tmp 23) (.tmp 26) ?_ _ ys ?_ HOy.out (by omega) _ ?_ _ _ ?_ (by omega) ?_); (rfl); (rfl); (omega); (rfl); intro v1 w1 hown1 hb1; rw [HF.out] at hown1; have HP := Lib.hid (own_post hown1 (HB.out.trans hb1)); clear hown1 hb1)
      go_ret
      exact HP.out
    · obtain ⟨q, hq⟩ : ∃ q : Nat, q = r % 128 + 128 := ⟨_, rfl⟩
      have hor := or128 r
      rw [← hq] at hor
      have hq1 : q ≤ 255 := by omega
      have hlen := congrArg List.length HE.out
      rw [List.length_append, List.length_append] at hlen
      have hrl := (C.enc_bd HR.out).2.1
      have hrl2 := (C.enc_bd (C.lt64_div HR.out)).2.1
      have hul := (C.enc_bd HZ.out).2.2
      have heb := congrArg List.length (C.enc_big h HR.out)
      rw [List.length_cons] at heb
      have HE2 := Lib.hid (show (ys ++ [(q : Int)]) ++ C.enc (r / 128) = zs ++ C.enc u by rw [← HE.out, C.enc_big h HR.out, ← hq, List.append_assoc]; rfl)
      have hyl : ys.length + 1 ≤ zs.length + 11 := by omega
      clear hq hlen hrl hrl2 hul heb
      go_wp2_with (at_builtin; (with_reducible refine app_byte rfl (.tmp 15) (.tmp 19) ?_ _ ys ?_ HOy.out (by omega) _ ?_ _ _ ?_ (by omega) ?_); (rfl); (rfl); (omega); (rfl); intro v1 w1 hown1 hb1; obtain ⟨A1, c1, rfl⟩ := own_shape hown1; have HO1 := Lib.hid hown1; have HB1 := Lib.hid (HB.out.trans hb1); clear hown1 hb1)
      go_roundw
      case rel => exact ⟨A1, c1, ys ++ [(q : Int)], r / 128, by rw [List.length_append]; rfl, by go_num, by rw [List.length_append]; exact hyl, Lib.hid (C.lt64_div HR.out), HE2, HO1, HB1⟩
      case measure => simp [intOf]; omega

set_option maxRecDepth 100000 in
set_option maxHeartbeats 800000 in
theorem addInt_neg (n : Int) (h0 : n < 0) (h1 : -9223372036854775808 ≤ n) (B : Nat) (A : Option Addr) (c : Nat) (zs : List Int) (w : World) (hown : Own w B (.slice A zs.length c) zs) (hB : B ≤ w.heap.size) (hz : zs.length ≤ 900000) :
    Calls Try.prog 34 #[.slice A zs.length c, .int .i64 n] w (OwnPost B w (zs ++ C.enc (C.zig n))) := by
  have HO := Lib.hid hown
  have HZ := Lib.hid (C.zig_lt ((C.in64_iff n).2 (by omega)))
  have hor := C.zig_own_neg h0 h1
  obtain ⟨u, hu⟩ : ∃ u, u = C.zig n := ⟨_, rfl⟩
  rw [← hu] at hor HZ ⊢
  clear hown hu
  go_enter Try.func34, Try.ntmps34
  go_wp2
  clear hor
  go_loopw [0, 5] (fun v x wr => ∃ (A : Option Addr) (c : Nat) (ys : List Int) (r : Nat), v = .slice A ys.length c ∧ x = .int .u64 r ∧ ys.length ≤ zs.length + 11 ∧ Hid (C.lt64 r) ∧ Hid (ys ++ C.enc r = zs ++ C.enc u) ∧ Hid (Own wr B (.slice A ys.length c) ys) ∧ Hid (Below B w wr)) (fun _ x _ => (intOf x).toNat)
  case atStart => exact ⟨A, c, zs, u, rfl, rfl, by omega, HZ, Lib.hid rfl, HO, Lib.hid (Below.refl _ _)⟩
  case round =>
    obtain ⟨A, c, ys, r, rfl, rfl, hy, HR, HE, HOy, HB⟩ := hrel
    have hBr := HB.out.size
    by_cases h : r < 128
    · have HF := Lib.hid (show ys ++ [(r : Int)] = zs ++ C.enc u by rw [← HE.out, C.enc_small h])
      go_wp2_with (at_builtin; (with_reducible refine app_byte rfl (.tmp 23) (.tmp 26) ?_ _ ys ?_ HOy.out (by omega) _ ?_ _ _ ?_ (by omega) ?_); (rfl); (rfl); (omega); (rfl); intro v1 w1 hown1 hb1; rw [HF.out] at hown1; have HP := Lib.hid (own_post hown1 (HB.out.trans hb1)); clear hown1 hb1)
      go_ret
      exact HP.out
    · obtain ⟨q, hq⟩ : ∃ q : Nat, q = r % 128 + 128 := ⟨_, rfl⟩
      have hor := or128 r
      rw [← hq] at hor
      have hq1 : q ≤ 255 := by omega
      have hlen := congrArg List.length HE.out
      rw [List.length_append, List.length_append] at hlen
      have hrl := (C.enc_bd HR.out).2.1
      have hrl2 := (C.enc_bd (C.lt64_div HR.out)).2.1
      have hul := (C.enc_bd HZ.out).2.2
      have heb := congrArg List.length (C.enc_big h HR.out)
      rw [List.length_cons] at heb
      have HE2 := Lib.hid (show (ys ++ [(q : Int)]) ++ C.enc (r / 128) = zs ++ C.enc u by rw [← HE.out, C.enc_big h HR.out, ← hq, List.append_assoc]; rfl)
      have hyl : ys.length + 1 ≤ zs.length + 11 := by omega
      clear hq hlen hrl hrl2 hul heb
      go_wp2_with (at_builtin; (with_reducible refine app_byte rfl (.tmp 15) (.tmp 19) ?_ _ ys ?_ HOy.out (by omega) _ ?_ _ _ ?_ (by omega) ?_); (rfl); (rfl); (omega); (rfl); intro v1 w1 hown1 hb1; obtain ⟨A1, c1, rfl⟩ := own_shape hown1; have HO1 := Lib.hid hown1; have HB1 := Lib.hid (HB.out.trans hb1); clear hown1 hb1)
      go_roundw
      case rel => exact ⟨A1, c1, ys ++ [(q : Int)], r / 128, by rw [List.length_append]; rfl, by go_num, by rw [List.length_append]; exact hyl, Lib.hid (C.lt64_div HR.out), HE2, HO1, HB1⟩
      case measure => simp [intOf]; omega

set_option maxRecDepth 100000 in
set_option maxHeartbeats 800000 in
theorem rint_pos (n : Int) (h0 : 0 ≤ n) (h1 : n ≤ 9223372036854775807) (w : World) :
    Calls Try.prog 36 #[.int .i64 n] w (OwnPost w.heap.size w (C.enc (C.zig n))) := by
  have HZ := Lib.hid (C.zig_lt ((C.in64_iff n).2 (by omega)))
  have hor := C.zig_ref h0
  obtain ⟨u, hu⟩ : ∃ u, u = C.zig n := ⟨_, rfl⟩
  rw [← hu] at hor HZ ⊢
  clear hu
  go_enter Try.func36, Try.ntmps36
  go_wp2
  clear hor
  go_loopw [3, 4] (fun x v wr => ∃ (A : Option Addr) (c : Nat) (ys : List Int) (r : Nat), v = .slice A ys.length c ∧ x = .int .u64 r ∧ ys.length ≤ 11 ∧ Hid (C.lt64 r) ∧ Hid (ys ++ C.enc r = C.enc u) ∧ Hid (Own wr w.heap.size (.slice A ys.length c) ys) ∧ Hid (Below w.heap.size w wr)) (fun x _ _ => (intOf x).toNat)
  case atStart => exact ⟨none, 0, [], u, rfl, rfl, by simp, HZ, Lib.hid rfl, Lib.hid (World.ownsRow_nil _ _ _ _), Lib.hid (Below.refl _ _)⟩
  case round =>
    obtain ⟨A, c, ys, r, rfl, rfl, hy, HR, HE, HOy, HB⟩ := hrel
    have hBr := HB.out.size
    by_cases h : r < 128
    · have HF := Lib.hid (show ys ++ [(r : Int)] = C.enc u by rw [← HE.out, C.enc_small h])
      go_wp2_with (at_builtin; (with_reducible refine app_byte rfl (.tmp 23) (.tmp 26) ?_ _ ys ?_ HOy.out (by omega) _ ?_ _ _ ?_ (by omega) ?_); (rfl); (rfl); (omega); (rfl); intro v1 w1 hown1 hb1; rw [HF.out] at hown1; have HP := Lib.hid (own_post hown1 (HB.out.trans hb1)); clear hown1 hb1)
      go_ret
      exact HP.out
    · have hlen := congrArg List.length HE.out
      rw [List.length_append] at hlen
      have hrl := (C.enc_bd HR.out).2.1
      have hrl2 := (C.enc_bd (C.lt64_div HR.out)).2.1
      have hul := (C.enc_bd HZ.out).2.2
      have heb := congrArg List.length (C.enc_big h HR.out)
      rw [List.length_cons] at heb
      have HE2 := Lib.hid (show (ys ++ [((r % 128 + 128 : Nat) : Int)]) ++ C.enc (r / 128) = C.enc u by rw [← HE.out, C.enc_big h HR.out, List.append_assoc]; rfl)
      have hyl : ys.length + 1 ≤ 11 := by omega
      have hcast : (r : Int) % 128 + 128 = ((r % 128 + 128 : Nat) : Int) := by omega
      have HC := Lib.hid hcast
      have hwd := u64_div HR.out
      clear hlen hrl hrl2 hul heb hcast
      go_wp2_with (at_builtin; (with_reducible refine app_byte rfl (.tmp 14) (.tmp 19) ?_ _ ys ?_ HOy.out (by omega) _ ?_ _ _ ?_ (by omega) ?_); (rfl); (rfl); (omega); (rfl); intro v1 w1 hown1 hb1; rw [HC.out] at hown1; obtain ⟨A1, c1, rfl⟩ := own_shape hown1; have HO1 := Lib.hid hown1; have HB1 := Lib.hid (HB.out.trans hb1); clear hown1 hb1)
      go_roundw
      case rel => exact ⟨A1, c1, _, r / 128, by rw [List.length_append]; rfl, by go_num, by rw [List.length_append]; exact hyl, Lib.hid (C.lt64_div HR.out), HE2, HO1, HB1⟩
      case measure => simp [intOf]; omega

set_option maxRecDepth 100000 in
set_option maxHeartbeats 800000 in
theorem rint_neg (n : Int) (h0 : n < 0) (h1 : -9223372036854775808 ≤ n) (w : World) :
    Calls Try.prog 36 #[.int .i64 n] w (OwnPost w.heap.size w (C.enc (C.zig n))) := by
  have HZ := Lib.hid (C.zig_lt ((C.in64_iff n).2 (by omega)))
  have hor := C.zig_ref_neg h0 h1
  obtain ⟨u, hu⟩ : ∃ u, u = C.zig n := ⟨_, rfl⟩
  rw [← hu] at hor HZ ⊢
  clear hu
  go_enter Try.func36, Try.ntmps36
  go_wp2
  clear hor
  go_loopw [3, 4] (fun x v wr => ∃ (A : Option Addr) (c : Nat) (ys : List Int) (r : Nat), v = .slice A ys.length c ∧ x = .int .u64 r ∧ ys.length ≤ 11 ∧ Hid (C.lt64 r) ∧ Hid (ys ++ C.enc r = C.enc u) ∧ Hid (Own wr w.heap.size (.slice A ys.length c) ys) ∧ Hid (Below w.heap.size w wr)) (fun x _ _ => (intOf x).toNat)
  case atStart => exact ⟨none, 0, [], u, rfl, rfl, by simp, HZ, Lib.hid rfl, Lib.hid (World.ownsRow_nil _ _ _ _), Lib.hid (Below.refl _ _)⟩
  case round =>
    obtain ⟨A, c, ys, r, rfl, rfl, hy, HR, HE, HOy, HB⟩ := hrel
    have hBr := HB.out.size
    by_cases h : r < 128
    · have HF := Lib.hid (show ys ++ [(r : Int)] = C.enc u by rw [← HE.out, C.enc_small h])
      go_wp2_with (at_builtin; (with_reducible refine app_byte rfl (.tmp 23) (.tmp 26) ?_ _ ys ?_ HOy.out (by omega) _ ?_ _ _ ?_ (by omega) ?_); (rfl); (rfl); (omega); (rfl); intro v1 w1 hown1 hb1; rw [HF.out] at hown1; have HP := Lib.hid (own_post hown1 (HB.out.trans hb1)); clear hown1 hb1)
      go_ret
      exact HP.out
    · have hlen := congrArg List.length HE.out
      rw [List.length_append] at hlen
      have hrl := (C.enc_bd HR.out).2.1
      have hrl2 := (C.enc_bd (C.lt64_div HR.out)).2.1
      have hul := (C.enc_bd HZ.out).2.2
      have heb := congrArg List.length (C.enc_big h HR.out)
      rw [List.length_cons] at heb
      have HE2 := Lib.hid (show (ys ++ [((r % 128 + 128 : Nat) : Int)]) ++ C.enc (r / 128) = C.enc u by rw [← HE.out, C.enc_big h HR.out, List.append_assoc]; rfl)
      have hyl : ys.length + 1 ≤ 11 := by omega
      have hcast : (r : Int) % 128 + 128 = ((r % 128 + 128 : Nat) : Int) := by omega
      have HC := Lib.hid hcast
      have hwd := u64_div HR.out
      clear hlen hrl hrl2 hul heb hcast
      go_wp2_with (at_builtin; (with_reducible refine app_byte rfl (.tmp 14) (.tmp 19) ?_ _ ys ?_ HOy.out (by omega) _ ?_ _ _ ?_ (by omega) ?_); (rfl); (rfl); (omega); (rfl); intro v1 w1 hown1 hb1; rw [HC.out] at hown1; obtain ⟨A1, c1, rfl⟩ := own_shape hown1; have HO1 := Lib.hid hown1; have HB1 := Lib.hid (HB.out.trans hb1); clear hown1 hb1)
      go_roundw
      case rel => exact ⟨A1, c1, _, r / 128, by rw [List.length_append]; rfl, by go_num, by rw [List.length_append]; exact hyl, Lib.hid (C.lt64_div HR.out), HE2, HO1, HB1⟩
      case measure => simp [intOf]; omega

theorem addInt_any (n : Int) (hn : C.in64 n) (B : Nat) (A : Option Addr) (c : Nat) (zs : List Int) (w : World) (hown : Own w B (.slice A zs.length c) zs) (hB : B ≤ w.heap.size) (hz : zs.length ≤ 900000) :
    Calls Try.prog 34 #[.slice A zs.length c, .int .i64 n] w (OwnPost B w (zs ++ C.enc (C.zig n))) := by
  have h := (C.in64_iff n).1 hn
  rcases Int.lt_or_le n 0 with h0 | h0
  · exact addInt_neg n h0 h.1 B A c zs w hown hB hz
  · exact addInt_pos n h0 h.2 B A c zs w hown hB hz
theorem rint_any (n : Int) (hn : C.in64 n) (w : World) : Calls Try.prog 36 #[.int .i64 n] w (OwnPost w.heap.size w (C.enc (C.zig n))) := by
  have h := (C.in64_iff n).1 hn
  rcases Int.lt_or_le n 0 with h0 | h0
  · exact rint_neg n h0 h.1 w
  · exact rint_pos n h0 h.2 w
end Go.Proofs.Ytgfodleoollmmaa
