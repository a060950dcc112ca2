/- The walks of addList over integers and PutInts. Bounds: at most 500000 bytes and 5000 elements. -/
import Derived.Test.YtgfodleoollmmaaW6
namespace Go.Proofs.Ytgfodleoollmmaa
open Go.RowKit
set_option linter.unusedVariables false

/-- The slice of integers at `a` has `len` elements, which are `ns`; a nil one has no room. -/
structure Is (w : World) (a : Option Addr) (len cap : Nat) (ns : List Int) : Prop where
  sz : ns.length = len
  bd : ∀ z ∈ ns, C.in64 z
  le : len ≤ cap
  nl : a = none → cap = 0
  cell : 0 < len → ∃ b off, a = some ⟨b, off, none⟩ ∧ b < w.heap.size ∧ ∀ i, i < len → w.cell? ⟨b, off + i, none⟩ = some (.int .i64 (ns.getD i 0))
theorem Is.below {w w' : World} {a : Option Addr} {len cap : Nat} {zs : List Int} (h : Is w a len cap zs) (hb : Below w.heap.size w w') : Is w' a len cap zs :=
  ⟨h.sz, h.bd, h.le, h.nl, fun h0 => by
    obtain ⟨b, off, e, hl, hc⟩ := h.cell h0
    exact ⟨b, off, e, Nat.lt_of_lt_of_le hl hb.size, fun i hi => (hb.cell (p := ⟨b, off + i, none⟩) hl).trans (hc i hi)⟩⟩
theorem Is.under {w w' : World} {a : Option Addr} {len cap B : Nat} {zs : List Int} (h : Is w a len cap zs) (hB : w.heap.size ≤ B) (hb : Below B w w') : Is w' a len cap zs := h.below (hb.mono hB)
theorem Is.int {w : World} {a : Option Addr} {len cap : Nat} {zs : List Int} (h : Is w a len cap zs) {k : Nat} (hk : k < len) :
    ∃ b off, a = some ⟨b, off, none⟩ ∧ ∃ z : Int, zs.getD k 0 = z ∧ C.in64 z ∧ b < w.heap.size ∧ w.cell? ⟨b, off + k, none⟩ = some (.int .i64 z) := by
  obtain ⟨hl, hb, _, _, hc⟩ := h
  obtain ⟨b, off, ha, hlt, hc⟩ := hc (by omega)
  have hm : zs.getD k 0 ∈ zs := by
    rw [List.getD_eq_getElem?_getD, List.getElem?_eq_getElem (by omega)]; simp
  exact ⟨b, off, ha, _, rfl, hb _ hm, hlt, hc k hk⟩

theorem own_fin {B : Nat} {w w' : World} {A : Option Addr} {n c : Nat} {ys zs : List Int} (he : ys = zs) (ho : Own w' B (.slice A ys.length c) ys) (hb : Below B w w') (hn : n = ys.length) : OwnPost B w zs (.returned (.slice A n c)) w' := by
  subst he hn
  exact ⟨A, c, rfl, ho, hb⟩
/-- The bytes of integers, one behind the other. -/
def encs (ns : List Int) : List Int := (ns.map fun n => C.enc (C.zig n)).flatten
theorem encs_snoc (ns : List Int) (n : Int) : encs (ns ++ [n]) = encs ns ++ C.enc (C.zig n) := by simp [encs]
theorem encs_len (ns : List Int) (h : ∀ z ∈ ns, C.in64 z) : (encs ns).length ≤ 11 * ns.length ∧ ∀ z ∈ encs ns, 0 ≤ z ∧ z ≤ 255 := by
  induction ns with
  | nil => simp [encs]
  | cons n ns ih =>
    have ih := ih (fun z hz => h z (by simp [hz]))
    have hb := C.enc_bd (C.zig_lt (h n (by simp)))
    have e : encs (n :: ns) = C.enc (C.zig n) ++ encs ns := rfl
    rw [e]
    refine ⟨by rw [List.length_append, List.length_cons]; omega, fun z hz => ?_⟩
    rcases List.mem_append.1 hz with hz | hz
    · exact hb.1 z hz
    · exact ih.2 z hz
theorem take_snoc {zs : List Int} {k : Nat} {z : Int} (hk : k < zs.length) (hz : zs.getD k 0 = z) : zs.take (k + 1) = zs.take k ++ [z] := by
  rw [List.take_succ_eq_append_getElem hk, ← hz, List.getD_eq_getElem?_getD, List.getElem?_eq_getElem hk]; rfl
theorem in_len (n : Nat) (h : n ≤ 1000000) : C.in64 (n : Int) := by rw [C.in64_iff]; omega

set_option maxHeartbeats 800000 in
theorem addInts_any (B : Nat) (A : Option Addr) (c : Nat) (zs : List Int) (a : Option Addr) (len cap : Nat) (ns : List Int) (w : World) (hown : Own w B (.slice A zs.length c) zs) (hB : B ≤ w.heap.size) (hz : zs.length ≤ 500000) (hn : Is w a len cap ns) (hln : len ≤ 5000)
    (hlow : 0 < len → ∃ b off, a = some ⟨b, off, none⟩ ∧ b < B) :
    Calls Try.prog 38 #[.slice A zs.length c, .slice a len cap, .func (.func 34) #[] #[]] w (OwnPost B w (zs ++ C.enc (C.zig (len : Int)) ++ encs ns)) := by
  have HO := Lib.hid hown
  have HN := Lib.hid hn
  have HL := Lib.hid hlow
  have HLen := Lib.hid hn.sz
  have hlb := (C.enc_bd (C.zig_lt (in_len len (by omega)))).2.2
  clear hown hn hlow
  go_enter Try.func38, Try.ntmps38
  go_wp2_with (go_at_call 34; refine (addInt_any _ (in_len len (by omega)) B A c zs _ HO.out hB (by omega)).mono ?_; rintro e w1 ⟨A1, c1, rfl, ho1, hb1⟩; have HO1 := Lib.hid ho1; have HB1 := Lib.hid hb1; clear ho1 hb1)
  go_loopw [0, 8, 15] (fun v _ i wr => ∃ (A : Option Addr) (c k : Nat) (ys : List Int), k ≤ len ∧ v = .slice A ys.length c ∧ i = .int .i64 k ∧ ys.length ≤ zs.length + 11 + 11 * k ∧ Hid (ys = zs ++ C.enc (C.zig (len : Int)) ++ encs (ns.take k)) ∧ Hid (Own wr B (.slice A ys.length c) ys) ∧ Hid (Below B w wr)) (fun _ _ i _ => len - (intOf i).toNat)
  case atStart => exact ⟨A1, c1, 0, zs ++ C.enc (C.zig (len : Int)), Nat.zero_le _, by first | rfl | rw [List.length_append], rfl, by rw [List.length_append]; omega, Lib.hid (by simp [encs]), HO1, HB1⟩
  case round =>
    obtain ⟨A2, c2, k, ys, hk, rfl, rfl, hyl, HY, HO2, HB2⟩ := hrel
    by_cases hlt : k < len
    · obtain ⟨b, o, rfl, z, hzk, hz64, hbl, hcell0⟩ := HN.out.int hlt
      have hbB : b < B := by
        obtain ⟨b', o', e, hl⟩ := HL.out (by omega)
        injection e with e
        injection e with e1
        subst e1
        exact hl
      have hcell := (HB2.out.cell (p := ⟨b, o + k, none⟩) hbB).trans hcell0
      have HZ := Lib.hid hz64
      have HE := Lib.hid (C.enc_bd (C.zig_lt hz64))
      have HS := Lib.hid (show ys ++ C.enc (C.zig z) = zs ++ C.enc (C.zig (len : Int)) ++ encs (ns.take (k + 1)) by rw [take_snoc (by rw [HLen.out]; exact hlt) hzk, encs_snoc, HY.out]; simp only [List.append_assoc])
      have hBw := HB2.out.size
      clear hcell0 hzk hz64
      go_wp2_with (go_at_call 34; refine (addInt_any _ HZ.out B A2 c2 ys _ HO2.out (by omega) (by omega)).mono ?_; rintro e w3 ⟨A3, c3, rfl, ho3, hb3⟩; have HO3 := Lib.hid ho3; have HB3 := Lib.hid (HB2.out.trans hb3); clear ho3 hb3)
      go_roundw
      case rel => exact ⟨A3, c3, k + 1, ys ++ C.enc (C.zig z), by omega, by first | rfl | rw [List.length_append], by go_num, by rw [List.length_append]; have := HE.out.2.2; omega, HS, HO3, HB3⟩
      case measure => simp [intOf]; omega
    · have hF : ys = zs ++ C.enc (C.zig (len : Int)) ++ encs ns := by rw [HY.out, List.take_of_length_le (by rw [HLen.out]; omega)]
      have HF := Lib.hid hF
      clear hF
      go_wp2
      go_ret
      exact own_fin HF.out HO2.out HB2.out rfl

set_option maxHeartbeats 800000 in
theorem putInts_any (a : Option Addr) (len cap : Nat) (zs : List Int) (a2 : Option Addr) (len2 cap2 : Nat) (ns : List Int) (hl : len ≤ 400000) (hl2 : len2 ≤ 5000) (w : World) (h : Sl w a len cap zs) (hn : Is w a2 len2 cap2 ns) :
    Calls Try.prog 16 #[.slice a len cap, .slice a2 len2 cap2] w (OwnPost w.heap.size w (zs ++ C.enc (C.zig (len2 : Int)) ++ encs ns)) := by
  have H := Lib.hid h
  have HN := Lib.hid hn
  have hz := h.sz
  have HLow := Lib.hid (show 0 < len2 → ∃ b off, a2 = some ⟨b, off, none⟩ ∧ b < w.heap.size from fun h0 => by obtain ⟨b, o, e, hl, _⟩ := hn.cell h0; exact ⟨b, o, e, hl⟩)
  subst hz
  clear h hn
  go_enter Try.func16, Try.ntmps16
  go_wp2_with (first
    | (go_at_call 35; refine (copied_any a _ cap zs (by omega) _ H.out).mono ?_; rintro e w1 ⟨A1, c1, rfl, ho1, hb1⟩; have HO := Lib.hid ho1; have HB := Lib.hid hb1; clear ho1 hb1)
    | (go_at_call 38; refine (addInts_any w.heap.size A1 c1 zs a2 len2 cap2 ns _ HO.out HB.out.size (by omega) (HN.out.below HB.out) hl2 HLow.out).mono ?_; rintro e w2 ⟨A2, c2, rfl, ho2, hb2⟩; have HO2 := Lib.hid ho2; have HB2 := Lib.hid (HB.out.trans hb2); clear ho2 hb2))
  go_ret
  exact own_fin rfl HO2.out HB2.out (by simp only [List.length_append]; omega)
end Go.Proofs.Ytgfodleoollmmaa
