/- The walks of addText, PutText, addList over strings and PutTexts. Bounds: at most some hundred thousand bytes. -/
import Derived.Test.YtgfodleoollmmaaW12
import Derived.Lib.AppendStr
namespace Go.Proofs.Ytgfodleoollmmaa
open Go.RowKit
set_option linter.unusedVariables false

/-- The bytes of a string. -/
def byt (s : ByteArray) : List Int := s.data.toList.map fun b => (b.toNat : Int)
theorem byt_len (s : ByteArray) : (byt s).length = s.size := by
  unfold byt
  rw [List.length_map, Array.length_toList]; rfl
theorem byt_bd (s : ByteArray) : ∀ z ∈ byt s, 0 ≤ z ∧ z ≤ 255 := by
  intro z hz
  simp only [byt, List.mem_map] at hz
  obtain ⟨b, _, rfl⟩ := hz
  have := b.toNat_lt
  omega
theorem strCells_byt (s : ByteArray) : Lib.strCells s = (byt s).map (Value.int .u8) := by
  unfold Lib.strCells byt
  rw [List.map_map]; rfl
theorem byt_str {zs : List Int} (hb : ∀ z ∈ zs, 0 ≤ z ∧ z ≤ 255) : byt (strOfNums zs) = zs := by
  unfold byt strOfNums
  simp only [List.map_map]
  conv => rhs; rw [← List.map_id zs]
  refine List.map_congr_left fun z hz => ?_
  have := hb z hz
  simp only [Function.comp, id, UInt8.toNat_ofNat']
  omega

/-- One append of a string's bytes to a row of the call's own. -/
theorem app_str {w : World} {ops : Array Oper} {rest : List Oper} {o : Oper} {a : Act} {Q : Exit → Act → World → Prop} (hgd : o.guard = none) (sl x : Operand)
    (ho : o.op = .call { callee := .builtin .append, args := #[sl, x], argTypes := #[22, 9] }) {B : Nat}
    (v : Value) (xs : List Int) (hs : a.eval sl = v) (hown : Own w B v xs) (hB : B ≤ w.heap.size) (s : ByteArray) (hx : a.eval x = .string s) (hn : xs.length + s.size ≤ 1000000)
    (h : ∀ v' w', Own w' B v' (xs ++ byt s) → Below B w w' → wpList Try.prog ops Q rest (a.put o.dst v') w') : wpList Try.prog ops Q (o :: rest) a w := by
  obtain ⟨i0, hi0, hz0, hz1, hz2⟩ := info_parts info5
  refine Lib.wpList_append_own_string w hgd sl x 22 9 ho B 5 i0 Try.underlying22 Try.underlying9 hi0 hz0 hz1 hz2 v xs.length _ hs hown s hx (by unfold maxLen; omega) (by omega) hB ?_
  intro v' w' hown' hg _
  refine h v' w' ?_ ((Below.refl B w).grown hg hB (fun k hk => (hown.lt k hk).1))
  show w'.ownsRow B 5 1 v' (xs ++ byt s).length ((xs ++ byt s).map (Value.int .u8))
  rw [List.map_append, List.length_append, byt_len, ← strCells_byt]
  exact hown'

/-- The encoding of a string, and of strings one behind the other. -/
def ent (s : ByteArray) : List Int := C.enc (C.zig (s.size : Int)) ++ byt s
def ents (ss : List ByteArray) : List Int := (ss.map ent).flatten
theorem ents_snoc (ss : List ByteArray) (s : ByteArray) : ents (ss ++ [s]) = ents ss ++ ent s := by simp [ents]
theorem ents_cons (ss : List ByteArray) (s : ByteArray) : ents (s :: ss) = ent s ++ ents ss := rfl
theorem ent_bd {s : ByteArray} (h : Small s) : (∀ z ∈ ent s, 0 ≤ z ∧ z ≤ 255) ∧ (ent s).length = (C.enc (C.zig (s.size : Int))).length + s.size := by
  unfold Small at h
  have hb := C.enc_bd (C.zig_lt (in_len s.size h))
  refine ⟨fun z hz => ?_, by unfold ent; rw [List.length_append, byt_len]⟩
  rcases List.mem_append.1 hz with hz | hz
  · exact hb.1 z hz
  · exact byt_bd s z hz
theorem ents_bd {ss : List ByteArray} (h : ∀ s ∈ ss, Small s) : ∀ z ∈ ents ss, 0 ≤ z ∧ z ≤ 255 := by
  induction ss with
  | nil => simp [ents]
  | cons s ss ih =>
    intro z hz
    rw [ents_cons] at hz
    rcases List.mem_append.1 hz with hz | hz
    · exact (ent_bd (h s (by simp))).1 z hz
    · exact ih (fun t ht => h t (by simp [ht])) z hz
theorem ents_take {ss : List ByteArray} (k : Nat) : (ents (ss.take k)).length ≤ (ents ss).length := by
  have e : ents ss = ents (ss.take k) ++ ents (ss.drop k) := by
    unfold ents
    rw [← List.flatten_append, ← List.map_append, List.take_append_drop]
  rw [e, List.length_append]
  omega
theorem take_snocT {zs : List ByteArray} {k : Nat} {z : ByteArray} (hk : k < zs.length) (hz : zs.getD k ⟨#[]⟩ = z) : zs.take (k + 1) = zs.take k ++ [z] := by
  rw [List.take_succ_eq_append_getElem hk, ← hz, List.getD_eq_getElem?_getD, List.getElem?_eq_getElem hk]; rfl

set_option maxHeartbeats 400000 in
theorem addText_any (s : ByteArray) (hs : Small s) (B : Nat) (A : Option Addr) (c : Nat) (zs : List Int) (w : World) (hown : Own w B (.slice A zs.length c) zs) (hB : B ≤ w.heap.size) (hz : zs.length + s.size ≤ 900000) :
    Calls Try.prog 37 #[.slice A zs.length c, .string s] w (OwnPost B w (zs ++ ent s)) := by
  have HO := Lib.hid hown
  unfold Small at hs
  have hlb := (C.enc_bd (C.zig_lt (in_len s.size hs))).2.2
  have HE := Lib.hid (show (zs ++ C.enc (C.zig (s.size : Int))) ++ byt s = zs ++ ent s by unfold ent; rw [List.append_assoc])
  have hl2 : (zs ++ C.enc (C.zig (s.size : Int))).length + s.size ≤ 1000000 := by rw [List.length_append]; omega
  have HL2 := Lib.hid hl2
  clear hown hl2
  go_enter Try.func37, Try.ntmps37
  go_wp2_with (first
    | (go_at_call 34; refine (addInt_any _ (in_len s.size hs) B A c zs _ HO.out hB (by omega)).mono ?_; rintro e w1 ⟨A1, c1, rfl, ho1, hb1⟩; have HO1 := Lib.hid ho1; have HB1 := Lib.hid hb1; clear ho1 hb1)
    | (at_builtin; (refine app_str rfl (.tmp 8) (.tmp 9) ?_ (B := B) (.slice A1 (zs ++ C.enc (C.zig (s.size : Int))).length c1) (zs ++ C.enc (C.zig (s.size : Int))) ?_ HO1.out (Nat.le_trans hB HB1.out.size) s ?_ HL2.out ?_); (rfl); (simp [Act.eval]); (rfl); intro v3 w3 ho3 hb3; rw [HE.out] at ho3; have HP := Lib.hid (own_post ho3 (HB1.out.trans hb3)); clear ho3 hb3))
  go_ret
  exact HP.out

set_option maxHeartbeats 400000 in
theorem putText_any (a : Option Addr) (len cap : Nat) (zs : List Int) (s : ByteArray) (hs : Small s) (hl : len + s.size ≤ 800000) (w : World) (h : Sl w a len cap zs) :
    Calls Try.prog 14 #[.slice a len cap, .string s] w (OwnPost w.heap.size w (zs ++ ent s)) := by
  have H := Lib.hid h
  have hz := h.sz
  subst hz
  clear h
  go_enter Try.func14, Try.ntmps14
  go_wp2_with (first
    | (go_at_call 35; refine (copied_any a _ cap zs (by omega) _ H.out).mono ?_; rintro e w1 ⟨A1, c1, rfl, ho1, hb1⟩; have HO := Lib.hid ho1; have HB := Lib.hid hb1; clear ho1 hb1)
    | (go_at_call 37; refine (addText_any s hs w.heap.size A1 c1 zs _ HO.out HB.out.size (by omega)).mono ?_; rintro e w2 ⟨A2, c2, rfl, ho2, hb2⟩; have HO2 := Lib.hid ho2; have HB2 := Lib.hid (HB.out.trans hb2); clear ho2 hb2))
  go_ret
  exact own_fin rfl HO2.out HB2.out (by simp only [List.length_append])

set_option maxHeartbeats 800000 in
theorem addTexts_any (B : Nat) (A : Option Addr) (c : Nat) (zs : List Int) (a : Option Addr) (len cap : Nat) (ns : List ByteArray) (w : World) (hown : Own w B (.slice A zs.length c) zs) (hB : B ≤ w.heap.size) (hz : zs.length ≤ 400000) (hn : Ts w a len cap ns) (hln : len ≤ 5000) (hsum : (ents ns).length ≤ 400000)
    (hlow : 0 < len → ∃ b off, a = some ⟨b, off, none⟩ ∧ b < B) :
    Calls Try.prog 39 #[.slice A zs.length c, .slice a len cap, .func (.func 37) #[] #[]] w (OwnPost B w (zs ++ C.enc (C.zig (len : Int)) ++ ents ns)) := by
  have HO := Lib.hid hown
  have HN := Lib.hid hn
  have HL := Lib.hid hlow
  have HS0 := Lib.hid hsum
  have HLen := Lib.hid hn.sz
  have hlb := (C.enc_bd (C.zig_lt (in_len len (by omega)))).2.2
  clear hown hn hlow hsum
  go_enter Try.func39, Try.ntmps39
  go_wp2_with (go_at_call 34; refine (addInt_any _ (in_len len (by omega)) B A c zs _ HO.out hB (by omega)).mono ?_; rintro e w1 ⟨A1, c1, rfl, ho1, hb1⟩; have HO1 := Lib.hid ho1; have HB1 := Lib.hid hb1; clear ho1 hb1)
  go_loopw [0, 8, 15] (fun v _ i wr => ∃ (A : Option Addr) (c k : Nat) (ys : List Int), k ≤ len ∧ v = .slice A ys.length c ∧ i = .int .i64 k ∧ Hid (ys = zs ++ C.enc (C.zig (len : Int)) ++ ents (ns.take k)) ∧ Hid (Own wr B (.slice A ys.length c) ys) ∧ Hid (Below B w wr)) (fun _ _ i _ => len - (intOf i).toNat)
  case atStart => exact ⟨A1, c1, 0, zs ++ C.enc (C.zig (len : Int)), Nat.zero_le _, by first | rfl | rw [List.length_append], rfl, Lib.hid (by simp [ents]), HO1, HB1⟩
  case round =>
    obtain ⟨A2, c2, k, ys, hk, rfl, rfl, HY, HO2, HB2⟩ := hrel
    by_cases hlt : k < len
    · obtain ⟨b, o, rfl, z, hzk, hsm, hbl, hcell0⟩ := HN.out.text hlt
      have hbB : b < B := by
        obtain ⟨b', o', e, hl⟩ := HL.out (by omega)
        injection e with e
        injection e with e1
        subst e1
        exact hl
      have hcell := (HB2.out.cell (p := ⟨b, o + k, none⟩) hbB).trans hcell0
      have HZ := Lib.hid hsm
      have hS : ys ++ ent z = zs ++ C.enc (C.zig (len : Int)) ++ ents (ns.take (k + 1)) := by rw [take_snocT (by rw [HLen.out]; exact hlt) hzk, ents_snoc, HY.out]; simp only [List.append_assoc]
      have hyb : ys.length + z.size ≤ 900000 := by
        have h1 := congrArg List.length hS
        have h2 := ents_take (ss := ns) (k + 1)
        have h3 := (ent_bd hsm).2
        have h4 := HS0.out
        simp only [List.length_append] at h1
        omega
      have HS := Lib.hid hS
      have hBw := HB2.out.size
      clear hcell0 hzk hsm hS
      go_wp2_with (go_at_call 37; refine (addText_any _ HZ.out B A2 c2 ys _ HO2.out (by omega) hyb).mono ?_; rintro e w3 ⟨A3, c3, rfl, ho3, hb3⟩; have HO3 := Lib.hid ho3; have HB3 := Lib.hid (HB2.out.trans hb3); clear ho3 hb3)
      go_roundw
      case rel => exact ⟨A3, c3, k + 1, ys ++ ent z, by omega, by first | rfl | rw [List.length_append], by go_num, HS, HO3, HB3⟩
      case measure => simp [intOf]; omega
    · have hF : ys = zs ++ C.enc (C.zig (len : Int)) ++ ents ns := by rw [HY.out, List.take_of_length_le (by rw [HLen.out]; omega)]
      have HF := Lib.hid hF
      clear hF
      go_wp2
      go_ret
      exact own_fin HF.out HO2.out HB2.out rfl

set_option maxHeartbeats 800000 in
theorem putTexts_any (a : Option Addr) (len cap : Nat) (zs : List Int) (a2 : Option Addr) (len2 cap2 : Nat) (ns : List ByteArray) (hl : len ≤ 400000) (hl2 : len2 ≤ 5000) (hsum : (ents ns).length ≤ 400000) (w : World) (h : Sl w a len cap zs) (hn : Ts w a2 len2 cap2 ns) :
    Calls Try.prog 18 #[.slice a len cap, .slice a2 len2 cap2] w (OwnPost w.heap.size w (zs ++ C.enc (C.zig (len2 : Int)) ++ ents ns)) := by
  have H := Lib.hid h
  have HN := Lib.hid hn
  have hz := h.sz
  have HLow := Lib.hid (show 0 < len2 → ∃ b off, a2 = some ⟨b, off, none⟩ ∧ b < w.heap.size from fun h0 => by obtain ⟨b, o, e, hl, _⟩ := hn.cell h0; exact ⟨b, o, e, hl⟩)
  subst hz
  clear h hn
  go_enter Try.func18, Try.ntmps18
  go_wp2_with (first
    | (go_at_call 35; refine (copied_any a _ cap zs (by omega) _ H.out).mono ?_; rintro e w1 ⟨A1, c1, rfl, ho1, hb1⟩; have HO := Lib.hid ho1; have HB := Lib.hid hb1; clear ho1 hb1)
    | (go_at_call 39; refine (addTexts_any w.heap.size A1 c1 zs a2 len2 cap2 ns _ HO.out HB.out.size hl (HN.out.below HB.out) hl2 hsum HLow.out).mono ?_; rintro e w2 ⟨A2, c2, rfl, ho2, hb2⟩; have HO2 := Lib.hid ho2; have HB2 := Lib.hid (HB.out.trans hb2); clear ho2 hb2))
  go_ret
  exact own_fin rfl HO2.out HB2.out (by simp only [List.length_append]; omega)
end Go.Proofs.Ytgfodleoollmmaa
