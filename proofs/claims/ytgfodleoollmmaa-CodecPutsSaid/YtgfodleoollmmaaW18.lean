/- The walks of the reference's PutText, PutInts and PutTexts. Bounds: at most some hundred thousand bytes. -/
import Derived.Test.YtgfodleoollmmaaW16
import Derived.Lib.ConvBytes
namespace Go.Proofs.Ytgfodleoollmmaa
open Go.RowKit
set_option linter.unusedVariables false

theorem conv_world (w : World) (s : ByteArray) : Below w.heap.size w (Lib.bytesWorld w 5 s) ∧ Sl (Lib.bytesWorld w 5 s) (some ⟨w.heap.size, 0, none⟩) s.size (grownCap w s.size 0 5) (byt s) := by
  refine ⟨⟨rfl, rfl, rfl, by rw [Lib.bytesWorld_size]; omega, fun k hk => Lib.bytesWorld_at_old w 5 s k hk⟩, byt_len s, byt_bd s, grownCap_ge w s.size 0 5, (fun h => by cases h), fun h0 => ⟨w.heap.size, 0, rfl, by rw [Lib.bytesWorld_size]; omega, fun i hi => ?_⟩⟩
  rw [Nat.zero_add, Lib.bytesWorld_cell w 5 s i hi]
  congr 2
  unfold byt
  have hl : i < s.data.toList.length := by rw [Array.length_toList]; exact hi
  rw [List.getD_eq_getElem?_getD, List.getD_eq_getElem?_getD, List.getElem?_map, List.getElem?_eq_getElem hl]
  rfl
theorem wpList_conv {ops : Array Oper} {rest : List Oper} {o : Oper} {a : Act} {Q : Exit → Act → World → Prop} {w : World} (hg : o.guard = none) {x : Operand} (hop : o.op = .convert 9 22 x)
    (s : ByteArray) (hx : a.eval x = .string s)
    (hK : ∀ A c w', Sl w' A s.size c (byt s) → Below w.heap.size w w' → wpList Try.prog ops Q rest (a.put o.dst (.slice A s.size c)) w') : wpList Try.prog ops Q (o :: rest) a w := by
  refine wpList_plain hg fun K hK' => ?_
  have hr := Lib.run_convert_string_bytes (P := Try.prog) w 9 22 5 s Try.underlying9 Try.underlying22 Try.underlying5
  have hc := conv_world w s
  unfold Oper.wp
  simp [execOp, hop, hx, hr, Result.andThen]
  exact hK' _ _ (hK _ _ _ hc.2 hc.1)
theorem own_some {B : Nat} {w w' : World} {zs : List Int} {e : Ending} (h : OwnPost B w zs e w') : ∃ v, e = .returned v ∧ Own w' B v zs ∧ Below B w w' := by
  obtain ⟨A, c, he, ho, hb⟩ := h
  exact ⟨_, he, ho, hb⟩
theorem bd_app {x y : List Int} (h : ∀ z ∈ x, 0 ≤ z ∧ z ≤ 255) (h2 : ∀ z ∈ y, 0 ≤ z ∧ z ≤ 255) : ∀ z ∈ x ++ y, 0 ≤ z ∧ z ≤ 255 := by
  intro z hz
  rcases List.mem_append.1 hz with hz | hz
  · exact h z hz
  · exact h2 z hz
theorem own_mono {w : World} {B B' : Nat} {v : Value} {zs : List Int} (h : Own w B v zs) (hb : B' ≤ B) : Own w B' v zs := by
  rcases h.2 with ⟨rfl, h0⟩ | ⟨g, cap, cur, rfl, hbg, r⟩
  · exact ⟨h.1, .inl ⟨rfl, h0⟩⟩
  · exact ⟨h.1, .inr ⟨g, cap, cur, rfl, Nat.le_trans hb hbg, r⟩⟩

set_option maxHeartbeats 800000 in
theorem rputText_any (a : Option Addr) (len cap : Nat) (zs : List Int) (s : ByteArray) (hs : Small s) (hl : len + s.size ≤ 800000) (w : World) (h : Sl w a len cap zs) :
    Calls Try.prog 15 #[.slice a len cap, .string s] w (OwnPost w.heap.size w (zs ++ ent s)) := by
  have H := Lib.hid h
  have hz := h.sz
  have hs2 := hs
  unfold Small at hs2
  have hlb := (C.enc_bd (C.zig_lt (in_len s.size hs2))).2.2
  have HE := Lib.hid (show (zs ++ C.enc (C.zig (s.size : Int))) ++ byt s = zs ++ ent s by unfold ent; rw [List.append_assoc])
  have HL2 := Lib.hid (show (zs ++ C.enc (C.zig (s.size : Int))).length + s.size ≤ 1000000 by rw [List.length_append, hz]; omega)
  have HI := Lib.hid (in_len s.size hs2)
  clear h hz
  go_enter Try.func15, Try.ntmps15
  go_wp2_with (first
    | (go_at_call 13; refine (rputInt_any _ _ _ zs _ HI.out (by omega) _ H.out).mono ?_; intro e w1 hp; obtain ⟨v1, rfl, ho1, hb1⟩ := own_some hp; have HO1 := Lib.hid ho1; have HB1 := Lib.hid hb1; clear ho1 hb1 hp)
    | ((with_reducible refine wpList_conv rfl rfl s ?_ ?_); (rfl); intro A2 c2 w2 hs2 hb2; have HS2 := Lib.hid hs2; have HB2 := Lib.hid (HB1.out.trans (hb2.mono HB1.out.size)); have HO2 := Lib.hid (own_below HO1.out hb2); clear hs2 hb2)
    | (at_builtin; (refine app_bytes rfl (.tmp 8) (.tmp 10) ?_ (B := w.heap.size) _ (zs ++ C.enc (C.zig (s.size : Int))) ?_ HO2.out HB2.out.size A2 s.size c2 (byt s) ?_ HS2.out HL2.out ?_); (rfl); (rfl); (rfl); intro v3 w3 ho3 hb3; rw [HE.out] at ho3; have HP := Lib.hid (own_post ho3 (HB2.out.trans hb3)); clear ho3 hb3))
  go_ret
  exact HP.out

set_option maxHeartbeats 1600000 in
theorem rputInts_any (a : Option Addr) (len cap : Nat) (zs : List Int) (a2 : Option Addr) (len2 cap2 : Nat) (ns : List Int) (hl : len ≤ 400000) (hl2 : len2 ≤ 5000) (w : World) (h : Sl w a len cap zs) (hn : Is w a2 len2 cap2 ns) :
    Calls Try.prog 17 #[.slice a len cap, .slice a2 len2 cap2] w (OwnPost w.heap.size w (zs ++ C.enc (C.zig (len2 : Int)) ++ encs ns)) := by
  have H := Lib.hid h
  have HN := Lib.hid hn
  have HLen := Lib.hid hn.sz
  have HZl := Lib.hid h.sz
  have hlb := (C.enc_bd (C.zig_lt (in_len len2 (by omega)))).2.2
  have HI := Lib.hid (in_len len2 (by omega))
  clear h hn
  go_enter Try.func17, Try.ntmps17
  go_wp2_with (go_at_call 13; refine (rputInt_any _ _ _ zs _ HI.out (by omega) _ H.out).mono ?_; intro e w1 hp; obtain ⟨v1, rfl, ho1, hb1⟩ := own_some hp; have HO1 := Lib.hid ho1; have HB1 := Lib.hid hb1; clear ho1 hb1 hp)
  go_loopw [5, 6] (fun v i wr => ∃ (k : Nat) (ys : List Int), k ≤ len2 ∧ i = .int .i64 k ∧ ys.length ≤ len + 11 + 11 * k ∧ Hid (ys = zs ++ C.enc (C.zig (len2 : Int)) ++ encs (ns.take k)) ∧ Hid (Own wr w.heap.size v ys) ∧ Hid (Below w.heap.size w wr)) (fun _ i _ => len2 - (intOf i).toNat)
  case atStart => exact ⟨0, zs ++ C.enc (C.zig (len2 : Int)), Nat.zero_le _, rfl, by rw [List.length_append, HZl.out]; omega, Lib.hid (by simp [encs]), HO1, HB1⟩
  case round =>
    obtain ⟨k, ys, hk, rfl, hyl, HY, HO2, HB2⟩ := hrel
    by_cases hlt : k < len2
    · obtain ⟨b, o, rfl, z, hzk, hz64, hbl, hcell0⟩ := HN.out.int hlt
      have hcell := (HB2.out.cell (p := ⟨b, o + k, none⟩) hbl).trans hcell0
      have HZ := Lib.hid hz64
      have HE := Lib.hid (C.enc_bd (C.zig_lt hz64))
      have HS := Lib.hid (show ys ++ C.enc (C.zig z) = zs ++ C.enc (C.zig (len2 : Int)) ++ encs (ns.take (k + 1)) by rw [take_snoc (by rw [HLen.out]; exact hlt) hzk, encs_snoc, HY.out]; simp only [List.append_assoc])
      have HBw := Lib.hid HB2.out.size
      have hsum : ys.length + (C.enc (C.zig z)).length ≤ 1000000 := by have := HE.out.2.2; omega
      have HSum := Lib.hid hsum
      clear hcell0 hzk hz64 hsum
      go_wp2_with (first
        | (go_at_call 36; refine (rint_any z HZ.out _).mono ?_; rintro e w3 ⟨A3, c3, rfl, ho3, hb3⟩; have HS3 := Lib.hid (OwnPost.sl (w := w) ho3 HE.out.1); have HO3 := Lib.hid (own_below HO2.out hb3); have HB3 := Lib.hid (HB2.out.trans (hb3.mono HBw.out)); clear ho3 hb3)
        | (at_builtin; (refine app_bytes rfl (.tmp 17) (.tmp 22) ?_ (B := w.heap.size) _ ys ?_ HO3.out HB3.out.size A3 (C.enc (C.zig z)).length c3 (C.enc (C.zig z)) ?_ HS3.out HSum.out ?_); (rfl); (rfl); (rfl); intro v4 w4 ho4 hb4; have HO4 := Lib.hid ho4; have HB4 := Lib.hid (HB3.out.trans hb4); clear ho4 hb4))
      go_roundw
      case rel => exact ⟨k + 1, ys ++ C.enc (C.zig z), by omega, by go_num, by rw [List.length_append]; have := HE.out.2.2; omega, HS, HO4, HB4⟩
      case measure => simp [intOf]; omega
    · have HF := Lib.hid (show ys = zs ++ C.enc (C.zig (len2 : Int)) ++ encs ns by rw [HY.out, List.take_of_length_le (by rw [HLen.out]; omega)])
      have ho := HO2.out
      rw [HF.out] at ho
      have HP := Lib.hid (own_post ho HB2.out)
      clear ho
      go_wp2
      go_ret
      exact HP.out

set_option maxHeartbeats 1600000 in
theorem rputTexts_any (a : Option Addr) (len cap : Nat) (zs : List Int) (a2 : Option Addr) (len2 cap2 : Nat) (ns : List ByteArray) (hl : len ≤ 300000) (hl2 : len2 ≤ 5000) (hsum : (ents ns).length ≤ 400000) (w : World) (h : Sl w a len cap zs) (hn : Ts w a2 len2 cap2 ns) :
    Calls Try.prog 19 #[.slice a len cap, .slice a2 len2 cap2] w (OwnPost w.heap.size w (zs ++ C.enc (C.zig (len2 : Int)) ++ ents ns)) := by
  have H := Lib.hid h
  have HN := Lib.hid hn
  have HLen := Lib.hid hn.sz
  have HZl := Lib.hid h.sz
  have HZb := Lib.hid h.bd
  have hlb := C.enc_bd (C.zig_lt (in_len len2 (by omega)))
  have HLB := Lib.hid hlb
  have HI := Lib.hid (in_len len2 (by omega))
  have HS0 := Lib.hid hsum
  clear h hn hsum hlb
  go_enter Try.func19, Try.ntmps19
  go_wp2_with (go_at_call 13; refine (rputInt_any _ _ _ zs _ HI.out (by omega) _ H.out).mono ?_; intro e w1 hp; obtain ⟨A1, c1, rfl, ho1, hb1⟩ := hp; have HO1 := Lib.hid ho1; have HB1 := Lib.hid hb1; clear ho1 hb1)
  go_loopw [5, 6] (fun v i wr => ∃ (A : Option Addr) (c k : Nat) (ys : List Int), k ≤ len2 ∧ v = .slice A ys.length c ∧ i = .int .i64 k ∧ Hid (ys = zs ++ C.enc (C.zig (len2 : Int)) ++ ents (ns.take k)) ∧ Hid (Own wr w.heap.size (.slice A ys.length c) ys) ∧ Hid (Below w.heap.size w wr)) (fun _ i _ => len2 - (intOf i).toNat)
  case atStart => exact ⟨A1, c1, 0, zs ++ C.enc (C.zig (len2 : Int)), Nat.zero_le _, by first | rfl | rw [List.length_append], rfl, Lib.hid (by simp [ents]), HO1, HB1⟩
  case round =>
    obtain ⟨A2, c2, k, ys, hk, rfl, rfl, HY, HO2, HB2⟩ := hrel
    by_cases hlt : k < len2
    · obtain ⟨b, o, rfl, z, hzk, hsm, hbl, hcell0⟩ := HN.out.text hlt
      have hcell := (HB2.out.cell (p := ⟨b, o + k, none⟩) hbl).trans hcell0
      have HZ := Lib.hid hsm
      have hS : ys ++ ent z = zs ++ C.enc (C.zig (len2 : Int)) ++ ents (ns.take (k + 1)) := by rw [take_snocT (by rw [HLen.out]; exact hlt) hzk, ents_snoc, HY.out]; simp only [List.append_assoc]
      have hyb : ys.length + z.size ≤ 800000 := by
        have h1 := congrArg List.length hS
        have h2 := ents_take (ss := ns) (k + 1)
        have h3 := (ent_bd hsm).2
        have h4 := HS0.out
        have h5 := HZl.out
        have h6 := HLB.out.2.2
        simp only [List.length_append] at h1
        omega
      have hbd : ∀ x ∈ ys, 0 ≤ x ∧ x ≤ 255 := by
        rw [HY.out]
        exact bd_app (bd_app HZb.out HLB.out.1) (ents_bd (fun s hs => HN.out.bd s (List.mem_of_mem_take hs)))
      have HSl := Lib.hid (OwnPost.sl (w := w) HO2.out hbd)
      have HS := Lib.hid hS
      have HBw := Lib.hid HB2.out.size
      clear hcell0 hzk hsm hS hbd
      go_wp2_with (go_at_call 15; refine (rputText_any A2 ys.length c2 ys _ HZ.out hyb _ HSl.out).mono ?_; rintro e w3 ⟨A3, c3, rfl, ho3, hb3⟩; have HO3 := Lib.hid (own_mono ho3 HBw.out); have HB3 := Lib.hid (HB2.out.trans (hb3.mono HBw.out)); clear ho3 hb3)
      go_roundw
      case rel => exact ⟨A3, c3, k + 1, ys ++ ent z, by omega, by first | rfl | rw [List.length_append], by go_num, HS, HO3, HB3⟩
      case measure => simp [intOf]; omega
    · have hF : ys = zs ++ C.enc (C.zig (len2 : Int)) ++ ents ns := by rw [HY.out, List.take_of_length_le (by rw [HLen.out]; omega)]
      have HF := Lib.hid hF
      clear hF
      go_wp2
      go_ret
      exact own_fin HF.out HO2.out HB2.out rfl
end Go.Proofs.Ytgfodleoollmmaa
