/- Who types: Now of both, the reference's Great. Bound: at most 1000000 records. -/
import Derived.Test.YtjifohepbmaebaaT3
import Derived.Test.YtjifohepbmaebaaIW13
namespace Go.Proofs.Ytjifohepbmaebaa
open Go.RowKit Go.Maps Go.Proofs
set_option linter.unusedVariables false

def GrP (n : Nat) (zs : List Tp) (e : Ending) : Prop := ∃ b, e = .returned (.bool b) ∧ (b = false → n ≤ 40)
set_option maxHeartbeats 1000000 in
theorem great9 (A : Option Addr) (n c : Nat) (zs : List Tp) (w : World) (h : Tps w A n c zs) : Calls Try.prog 9 #[.slice A n c] w fun e w' => GrP n zs e ∧ Below w.heap.size w w' := by
  have H := Lib.hid h
  have hbig := h.rws.big
  unfold maxLen at hbig
  clear h
  by_cases h40 : 40 < n
  · have h40z : (40 : Int) < (n : Int) := by omega
    go_enter Try.func9, Try.ntmps9
    go_wp2
    go_ret
    exact ⟨⟨true, rfl, fun e => by cases e⟩, Below.refl _ _⟩
  · have h40z : ¬ (40 : Int) < (n : Int) := by omega
    go_enter Try.func9, Try.ntmps9
    go_wp2
    go_loopg [3] n (fun gg s3 wr => ∃ kk : Nat, kk ≤ n ∧ n - kk ≤ gg ∧ s3 = .int .i64 kk ∧ wr = w)
    case atStart => exact ⟨0, Nat.zero_le _, by omega, rfl, rfl⟩
    case round =>
      obtain ⟨kk, hkk, hg, rfl, rfl⟩ := hrel
      by_cases hlt : kk < n
      · have hltz : (kk : Int) < (n : Int) := by omega
        obtain ⟨b, off, rfl, hbl, k0, k1, hsz⟩ := H.out.get hlt
        generalize zs.getD kk t0 = p at k0 k1 hsz
        by_cases hs : 200 < p.1.size
        · have hsz2 : (200 : Int) < (p.1.size : Int) := by omega
          go_wp2
          go_ret
          exact ⟨⟨true, rfl, fun e => by cases e⟩, Below.refl _ _⟩
        · have hsz2 : ¬ (200 : Int) < (p.1.size : Int) := by omega
          go_wp2
          go_roundg (n - (kk + 1))
          case measure => omega
          case rel => exact ⟨kk + 1, by omega, by omega, by go_num, rfl⟩
      · have hltz : ¬ (kk : Int) < (n : Int) := by omega
        go_wp2
        go_ret
        exact ⟨⟨false, rfl, fun _ => by omega⟩, Below.refl _ _⟩
/-- A row of texts of the call's own. -/
theorem tx_enc (ls : List ByteArray) : ls.map Value.string = (tx ls).map encStr := by
  unfold tx
  rw [List.map_map]
  apply List.map_congr_left
  intro s _
  show Value.string s = .string _
  congr 1
theorem NamesP.trans {w w1 : World} {ns : List I.Txt} {e : Ending} {w' : World} (h : NamesP w1 ns e w') (hb : Below w.heap.size w w1) : NamesP w ns e w' := by
  obtain ⟨A, c, h1, h2, h3, h4⟩ := h
  exact ⟨A, c, h1, h2, h3, hb.trans (h4.mono hb.size)⟩
theorem str_src (w : World) (t : ByteArray) : Src (w.alloc (.cells #[.string t] 9)) (some ⟨w.heap.size, 0, none⟩) 1 1 1 [.string t] := by
  refine ⟨rfl, (fun h => by cases h), .inr ⟨w.heap.size, 0, rfl, by simp, fun j u hu => ?_⟩, by simp [Value.oneCell']⟩
  rw [Nat.zero_add]
  exact (blk_new w [.string t] 9).cell hu
theorem str_src2 (w : World) (o : Obj) (t : ByteArray) : Src ((w.alloc o).alloc (.cells #[.string t] 9)) (some ⟨w.heap.size + 1, 0, none⟩) 1 1 1 [.string t] := by
  have := str_src (w.alloc o) t
  rw [show (w.alloc o).heap.size = w.heap.size + 1 by simp] at this
  exact this
/-- The names of the records. -/
def nms (zs : List Tp) : List ByteArray := zs.map (·.1)
theorem nms_fit {zs : List Tp} (h : ∀ p ∈ zs, p.1.size ≤ 9223372036854775807) : Fit (tx (nms zs)) := by
  intro x hx
  unfold tx nms at hx
  simp only [List.map_map, List.mem_map] at hx
  obtain ⟨p, hp, rfl⟩ := hx
  have := h p hp
  rw [show ((fun s : ByteArray => s.data.toList) ∘ fun p : Tp => p.1) p = p.1.data.toList from rfl, len_data']
  exact this
theorem nms_strs {w : World} {B n : Nat} {v : Value} {zs : List Tp} (h : w.ownsRow B 9 1 v n ((nms zs).map Value.string)) (hl : zs.length = n) (hf : ∀ p ∈ zs, p.1.size ≤ 9223372036854775807) (hn : n ≤ 1000000) : ∃ A c, v = .slice A n c ∧ n ≤ c ∧ Strs w A n (nms zs) := by
  rw [tx_enc] at h
  obtain ⟨A, c, h1, h2, _, h4⟩ := own_strs h (nms_fit hf) hn
  rw [bs_tx] at h4
  exact ⟨A, c, h1, h2, h4⟩
theorem nms_snoc {zs : List Tp} {k : Nat} (h : k < zs.length) : (nms (zs.take k)).map Value.string ++ [.string (zs.getD k t0).1] = (nms (zs.take (k + 1))).map Value.string := by
  rw [List.take_succ_eq_append_getElem h, List.getD_eq_getElem?_getD, List.getElem?_eq_getElem h]
  unfold nms
  rw [List.map_append, List.map_append]
  rfl
set_option maxRecDepth 100000 in
set_option maxHeartbeats 2000000 in
theorem now21 (A : Option Addr) (n c : Nat) (zs : List Tp) (x : Int) (w : World) (h : Tps w A n c zs) (hn : n ≤ 1000000) : Calls Try.prog 21 #[.slice A n c, .int .i64 x] w (NamesP w (I.nm (tx (nms (zs.filter fun p => !pc x p))))) := by
  have BA := Lib.hid ((Below.refl _ w).alloc (Nat.le_refl _) (.cells #[] 9))
  have HC := Lib.hid (clean18 A n c zs x (w.alloc (.cells #[] 9)) (h.below BA.out) hn)
  have HO0 := Lib.hid (World.ownsRow_made (base := w.heap.size) (e := 9) (size := 1) w #[] 0 (Nat.le_refl _) (by decide) (by simp))
  have hml : (zs.filter fun p => !pc x p).length ≤ n := by rw [← h.len]; exact List.length_filter_le _ _
  obtain ⟨i0, hi, hz0, hz1, hz2⟩ := info_parts info9
  have HI := Lib.hid (And.intro hi (And.intro hz0 (And.intro hz1 hz2)))
  clear h hi hz0 hz1 hz2
  obtain ⟨ys, hys⟩ : ∃ ys : List Tp, ys = zs.filter fun p => !pc x p := ⟨_, rfl⟩
  rw [← hys] at HC hml ⊢
  clear hys
  obtain ⟨m, hm⟩ : ∃ m, ys.length = m := ⟨_, rfl⟩
  have HM := Lib.hid hm
  rw [hm] at hml
  clear hm
  go_enter Try.func21, Try.ntmps21
  go_wp2_with (go_at_call 18; (with_reducible refine HC.out.mono ?_); rintro e w1 ⟨A1, c1, rfl, hT, hb1, hap⟩; rw [HM.out] at hT ⊢; have P1 := Lib.hid hap; have T1 := Lib.hid hT; have B1 := Lib.hid hb1; clear hT hb1 hap)
  have O1 := Lib.hid (own_below HO0.out B1.out)
  have BB := Lib.hid (BA.out.trans (B1.out.mono BA.out.size))
  have HBs := Lib.hid BB.out.size
  have P0 : Hid (∀ b', (Value.slice (some ⟨w.heap.size, 0, none⟩) 0 0).ownBlock = some b' → b' = w.heap.size ∨ w1.heap.size ≤ b') := Lib.hid (fun b' e => .inl (by cases e; rfl))
  clear HC HO0 B1
  go_loopg [5, 7, 13] m (fun gg s5 _ s13 wr => ∃ (kk : Nat) (v : Value), kk ≤ m ∧ m - kk ≤ gg ∧ v = s5 ∧ s13 = .int .i64 kk ∧ Hid (wr.ownsRow w.heap.size 9 1 v kk ((nms (ys.take kk)).map Value.string)) ∧ Hid (Below w.heap.size w wr) ∧ Hid (Tps wr A1 m c1 ys) ∧ Hid (∀ b', v.ownBlock = some b' → b' = w.heap.size ∨ w1.heap.size ≤ b') ∧ Hid (w1.heap.size ≤ wr.heap.size))
  case atStart => exact ⟨0, _, Nat.zero_le _, by omega, rfl, rfl, O1, BB, T1, P0, Lib.hid (Nat.le_refl _)⟩
  case round =>
    obtain ⟨kk, v, hkk, hg, rfl, rfl, HO, BW, HT, HV, HW⟩ := hrel
    by_cases hlt : kk < m
    · have hltz : (kk : Int) < (m : Int) := by omega
      obtain ⟨b, off, eA, hbl, k0, k1, hsz⟩ := HT.out.get hlt
      have HN := Lib.hid (nms_snoc (zs := ys) (k := kk) (by rw [HM.out]; exact hlt))
      have HTb := Lib.hid (fun u (hb : Below wr.heap.size wr u) => HT.out.below hb)
      have eAx : Hid (b < w1.heap.size) := Lib.hid (by obtain ⟨b0, o0, e0, hl0, _⟩ := T1.out.get (k := 0) (by omega); rw [eA] at e0; cases e0; exact hl0)
      subst eA
      generalize ys.getD kk t0 = p at k0 k1 HN hsz
      have BA2 := Lib.hid (BW.out.alloc BW.out.size (.cells #[.string p.1, .int .i64 p.2] 44))
      have O2 := Lib.hid ((HO.out.alloc (.cells #[.string p.1, .int .i64 p.2] 44)).alloc (.cells #[.string p.1] 9))
      go_wp2_with (at_builtin; refine wpList_append_any _ rfl (.tmp 17) (.tmp 20) 36 rfl w.heap.size 9 i0 _ 1 16 Try.underlying36 HI.out.1 HI.out.2.1 HI.out.2.2.1 HI.out.2.2.2 rfl (by decide) v kk ((nms (ys.take kk)).map Value.string) rfl O2.out (some ⟨wr.heap.size + 1, 0, none⟩) 1 1 [.string p.1] rfl (str_src2 wr (.cells #[.string p.1, .int .i64 p.2] 44) p.1) (by unfold maxLen; omega) (by omega) (by have := BA2.out.size; simp at this ⊢; omega) ?_; intro v3 w3 hgr; have B3 := Lib.hid (hgr.below (BA2.out.alloc BA2.out.size _) O2.out); have O3 := Lib.hid hgr.own; have G3 := Lib.hid hgr.grow; have V3 := Lib.hid hgr.at_; clear hgr)
      go_roundg (m - (kk + 1))
      case measure => omega
      case rel =>
        have hbA := eAx
        refine ⟨kk + 1, v3, by omega, by omega, rfl, by go_num, Lib.hid ?_, B3, Lib.hid ?_, Lib.hid ?_, Lib.hid ?_⟩
        · rw [← HN.out]; exact O3.out
        · refine ((HTb.out _ ((Below.refl _ wr).alloc (Nat.le_refl _) _)).below ((Below.refl _ _).alloc (Nat.le_refl _) (.cells #[.string p.1] 9))).grew G3.out (fun b' off' e => ?_)
          intro e2
          cases e
          have h1 := P1.out b off rfl
          have h2 := HV.out b e2.symm
          have h3 := hbA.out
          simp at h1
          omega
        · intro b' e
          rcases V3.out with h1 | h1
          · exact HV.out b' (by rw [← h1]; exact e)
          · rw [e] at h1
            have h2 : b' = _ := Option.some.inj h1
            have h3 := HW.out
            right
            rw [h2]
            simp
            omega
        · have h1 := G3.out.size
          have h2 := HW.out
          simp at h1
          omega
    · have hltz : ¬ (kk : Int) < (m : Int) := by omega
      obtain rfl : kk = m := by omega
      obtain ⟨A2, c2, rfl, h2, h3⟩ := nms_strs (zs := ys) (by have := HO.out; rw [List.take_of_length_le (by rw [HM.out]; exact Nat.le_refl _)] at this; exact this) HM.out HT.out.fit (by omega)
      have HX := Lib.hid (names_any A2 kk c2 (nms ys) wr h3 h2 (by omega))
      clear h2 h3
      go_wp2_with (go_at_call 33; (with_reducible refine HX.out.mono ?_); rintro e w4 ⟨A4, c4, rfl, q1, q2, q3⟩; have Q := Lib.hid (And.intro q1 (And.intro q2 q3)); clear q1 q2 q3)
      go_ret
      exact ⟨A4, c4, rfl, Q.out.1, Q.out.2.1, BW.out.trans (Q.out.2.2.mono BW.out.size)⟩
set_option maxRecDepth 100000 in
set_option maxHeartbeats 2000000 in
theorem rnow22 (A : Option Addr) (n c : Nat) (zs : List Tp) (x : Int) (w : World) (h : Tps w A n c zs) (hn : n ≤ 1000000) : Calls Try.prog 22 #[.slice A n c, .int .i64 x] w (NamesP w (I.nm (tx (nms (zs.filter fun p => !pc x p))))) := by
  have H := Lib.hid h
  have HL := Lib.hid h.len
  obtain ⟨i0, hi, hz0, hz1, hz2⟩ := info_parts info9
  have HI := Lib.hid (And.intro hi (And.intro hz0 (And.intro hz1 hz2)))
  clear h hi hz0 hz1 hz2
  obtain ⟨q, hqd⟩ : ∃ q : Tp → Bool, q = fun p => !pc x p := ⟨_, rfl⟩
  have HQD := Lib.hid hqd
  rw [← hqd]
  clear hqd
  go_enter Try.func22, Try.ntmps22
  go_wp2
  go_loopg [5, 6] n (fun gg s5 s6 wr => ∃ (kk m : Nat) (v : Value) (acc : List Tp), kk ≤ n ∧ n - kk ≤ gg ∧ m ≤ kk ∧ v = s5 ∧ s6 = .int .i64 kk ∧ Hid (acc = (zs.take kk).filter q) ∧ Hid (acc.length = m) ∧ Hid (wr.ownsRow w.heap.size 9 1 v m ((nms acc).map Value.string)) ∧ Hid (Below w.heap.size w wr))
  case atStart => exact ⟨0, 0, .slice none 0 0, [], Nat.zero_le _, by omega, Nat.le_refl _, rfl, rfl, Lib.hid (by rw [List.take_zero]; rfl), Lib.hid rfl, Lib.hid (World.ownsRow_nil w _ 9 1), Lib.hid (Below.refl _ _)⟩
  case round =>
    obtain ⟨kk, m, v, acc, hkk, hg, hmk, rfl, rfl, HA, HM, HO, BW⟩ := hrel
    by_cases hlt : kk < n
    · have hltz : (kk : Int) < (n : Int) := by omega
      obtain ⟨b, off, rfl, hbl, k0, k1, _⟩ := (H.out.below BW.out).get hlt
      have HLn := Lib.hid (len_next (q := q) (zs := zs) (kk := kk) (by rw [HL.out]; exact hlt))
      have HNx := Lib.hid (fun (hq : q (zs.getD kk t0) = true) => show (zs.take (kk + 1)).filter q = (zs.take kk).filter q ++ [zs.getD kk t0] by rw [filter_step (by rw [HL.out]; exact hlt), hq, if_pos rfl])
      have HS := Lib.hid (own_stay (q := q) (zs := zs) (kk := kk) (by rw [HL.out]; exact hlt))
      have HP := Lib.hid (show q (zs.getD kk t0) = !pc x (zs.getD kk t0) by rw [HQD.out])
      generalize zs.getD kk t0 = p at k0 k1 HNx HS HP HLn
      cases hq : pc x p
      · have HV := Lib.hid (show q p = true by rw [HP.out, hq]; rfl)
        have hs : x < p.2 := by unfold pc at hq; simpa using hq
        clear hq
        go_wp2_with (at_builtin; refine wpList_append_any _ rfl (.tmp 20) (.tmp 26) 36 rfl w.heap.size 9 i0 _ 1 16 Try.underlying36 HI.out.1 HI.out.2.1 HI.out.2.2.1 HI.out.2.2.2 rfl (by decide) v m ((nms acc).map Value.string) rfl (HO.out.alloc _) (some ⟨wr.heap.size, 0, none⟩) 1 1 [.string p.1] rfl (str_src wr p.1) (by unfold maxLen; omega) (by omega) (by have := BW.out.size; simp; omega) ?_; intro v3 w3 hgr; have B3 := Lib.hid (hgr.below (BW.out.alloc BW.out.size _) (HO.out.alloc _)); have O3 := Lib.hid hgr.own; clear hgr)
        go_roundg (n - (kk + 1))
        case measure => omega
        case rel =>
          refine ⟨kk + 1, m + 1, v3, acc ++ [p], by omega, by omega, by omega, rfl, by go_num, Lib.hid ?_, Lib.hid ?_, Lib.hid ?_, B3⟩
          · rw [HNx.out HV.out, HA.out]
          · rw [List.length_append, HM.out]; rfl
          · have h2 := O3.out
            unfold nms at h2 ⊢
            rw [List.map_append, List.map_append]
            exact h2
      · have HV := Lib.hid (show q p = false by rw [HP.out, hq]; rfl)
        have hs : p.2 ≤ x := by unfold pc at hq; simpa using hq
        clear hq
        go_wp2
        go_roundg (n - (kk + 1))
        case measure => omega
        case rel => exact ⟨kk + 1, m, v, acc, by omega, by omega, by omega, rfl, by go_num, Lib.hid (by rw [HS.out HV.out]; exact HA.out), HM, HO, BW⟩
    · have hltz : ¬ (kk : Int) < (n : Int) := by omega
      obtain rfl : kk = n := by omega
      have HF := Lib.hid (show acc = zs.filter q by rw [HA.out, List.take_of_length_le (by rw [HL.out]; exact Nat.le_refl _)])
      obtain ⟨A2, c2, rfl, h2, h3⟩ := nms_strs HO.out HM.out (fun p hp => H.out.fit p (by rw [HF.out] at hp; exact (List.mem_filter.1 hp).1)) (by omega)
      have HX := Lib.hid (rnames_any A2 m c2 (nms acc) wr h3 (by omega))
      clear h2 h3
      go_wp2_with (go_at_call 34; (with_reducible refine HX.out.mono ?_); rintro e w4 ⟨A4, c4, rfl, q1, q2, q3⟩; have Q := Lib.hid (And.intro q1 (And.intro q2 q3)); clear q1 q2 q3)
      go_ret
      have e1 := HF.out
      subst e1
      exact ⟨A4, c4, rfl, Q.out.1, Q.out.2.1, BW.out.trans (Q.out.2.2.mono BW.out.size)⟩
end Go.Proofs.Ytjifohepbmaebaa
