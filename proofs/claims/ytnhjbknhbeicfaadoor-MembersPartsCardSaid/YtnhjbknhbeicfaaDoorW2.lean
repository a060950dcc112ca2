/- The reference's put: a text into its place, once. Bound: at most 100000 texts. -/
import Derived.Test.YtnhjbknhbeicfaaDoorW1
import Derived.Test.YtnhjbknhbeicfaaDoorT1
import Derived.Test.YtnhjbknhbeicfaaDoorIW12
namespace Go.Proofs.YtnhjbknhbeicfaaDoor
open Go.RowKit
set_option linter.unusedVariables false
set_option linter.unusedSimpArgs false

def txr (zs : List T.Rc) : List I.Txt := zs.map fun p => p.s.data.toList
theorem txr_len (zs : List T.Rc) : (txr zs).length = zs.length := by unfold txr; rw [List.length_map]
theorem txr_get {zs : List T.Rc} {k : Nat} (h : k < zs.length) : (txr zs).getD k [] = (zs.getD k T.t0).s.data.toList := by
  unfold txr
  rw [List.getD_eq_getElem?_getD, List.getD_eq_getElem?_getD, List.getElem?_map, List.getElem?_eq_getElem h]; rfl
theorem T.Rcs.strs {w : World} {A : Option Addr} {n c : Nat} {zs : List T.Rc} (h : T.Rcs w A n c zs) : Strs w A n (zs.map T.Rc.s) := by
  refine ⟨by rw [List.length_map]; exact h.len, h.rws.big, fun s hs => ?_, fun h0 => ?_⟩
  · obtain ⟨p, hp, rfl⟩ := List.mem_map.1 hs
    exact h.fit p hp
  · rcases h.rws.at_ with h1 | ⟨b, off, e, hlt, hc⟩
    · omega
    · refine ⟨b, off, e, hlt, fun i hi => ?_⟩
      have := hc i hi 0 _ rfl
      rw [Nat.mul_one, Nat.add_zero] at this
      rw [this, List.getD_eq_getElem?_getD, List.getD_eq_getElem?_getD, List.getElem?_map, List.getElem?_eq_getElem (by rw [h.len]; exact hi)]; rfl
theorem tx_txr (zs : List T.Rc) : tx (zs.map T.Rc.s) = txr zs := by unfold tx txr; rw [List.map_map]; rfl
theorem info9s : (Tryd.prog.info? 9).map (fun i => (i.zero, i.size, i.bytes)) = some (some (.string ByteArray.empty), 1, 16) := by kernel_rfl
theorem src_one (w : World) (x : ByteArray) : Src (w.alloc (.cells #[.string x] 9)) (some ⟨w.heap.size, 0, none⟩) 1 1 1 (T.cl [⟨x⟩]) := by
  refine ⟨rfl, (fun h => by cases h), .inr ⟨w.heap.size, 0, rfl, by simp, fun j u hu => ?_⟩, T.cl_one _⟩
  have h1 := (blk_new w [.string x] 9).cell (i := j) (v := u) (by simpa [T.cl, T.enc] using hu)
  rw [Nat.zero_add]
  exact h1
theorem less_txb (s t : ByteArray) : Op.bytesLess s.toList t.toList = decide (s.data.toList < t.data.toList) := by
  have bl : ∀ (x y : List UInt8), Op.bytesLess x y = decide (x < y) := by
    intro x
    induction x with
    | nil => intro y; cases y <;> simp [Op.bytesLess]
    | cons a x ih =>
      intro y
      cases y with
      | nil => simp [Op.bytesLess]
      | cons b y =>
        simp only [Op.bytesLess, List.cons_lt_cons_iff, ih]
        by_cases h1 : a < b
        · simp [h1]
        · by_cases h2 : a = b
          · subst h2; simp
          · have : ¬ a == b := by simpa using h2
            simp [h1, h2]
  rw [Lib.toList_data, Lib.toList_data, bl]
theorem plc_is {o : List I.Txt} {x : I.Txt} {k : Nat} (hk : k ≤ o.length) (h : ∀ j, j < k → o.getD j [] < x) (h2 : k < o.length → ¬ o.getD k [] < x) : plc o x = k := by
  rcases Nat.lt_trichotomy (plc o x) k with h3 | h3 | h3
  · exact absurd (h _ h3) (plc_at (Nat.lt_of_lt_of_le h3 hk))
  · exact h3
  · exact absurd (plc_lt h3) (h2 (Nat.lt_of_lt_of_le h3 (plc_le o x)))
/-- What put leaves. -/
def PuP (w : World) (zs : List T.Rc) (x : I.Txt) (e : Ending) (w' : World) : Prop := ∃ A m c zz, e = .returned (.slice A m c) ∧ T.Rcs w' A m c zz ∧ txr zz = putT (txr zs) x ∧ Below w.heap.size w w'
theorem put_end {w w6 : World} {zs : List T.Rc} {x : ByteArray} {kk n : Nat} {A6 : Option Addr} {c6 : Nat} (hZ : putT (txr zs) x.data.toList = (txr zs).take kk ++ x.data.toList :: (txr zs).drop kk) (hk : kk ≤ n) (hl : zs.length = n) (hn : n ≤ 100000) (hf : ∀ p ∈ zs, T.fitR p) (hx : x.size ≤ 9223372036854775807)
    (hO : w6.ownsRow w.heap.size 9 1 (.slice A6 (kk + 1 + (n - kk)) c6) (kk + 1 + (n - kk)) (T.cl (zs.take kk ++ [⟨x⟩] ++ zs.drop kk))) (hb : Below w.heap.size w w6) : PuP w zs x.data.toList (.returned (.slice A6 (kk + 1 + (n - kk)) c6)) w6 := by
  obtain ⟨A', c', e, hR, _⟩ := T.Rcs.ofOwn hO (by rw [List.length_append, List.length_append, List.length_take, List.length_drop, hl]; simp; omega) (by omega) (fun p hp => by
    rcases List.mem_append.1 hp with h1 | h1
    · rcases List.mem_append.1 h1 with h2 | h2
      · exact hf p (List.mem_of_mem_take h2)
      · obtain rfl : p = ⟨x⟩ := by simpa using h2
        exact hx
    · exact hf p (List.mem_of_mem_drop h1))
  simp only [Value.slice.injEq, true_and] at e
  obtain ⟨rfl, rfl⟩ := e
  refine ⟨A6, _, c6, _, rfl, hR, ?_, hb⟩
  rw [hZ]
  unfold txr
  rw [List.map_append, List.map_append, List.map_take, List.map_drop]
  simp
set_option maxRecDepth 100000 in
set_option maxHeartbeats 8000000 in
theorem put25 (A : Option Addr) (n c : Nat) (zs : List T.Rc) (x : ByteArray) (w : World) (h : T.Rcs w A n c zs) (hx : x.size ≤ 9223372036854775807) (hn : n ≤ 100000) : Calls Tryd.prog 25 #[.slice A n c, .string x] w (PuP w zs x.data.toList) := by
  have H := Lib.hid h
  have HS := Lib.hid h.strs
  have HL := Lib.hid h.len
  have HCap := Lib.hid h.cap
  have HFit := Lib.hid h.fit
  have HX := Lib.hid hx
  have HP := Lib.hid (fun k h1 h2 h3 => plc_is (o := txr zs) (x := x.data.toList) (k := k) h1 h2 h3)
  have HG := Lib.hid (fun k (hk : k < n) => txr_get (zs := zs) (k := k) (by rw [h.len]; exact hk))
  have hlt0 : (txr zs).length = n := by rw [txr_len, h.len]
  have HLT := Lib.hid hlt0
  obtain ⟨i0, hi, hz0, hz1, hz2⟩ := info_parts info9s
  have HI := Lib.hid (And.intro hi (And.intro hz0 (And.intro hz1 hz2)))
  have B0 := Lib.hid ((Below.refl w.heap.size w).alloc (Nat.le_refl _) (.cells #[] 9))
  have O0 : Hid ((w.alloc (.cells #[] 9)).ownsRow w.heap.size 9 1 (.slice (some ⟨w.heap.size, 0, none⟩) 0 0) 0 []) := Lib.hid (World.ownsRow_made (base := w.heap.size) (e := 9) (size := 1) w #[] 0 (Nat.le_refl _) (by decide) (by simp))
  clear h hx hi hz0 hz1 hz2 hlt0
  go_enter Tryd.func25, Tryd.ntmps25
  go_wp2
  go_loopg [5] n (fun gg s5 wr => ∃ kk : Nat, kk ≤ n ∧ n - kk ≤ gg ∧ s5 = .int .i64 kk ∧ Hid (∀ j, j < kk → (txr zs).getD j [] < x.data.toList) ∧ w = wr)
  case atStart => exact ⟨0, Nat.zero_le _, by omega, rfl, Lib.hid (fun j hj => absurd hj (Nat.not_lt_zero _)), rfl⟩
  case round =>
    obtain ⟨kk, hkk, hg, rfl, HN, rfl⟩ := hrel
    have HK := Lib.hid hkk
    by_cases hlt : kk < n
    · have hltz : (kk : Int) < (n : Int) := by omega
      obtain ⟨b, off, e0, t, ht, hs, _, k0⟩ := HS.out.str hlt
      have e1 : (txr zs).getD kk [] = t.data.toList := by rw [HG.out kk hlt, ht, List.getD_eq_getElem?_getD, List.getD_eq_getElem?_getD, List.getElem?_map, List.getElem?_eq_getElem (by rw [HL.out]; exact hlt)]; rfl
      subst e0
      have hql := less_txb t x
      cases hq : Op.bytesLess t.toList x.toList
      · have HZk : Hid (plc (txr zs) x.data.toList = kk) := Lib.hid (HP.out kk (by rw [HLT.out]; exact hkk) HN.out (fun _ => by rw [e1]; intro hc; rw [hq, decide_eq_true hc] at hql; cases hql))
        cases hq2 : (t.toList == x.toList)
        · have HZ : Hid (putT (txr zs) x.data.toList = (txr zs).take kk ++ x.data.toList :: (txr zs).drop kk) := Lib.hid (by
            unfold putT
            rw [HZk.out, if_neg (fun hc => by
              rw [e1] at hc
              have := hc.1
              rw [← Lib.toList_data, ← Lib.toList_data] at this
              rw [this] at hq2
              simp at hq2)])
          clear hql ht e1 HN HP HG
          obtain ⟨FX, hFr, hFs⟩ : ∃ FX, (∀ w, (Instr.sliceAt 26 (.slice (some ⟨b, off, none⟩) n c) (some (.int .i64 (kk : Int))) none none).run Tryd.prog w = .ok (.slice FX (n - kk) (c - kk)) w) ∧ ∀ w, T.Rcs w (some ⟨b, off, none⟩) n c zs → Src w FX (n - kk) (c - kk) 1 (T.cl (zs.drop kk)) := ⟨_, fun w => run_from HK.out HCap.out w, fun w h => h.dropSrc HK.out⟩
          have hTo := fun w => run_to (A := some ⟨b, off, none⟩) HK.out HCap.out w
          have HFs := Lib.hid hFs
          clear hFs
          go_wp2_with (first
            | (at_builtin; refine wpList_append_any _ rfl _ _ 26 rfl w.heap.size 9 i0 _ 1 16 Tryd.underlying26 HI.out.1 HI.out.2.1 HI.out.2.2.1 HI.out.2.2.2 rfl (by decide) (.slice (some ⟨w.heap.size, 0, none⟩) 0 0) 0 [] rfl O0.out (some ⟨b, off, none⟩) kk c (T.cl (zs.take kk)) rfl ((H.out.below B0.out).takeSrc HK.out) (by unfold maxLen; omega) (by omega) B0.out.size ?_; intro v3 w3 hgr; have B3 := Lib.hid (hgr.below B0.out O0.out); have O3 := Lib.hid hgr.own; clear hgr; rw [Nat.zero_add, List.nil_append] at O3; obtain ⟨A3, c3, rfl⟩ := own_slice O3.out; have B4 := Lib.hid (B3.out.alloc B3.out.size (.cells #[.string x] 9)); have O4 := Lib.hid (own_below O3.out ((Below.refl _ w3).alloc (Nat.le_refl _) (.cells #[.string x] 9))); have S4 := Lib.hid (src_one w3 x); clear O3)
            | (at_builtin; refine wpList_append_any _ rfl _ _ 26 rfl w.heap.size 9 i0 _ 1 16 Tryd.underlying26 HI.out.1 HI.out.2.1 HI.out.2.2.1 HI.out.2.2.2 rfl (by decide) (.slice A3 kk c3) kk (T.cl (zs.take kk)) rfl O4.out (some ⟨w3.heap.size, 0, none⟩) 1 1 (T.cl [⟨x⟩]) rfl S4.out (by unfold maxLen; omega) (by omega) B4.out.size ?_; intro v5 w5 hgr; have B5 := Lib.hid (hgr.below B4.out O4.out); have O5 := Lib.hid hgr.own; clear hgr; rw [← T.cl_append] at O5; obtain ⟨A5, c5, rfl⟩ := own_slice O5.out)
            | (at_builtin; refine wpList_append_any _ rfl _ _ 26 rfl w.heap.size 9 i0 _ 1 16 Tryd.underlying26 HI.out.1 HI.out.2.1 HI.out.2.2.1 HI.out.2.2.2 rfl (by decide) (.slice A5 (kk + 1) c5) (kk + 1) (T.cl (zs.take kk ++ [⟨x⟩])) rfl O5.out FX (n - kk) (c - kk) (T.cl (zs.drop kk)) rfl (HFs.out _ (H.out.below B5.out)) (by unfold maxLen; omega) (by omega) B5.out.size ?_; intro v6 w6 hgr; have B6 := Lib.hid (hgr.below B5.out O5.out); have O6 := Lib.hid hgr.own; clear hgr; rw [← T.cl_append] at O6; obtain ⟨A6, c6, rfl⟩ := own_slice O6.out))
          go_ret
          exact put_end HZ.out HK.out HL.out hn HFit.out HX.out O6.out B6.out
        · have HZ : Hid (putT (txr zs) x.data.toList = txr zs) := Lib.hid (by
            unfold putT
            rw [HZk.out, if_pos ⟨by rw [e1]; rw [beq_iff_eq, Lib.toList_data, Lib.toList_data] at hq2; exact hq2, by rw [HLT.out]; exact hlt⟩])
          clear hql ht e1 HN HP HG
          go_wp2
          go_ret
          exact ⟨_, _, _, _, rfl, H.out, HZ.out.symm, Below.refl _ _⟩
      · have HN3 : Hid (∀ j, j < kk + 1 → (txr zs).getD j [] < x.data.toList) := Lib.hid (fun j hj => by
          by_cases e : j = kk
          · rw [e, e1]; rw [hq] at hql; exact of_decide_eq_true hql.symm
          · exact HN.out j (by omega))
        clear hql ht e1 HN
        go_wp2
        go_roundg (n - (kk + 1))
        case measure => omega
        case rel => exact ⟨kk + 1, by omega, by omega, by go_num, HN3, rfl⟩
    · have hltz : ¬ (kk : Int) < (n : Int) := by omega
      have HZ : Hid (putT (txr zs) x.data.toList = (txr zs).take kk ++ x.data.toList :: (txr zs).drop kk) := Lib.hid (by
        have e : plc (txr zs) x.data.toList = kk := HP.out kk (by rw [HLT.out]; exact hkk) HN.out (fun hc => by rw [HLT.out] at hc; omega)
        unfold putT
        rw [e, if_neg (fun hc => by have := hc.2; rw [HLT.out] at this; omega)])
      clear HN HP HG
      obtain ⟨FX, hFr, hFs⟩ : ∃ FX, (∀ w, (Instr.sliceAt 26 (.slice A n c) (some (.int .i64 (kk : Int))) none none).run Tryd.prog w = .ok (.slice FX (n - kk) (c - kk)) w) ∧ ∀ w, T.Rcs w A n c zs → Src w FX (n - kk) (c - kk) 1 (T.cl (zs.drop kk)) := ⟨_, fun w => run_from HK.out HCap.out w, fun w h => h.dropSrc HK.out⟩
      have hTo := fun w => run_to (A := A) HK.out HCap.out w
      have HFs := Lib.hid hFs
      clear hFs
      go_wp2_with (first
        | (at_builtin; refine wpList_append_any _ rfl _ _ 26 rfl w.heap.size 9 i0 _ 1 16 Tryd.underlying26 HI.out.1 HI.out.2.1 HI.out.2.2.1 HI.out.2.2.2 rfl (by decide) (.slice (some ⟨w.heap.size, 0, none⟩) 0 0) 0 [] rfl O0.out A kk c (T.cl (zs.take kk)) rfl ((H.out.below B0.out).takeSrc HK.out) (by unfold maxLen; omega) (by omega) B0.out.size ?_; intro v3 w3 hgr; have B3 := Lib.hid (hgr.below B0.out O0.out); have O3 := Lib.hid hgr.own; clear hgr; rw [Nat.zero_add, List.nil_append] at O3; obtain ⟨A3, c3, rfl⟩ := own_slice O3.out; have B4 := Lib.hid (B3.out.alloc B3.out.size (.cells #[.string x] 9)); have O4 := Lib.hid (own_below O3.out ((Below.refl _ w3).alloc (Nat.le_refl _) (.cells #[.string x] 9))); have S4 := Lib.hid (src_one w3 x); clear O3)
        | (at_builtin; refine wpList_append_any _ rfl _ _ 26 rfl w.heap.size 9 i0 _ 1 16 Tryd.underlying26 HI.out.1 HI.out.2.1 HI.out.2.2.1 HI.out.2.2.2 rfl (by decide) (.slice A3 kk c3) kk (T.cl (zs.take kk)) rfl O4.out (some ⟨w3.heap.size, 0, none⟩) 1 1 (T.cl [⟨x⟩]) rfl S4.out (by unfold maxLen; omega) (by omega) B4.out.size ?_; intro v5 w5 hgr; have B5 := Lib.hid (hgr.below B4.out O4.out); have O5 := Lib.hid hgr.own; clear hgr; rw [← T.cl_append] at O5; obtain ⟨A5, c5, rfl⟩ := own_slice O5.out)
        | (at_builtin; refine wpList_append_any _ rfl _ _ 26 rfl w.heap.size 9 i0 _ 1 16 Tryd.underlying26 HI.out.1 HI.out.2.1 HI.out.2.2.1 HI.out.2.2.2 rfl (by decide) (.slice A5 (kk + 1) c5) (kk + 1) (T.cl (zs.take kk ++ [⟨x⟩])) rfl O5.out FX (n - kk) (c - kk) (T.cl (zs.drop kk)) rfl (HFs.out _ (H.out.below B5.out)) (by unfold maxLen; omega) (by omega) B5.out.size ?_; intro v6 w6 hgr; have B6 := Lib.hid (hgr.below B5.out O5.out); have O6 := Lib.hid hgr.own; clear hgr; rw [← T.cl_append] at O6; obtain ⟨A6, c6, rfl⟩ := own_slice O6.out))
      go_ret
      exact put_end HZ.out HK.out HL.out hn HFit.out HX.out O6.out B6.out
end Go.Proofs.YtnhjbknhbeicfaaDoor
