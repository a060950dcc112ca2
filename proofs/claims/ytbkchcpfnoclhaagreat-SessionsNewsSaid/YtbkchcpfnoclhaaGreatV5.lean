/- Sessions: lists of keys; devices.Get. Bound: at most 900000 entries, at most 900000 devices each. -/
import Derived.Test.YtbkchcpfnoclhaaGreatV2
import Derived.Test.YtbkchcpfnoclhaaGreatDv
namespace Go.Proofs.YtbkchcpfnoclhaaGreat
set_option maxRecDepth 100000
open Go Go.RowKit
set_option linter.unusedVariables false
set_option linter.unusedSimpArgs false
set_option maxRecDepth 100000

theorem info65 : (Tryz.prog.info? 51).map (fun i => (i.zero, i.size, i.bytes)) = some (some (.agg #[.string ⟨#[]⟩, .int .i64 0, .bool false]), 3, 32) := by kernel_rfl
set_option maxHeartbeats 1000000 in
theorem clone66 (A : Option Addr) (n c : Nat) (L : Nat → List Value) (w : World) (h : Rws w A n c 3 L) (hb : n * 32 ≤ 140737488355328) :
    Calls Tryz.prog 70 #[.slice A n c] w fun e w' => ∃ A' c', e = .returned (.slice A' n c') ∧ CopyR w w' 51 3 n L A' c' := by
  obtain ⟨i0, hi, hz0, hz1, hz2⟩ := info_parts info65
  have HI := Lib.hid (And.intro hi (And.intro hz0 (And.intro hz1 hz2)))
  clear hi hz0 hz1 hz2
  have kn := fun (w : World) (a : Option Addr) (n c n' c' : Nat) => Lib.run_eql_slice_nil (P := Tryz.prog) w 52 51 a n c n' c' Tryz.underlying52
  cases A with
  | none =>
    obtain ⟨rfl, rfl⟩ := h.nil rfl
    clear h HI hb
    go_enter Tryz.func70, Tryz.ntmps70
    go_wp2
    go_ret
    exact ⟨none, 0, rfl, clone_nil w 51 3 L⟩
  | some ad =>
    have HS := Lib.hid (h.src.below ((Below.refl _ w).alloc (Nat.le_refl _) (.cells #[] 51)))
    have HO := Lib.hid (World.ownsRow_made (base := w.heap.size) (e := 51) (size := 3) w #[] 0 (Nat.le_refl _) (by decide) (by simp))
    clear h
    go_enter Tryz.func70, Tryz.ntmps70
    go_wp2_with (at_builtin; refine wpList_append_any _ rfl _ _ 52 rfl w.heap.size 51 i0 _ 3 32 Tryz.underlying52 HI.out.1 HI.out.2.1 HI.out.2.2.1 HI.out.2.2.2 rfl (by decide) _ 0 [] rfl HO.out (some ad) n c (flat n L) rfl HS.out (by unfold maxLen; omega) (by omega) (by simp) ?_; intro v3 w3 hgr; have HX := Lib.hid (clone_grew hgr); clear hgr)
    go_ret
    obtain ⟨A', c', rfl, hc⟩ := HX.out
    exact ⟨A', c', rfl, hc⟩


/-- What a user has: the name, two numbers, the devices and where they lie. -/
structure Kd where
  us : ByteArray
  ms : Int
  ps : Int
  A : Option Addr
  n : Nat
  c : Nat
  ds : List Dv.Rc
abbrev kC (k : Kd) : List Value := [.string k.us, .int .i64 k.ms, .int .i64 k.ps, .slice k.A k.n k.c]
structure Kys (w : World) (A : Option Addr) (n : Nat) (K : Nat → Kd) : Prop where
  big : n ≤ maxLen
  at_ : 0 < n → ∃ b off, A = some ⟨b, off, none⟩ ∧ b < w.heap.size ∧ ∀ j, j < n → w.rangeAt b (off + j * 4) (kC (K j))
  row : ∀ j, j < n → Dv.Rcs w (K j).A (K j).n (K j).c (K j).ds
theorem Kys.below {w w' : World} {A : Option Addr} {n : Nat} {K : Nat → Kd} (h : Kys w A n K) (hb : Below w.heap.size w w') : Kys w' A n K := by
  refine ⟨h.big, fun h0 => ?_, fun j hj => (h.row j hj).below hb⟩
  obtain ⟨b, off, e, hlt, hc⟩ := h.at_ h0
  exact ⟨b, off, e, Nat.lt_of_lt_of_le hlt hb.size, fun j hj k v hv => (hb.cell (p := ⟨b, _, none⟩) hlt).trans (hc j hj k v hv)⟩
theorem Kys.get {w : World} {A : Option Addr} {n : Nat} {K : Nat → Kd} (h : Kys w A n K) {j : Nat} (hj : j < n) : ∃ b off, A = some ⟨b, off, none⟩ ∧ b < w.heap.size ∧ w.rangeAt b (off + j * 4) (kC (K j)) := by
  obtain ⟨b, off, e, hlt, hc⟩ := h.at_ (by omega)
  exact ⟨b, off, e, hlt, hc j hj⟩
/-- The first entry of a user. -/
def kf (K : Nat → Kd) (n : Nat) (u : ByteArray) : Option Nat := (List.range n).find? (fun j => decide ((K j).us = u))
def ixO : Option Nat → Int
  | some j => (j : Int)
  | none => -1
theorem kf_at {K : Nat → Kd} {n : Nat} {u : ByteArray} {k : Nat} (hk : k < n) (h : (K k).us = u) (hn : ∀ j, j < k → ¬ (K j).us = u) : kf K n u = some k := by
  unfold kf
  rw [List.find?_range_eq_some]
  refine ⟨decide_eq_true h, List.mem_range.2 hk, fun j hj => ?_⟩
  rw [decide_eq_false (hn j hj)]; rfl
theorem kf_no {K : Nat → Kd} {n : Nat} {u : ByteArray} (hn : ∀ j, j < n → ¬ (K j).us = u) : kf K n u = none := by
  unfold kf
  rw [List.find?_eq_none]
  intro j hj h
  exact hn j (List.mem_range.1 hj) (of_decide_eq_true h)
theorem kf_lt {K : Nat → Kd} {n : Nat} {u : ByteArray} {k : Nat} (h : kf K n u = some k) : k < n ∧ (K k).us = u := by
  unfold kf at h
  have h1 := List.find?_some h
  exact ⟨List.mem_range.1 (List.mem_of_find?_eq_some h), of_decide_eq_true h1⟩
/-- The ids of a user's devices. -/
def dvI (K : Nat → Kd) (n : Nat) (u : ByteArray) : List ByteArray := match kf K n u with
  | some j => (K j).ds.map (·.id)
  | none => []
theorem size68 : (Tryz.prog.info? 54).map (·.size) = some 4 := by kernel_rfl
theorem str_src (w : World) (u : ByteArray) : Blk (w.alloc (.cells #[.string u] 9)) w.heap.size [.string u] 9 := blk_new w [.string u] 9
theorem closure65 (us : ByteArray) (ms ps : Int) (A : Option Addr) (n c : Nat) (u : ByteArray) (c1 : Nat) (w : World) (hc : Blk w c1 [.string u] 9) : Calls Tryz.prog 69 #[.agg #[.string us, .int .i64 ms, .int .i64 ps, .slice A n c], .pointer (some ⟨c1, 0, none⟩)] w fun e w' => e = .returned (.bool (decide (us = u))) ∧ Below w.heap.size w w' := by
  have BA := Lib.hid ((Below.refl w.heap.size w).alloc (Nat.le_refl _) (.cells #[.string us, .int .i64 ms, .int .i64 ps, .slice A n c] 54))
  have XA := Lib.hid (blk_new w [.string us, .int .i64 ms, .int .i64 ps, .slice A n c] 54)
  have XC := Lib.hid (hc.alloc (.cells #[.string us, .int .i64 ms, .int .i64 ps, .slice A n c] 54))
  clear hc
  have q0 := XC.out.cell (i := 0) rfl
  by_cases e1 : us = u
  · have z1 : (us.toList == u.toList) = true := by rw [e1]; exact beq_self_eq_true _
    rw [decide_eq_true e1]
    clear e1
    go_enter Tryz.func69, Tryz.ntmps69
    go_wp2
    go_ret
    exact ⟨rfl, BA.out⟩
  · have z1 : (us.toList == u.toList) = false := beq_eq_false_iff_ne.2 (fun e => e1 (eq_of_toList e))
    rw [decide_eq_false e1]
    clear e1
    go_enter Tryz.func69, Tryz.ntmps69
    go_wp2
    go_ret
    exact ⟨rfl, BA.out⟩
theorem ret_i {a b : Int} (h : a = b) : Ending.returned (.int .i64 a) = .returned (.int .i64 b) := by rw [h]
set_option maxHeartbeats 4000000 in
theorem index64 (u : ByteArray) (c1 : Nat) (A : Option Addr) (n c : Nat) (K : Nat → Kd) (w : World) (h : Kys w A n K) (hc : Blk w c1 [.string u] 9) : Calls Tryz.prog 68 #[.slice A n c, .func (.func 69) #[] #[.pointer (some ⟨c1, 0, none⟩)]] w fun e w' => e = .returned (.int .i64 (ixO (kf K n u))) ∧ Below w.heap.size w w' := by
  have H := Lib.hid h
  have HC := Lib.hid hc
  have hbig := h.big
  unfold maxLen at hbig
  clear h hc
  go_enter Tryz.func68, Tryz.ntmps68
  go_wp2
  go_loopg [5, 8] n (fun gg _ s8 wr => ∃ kk : Nat, kk ≤ n ∧ n - kk ≤ gg ∧ s8 = .int .i64 kk ∧ Hid (Below w.heap.size w wr) ∧ Hid (∀ j, j < kk → ¬ (K j).us = u))
  case atStart => exact ⟨0, Nat.zero_le _, by omega, rfl, Lib.hid (Below.refl _ w), Lib.hid (fun j hj => absurd hj (Nat.not_lt_zero _))⟩
  case round =>
    obtain ⟨kk, hkk, hg, rfl, BW, O⟩ := hrel
    by_cases hlt : kk < n
    · have hltz : (kk : Int) < (n : Int) := by omega
      obtain ⟨b, off, rfl, hbl, hr⟩ := (H.out.below BW.out).get hlt
      have HR := Lib.hid hr
      have HQ := Lib.hid (closure65 (K kk).us (K kk).ms (K kk).ps (K kk).A (K kk).n (K kk).c u c1 wr (HC.out.below BW.out))
      clear hr
      by_cases hq : (K kk).us = u
      · have HF := Lib.hid (show ixO (kf K n u) = (kk : Int) by rw [kf_at hlt hq O.out]; rfl)
        rw [decide_eq_true hq] at HQ
        clear hq
        go_wp2_with (first
          | (refine wpList_load_mid rfl 54 _ rfl b (off + kk * 4) rfl (kC (K kk)) _ HR.out Tryz.underlying54 rfl size68 ?_)
          | (go_at_call 69; (with_reducible refine HQ.out.mono ?_); rintro e w' ⟨rfl, hb'⟩)
          | go_in)
        go_ret
        exact ⟨ret_i HF.out.symm, BW.out.trans (hb'.mono BW.out.size)⟩
      · have HF := Lib.hid hq
        rw [decide_eq_false hq] at HQ
        clear hq
        go_wp2_with (first
          | (refine wpList_load_mid rfl 54 _ rfl b (off + kk * 4) rfl (kC (K kk)) _ HR.out Tryz.underlying54 rfl size68 ?_)
          | (go_at_call 69; (with_reducible refine HQ.out.mono ?_); rintro e w' ⟨rfl, hb'⟩)
          | go_in)
        go_roundg (n - (kk + 1))
        case measure => omega
        case rel =>
          refine ⟨kk + 1, by omega, by omega, by go_num, Lib.hid (BW.out.trans (hb'.mono BW.out.size)), Lib.hid (fun j hj => ?_)⟩
          by_cases e : j = kk
          · subst e; exact HF.out
          · exact O.out j (by omega)
    · have hltz : ¬ (kk : Int) < (n : Int) := by omega
      have HF := Lib.hid (show ixO (kf K n u) = -1 by rw [kf_no (fun j hj => O.out j (by omega))]; rfl)
      go_wp2
      go_ret
      exact ⟨ret_i HF.out.symm, BW.out⟩
theorem find53 (u : ByteArray) (A : Option Addr) (n c : Nat) (K : Nat → Kd) (w : World) (h : Kys w A n K) : Calls Tryz.prog 61 #[.slice A n c, .string u] w fun e w' => e = .returned (.int .i64 (ixO (kf K n u))) ∧ Below w.heap.size w w' := by
  have BA := Lib.hid ((Below.refl w.heap.size w).alloc (Nat.le_refl _) (.cells #[.string u] 9))
  have HI := Lib.hid (index64 u w.heap.size A n c K _ (h.below BA.out) (str_src w u))
  clear h
  go_enter Tryz.func61, Tryz.ntmps61
  go_wp2_with (first
    | (go_at_call 68; (with_reducible refine HI.out.mono ?_); rintro e w1 ⟨rfl, hb⟩; have B1 := Lib.hid (BA.out.trans (hb.mono BA.out.size)); clear hb)
    | go_in)
  go_ret
  exact ⟨rfl, B1.out⟩
/-- A user's entry, copied. -/
theorem Dv.Rcs.setRow {t : Nat} {A : Option Addr} {n c : Nat} {zs : List Dv.Rc} {w : World} (h : Dv.Rcs w A n c zs) (hne : ∀ b off, A = some ⟨b, off, none⟩ → t < b) (vs : List Value) (o : Nat) : Dv.Rcs (w.setCells t o vs) A n c zs := by
  refine h.grew (row := some t) ⟨?_, ?_, ?_, ?_, fun k hk hkt => ?_⟩ (fun b off e h1 => by have h2 : b = t := Option.some.inj h1; have := hne b off e; omega)
  all_goals first
    | exact (below_setRow (B := 0) (Below.refl 0 w) (Nat.zero_le _) vs o).os
    | exact (below_setRow (B := 0) (Below.refl 0 w) (Nat.zero_le _) vs o).tape
    | exact (below_setRow (B := 0) (Below.refl 0 w) (Nat.zero_le _) vs o).output
    | exact (below_setRow (B := 0) (Below.refl 0 w) (Nat.zero_le _) vs o).size
    | exact World.heap_setCells_other w t o vs hk (fun e => hkt (by rw [e]))
set_option maxHeartbeats 4000000 in
theorem clone54 (us : ByteArray) (ms ps : Int) (A : Option Addr) (n c : Nat) (ds : List Dv.Rc) (w : World) (h : Dv.Rcs w A n c ds) (hn : n ≤ 900000) : Calls Tryz.prog 62 #[.agg #[.string us, .int .i64 ms, .int .i64 ps, .slice A n c]] w fun e w' => ∃ A' c', e = .returned (.agg #[.string us, .int .i64 ms, .int .i64 ps, .slice A' n c']) ∧ Dv.Rcs w' A' n c' ds ∧ (∀ b off, A' = some ⟨b, off, none⟩ → w.heap.size ≤ b) ∧ Below w.heap.size w w' := by
  have BA := Lib.hid (((Below.refl w.heap.size w).alloc (Nat.le_refl _) (.cells #[.string us, .int .i64 ms, .int .i64 ps, .slice A n c] 54)).alloc (by simp) (.cells #[.string ⟨#[]⟩, .int .i64 0, .int .i64 0, .slice none 0 0] 54))
  have XS := Lib.hid ((blk_new w [.string us, .int .i64 ms, .int .i64 ps, .slice A n c] 54).alloc (.cells #[.string ⟨#[]⟩, .int .i64 0, .int .i64 0, .slice none 0 0] 54))
  have XR := Lib.hid (blk_new2 w (.cells #[.string us, .int .i64 ms, .int .i64 ps, .slice A n c] 54) [.string ⟨#[]⟩, .int .i64 0, .int .i64 0, .slice none 0 0] 54)
  have HC := Lib.hid (clone66 A n c (Dv.rowR ds) _ (h.below BA.out).rws (by omega))
  have HL := Lib.hid h
  clear h
  have y3 := XS.out.cell (i := 3) rfl
  go_enter Tryz.func62, Tryz.ntmps62
  go_upto_region 2 with (first
    | (go_at_call 70; (with_reducible refine HC.out.mono ?_); rintro e w2 ⟨A', c', rfl, hC⟩; have HB := Lib.hid hC.bel; have HO := Lib.hid hC.own; have X2 := Lib.hid (XS.out.at_ hC.bel XS.out.lt); have R2 := Lib.hid (XR.out.at_ hC.bel XR.out.lt); have f3 := X2.out.free 3; have z3 := X2.out.cell (i := 3) rfl; clear hC)
    | fail)
  generalize hwd : World.setCell _ _ _ = wd
  have XD := Lib.hid (show Blk wd w.heap.size [.string us, .int .i64 ms, .int .i64 ps, .slice A' n c'] 54 by rw [← hwd]; exact X2.out.set 3 _)
  have RD := Lib.hid (show Blk wd (w.heap.size + 1) [.string ⟨#[]⟩, .int .i64 0, .int .i64 0, .slice none 0 0] 54 by rw [← hwd]; exact R2.out.other _ _ (by simp))
  have BD := Lib.hid (show Below w.heap.size w wd by rw [← hwd]; exact (BA.out.trans (HB.out.mono BA.out.size)).setCell (p := ⟨w.heap.size, 3, none⟩) (Nat.le_refl _) _)
  have OD := Lib.hid (show wd.ownsRow (w.heap.size + 1 + 1) 51 3 (.slice A' n c') n (Dv.cl ds) by
    rw [← hwd]
    have h5 := HO.out
    rw [← HL.out.len, Dv.flat_cl, HL.out.len] at h5
    have h6 := Dv.own_mono h5 (B' := w.heap.size + 1 + 1) (by simp)
    refine own_keep h6 (fun g hg hl => ?_)
    have h7 := (h6.lt g hg).1
    rw [heap_setCell_other _ _ _ _ (by simp; omega)])
  clear hwd z3 f3 y3
  go_wp2_with (first
    | (refine wpList_load_mid rfl 54 _ rfl w.heap.size 0 rfl [.string us, .int .i64 ms, .int .i64 ps, .slice A' n c'] _ XD.out.range Tryz.underlying54 rfl size68 ?_)
    | (refine wpList_store_mid rfl 54 _ _ rfl (w.heap.size + 1) 0 #[.string us, .int .i64 ms, .int .i64 ps, .slice A' n c'] rfl rfl (Blk.there (n := 4) RD.out (by decide)) size68 (by simp [Value.oneCell']) ?_)
    | go_in)
  try simp only [Exit.inBlock, Exit.then]
  refine bodyPost_ret (results_cell_mid rfl _ _ (w.heap.size + 1) [.string us, .int .i64 ms, .int .i64 ps, .slice A' n c'] 54 _ rfl (RD.out.setAll [.string us, .int .i64 ms, .int .i64 ps, .slice A' n c'] rfl) Tryz.underlying54 rfl size68) rfl ?_
  obtain ⟨A2, c2, e2, hr2, hn2⟩ := Dv.Rcs.ofOwn OD.out HL.out.len (by omega) HL.out.fit
  simp only [Value.slice.injEq, true_and] at e2
  obtain ⟨rfl, rfl⟩ := e2
  exact ⟨A', c', rfl, hr2.setRow (fun b off e => by have := hn2 b off e; omega) _ _, fun b off e => by have := hn2 b off e; omega, below_setRow BD.out (Nat.le_succ _) _ _⟩
/-- What Get gives. -/
def GetP (w : World) (K : Nat → Kd) (n : Nat) (u : ByteArray) (r : Ending) (w' : World) : Prop := ∃ (us : ByteArray) (ms ps : Int) (A : Option Addr) (c : Nat) (ds : List Dv.Rc) (q : Bool), r = .returned (.tuple #[.agg #[.string us, .int .i64 ms, .int .i64 ps, .slice A ds.length c], .bool q]) ∧ Dv.Rcs w' A ds.length c ds ∧ ds.map (·.id) = dvI K n u ∧ (∀ b off, A = some ⟨b, off, none⟩ → w.heap.size ≤ b) ∧ Below w.heap.size w w'
set_option maxHeartbeats 4000000 in
theorem get43 (u : ByteArray) (A : Option Addr) (n c : Nat) (K : Nat → Kd) (w : World) (h : Kys w A n K) (hd : ∀ j, j < n → (K j).ds.length ≤ 900000) : Calls Tryz.prog 49 #[.slice A n c, .string u] w (GetP w K n u) := by
  have BA := Lib.hid ((Below.refl w.heap.size w).alloc (Nat.le_refl _) (.cells #[.string ⟨#[]⟩, .int .i64 0, .int .i64 0, .slice none 0 0] 54))
  have XR := Lib.hid (blk_new w [.string ⟨#[]⟩, .int .i64 0, .int .i64 0, .slice none 0 0] 54)
  have HF := Lib.hid (find53 u A n c K _ (h.below BA.out))
  have H := Lib.hid h
  have HD := Lib.hid hd
  have hbig := h.big
  unfold maxLen at hbig
  clear h hd
  unfold GetP
  have HV := Lib.hid (show dvI K n u = (match kf K n u with
    | some j => (K j).ds.map (·.id)
    | none => []) from rfl)
  generalize dvI K n u = dv at HV ⊢
  cases hk : kf K n u with
  | none =>
    rw [hk] at HF HV
    clear hk
    simp only [ixO] at HF
    go_enter Tryz.func49, Tryz.ntmps49
    go_wp2_with (first
      | (go_at_call 61; (with_reducible refine HF.out.mono ?_); rintro e w1 ⟨rfl, hb⟩; have B1 := Lib.hid (BA.out.trans (hb.mono BA.out.size)); have X1 := Lib.hid (XR.out.below hb); clear hb)
      | (refine wpList_store_mid rfl 54 _ _ rfl w.heap.size 0 #[.string ⟨#[]⟩, .int .i64 0, .int .i64 0, .slice none 0 0] rfl rfl (Blk.there (n := 4) X1.out (by decide)) size68 (by simp [Value.oneCell']) ?_)
      | go_in)
    try simp only [Exit.inBlock, Exit.then]
    refine bodyPost_ret (results_cell_tmp_blk rfl _ _ w.heap.size [.string ⟨#[]⟩, .int .i64 0, .int .i64 0, .slice none 0 0] 54 _ rfl (X1.out.setAll [.string ⟨#[]⟩, .int .i64 0, .int .i64 0, .slice none 0 0] rfl) Tryz.underlying54 rfl size68) rfl ?_
    exact ⟨⟨#[]⟩, 0, 0, none, 0, [], false, rfl, Dv.Rcs.nil _, HV.out.symm, (fun b off e => by cases e), below_setRow B1.out (Nat.le_refl _) _ _⟩
  | some j =>
    obtain ⟨hj, _⟩ := kf_lt hk
    rw [hk] at HF HV
    clear hk
    simp only [ixO] at HF
    simp only at HV
    have hj0 : ¬ (j : Int) < 0 := by omega
    have hj1 : (0 : Int) ≤ (j : Int) := by omega
    have hj2 : (j : Int) < (n : Int) := by omega
    obtain ⟨b, off, rfl, hbl, hr⟩ := (H.out.below BA.out).get hj
    have HR := Lib.hid hr
    have HRo := Lib.hid (fun x (hb : Below w.heap.size w x) => (H.out.row j hj).below hb)
    have HLn := Lib.hid (H.out.row j hj).len
    have HDj := Lib.hid (HD.out j hj)
    have hlj := HLn.out
    clear hr H HD
    generalize K j = k at HR HRo HLn HDj HV hlj
    obtain ⟨us, ms, ps, A1, n1, c1, ds⟩ := k
    dsimp only at HR HRo HLn HDj HV hlj
    subst hlj
    go_enter Tryz.func49, Tryz.ntmps49
    go_wp2_with (first
      | (go_at_call 61; (with_reducible refine HF.out.mono ?_); rintro e w1 ⟨rfl, hb⟩; have B1 := Lib.hid (BA.out.trans (hb.mono BA.out.size)); have X1 := Lib.hid (XR.out.below hb); have R1 := Lib.hid (show World.rangeAt w1 b (off + j * 4) [.string us, .int .i64 ms, .int .i64 ps, .slice A1 ds.length c1] from fun i v hv => (hb.cell (p := ⟨b, _, none⟩) hbl).trans (HR.out i v hv)); have HCl := Lib.hid (clone54 us ms ps A1 ds.length c1 ds w1 (HRo.out _ B1.out) HDj.out); clear hb)
      | (refine wpList_load_mid rfl 54 _ rfl b (off + j * 4) rfl [.string us, .int .i64 ms, .int .i64 ps, .slice A1 ds.length c1] _ R1.out Tryz.underlying54 rfl size68 ?_)
      | (go_at_call 62; (with_reducible refine HCl.out.mono ?_); rintro e w2 ⟨A', c', rfl, hr, hnw, hb⟩; have R2 := Lib.hid hr; have N2 := Lib.hid (show ∀ b off, A' = some ⟨b, off, none⟩ → w.heap.size < b from fun b off e => Nat.lt_of_lt_of_le X1.out.lt (hnw b off e)); have B2 := Lib.hid (B1.out.trans (hb.mono B1.out.size)); have X2 := Lib.hid (X1.out.below hb); clear hr hb hnw)
      | (refine wpList_store_mid rfl 54 _ _ rfl w.heap.size 0 #[.string us, .int .i64 ms, .int .i64 ps, .slice A' ds.length c'] rfl rfl (Blk.there (n := 4) X2.out (by decide)) size68 (by simp [Value.oneCell']) ?_)
      | go_in)
    try simp only [Exit.inBlock, Exit.then]
    refine bodyPost_ret (results_cell_tmp_blk rfl _ _ w.heap.size [.string us, .int .i64 ms, .int .i64 ps, .slice A' ds.length c'] 54 _ rfl (X2.out.setAll [.string us, .int .i64 ms, .int .i64 ps, .slice A' ds.length c'] rfl) Tryz.underlying54 rfl size68) rfl ?_
    exact ⟨us, ms, ps, A', c', ds, true, rfl, R2.out.setRow N2.out _ _, HV.out.symm, (fun b off e => Nat.le_of_lt (N2.out b off e)), below_setRow B2.out (Nat.le_refl _) _ _⟩
end Go.Proofs.YtbkchcpfnoclhaaGreat
