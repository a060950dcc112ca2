/- Sessions: Wants, Renew of the program. Bounds: as holders; at most 900000 shares. -/
import Derived.Test.YtbkchcpfnoclhaaGreatV7
import Derived.Test.YtbkchcpfnoclhaaGreatG7
namespace Go.Proofs.YtbkchcpfnoclhaaGreat
set_option maxRecDepth 100000
open Go Go.RowKit
set_option linter.unusedVariables false
set_option linter.unusedSimpArgs false
set_option maxRecDepth 100000

/-- The share is one of the list. -/
def hsS (l : List Rc) (p : ByteArray × ByteArray) : Bool := l.any (fun s => decide ((s.us, s.dv) = p))
theorem hsS_succ {l : List Rc} {k : Nat} (hk : k < l.length) (p : ByteArray × ByteArray) : hsS (l.take (k + 1)) p = (hsS (l.take k) p || decide (((l.getD k t0).us, (l.getD k t0).dv) = p)) := by
  unfold hsS
  rw [List.take_succ_eq_append_getElem hk, List.any_append, getD_at hk]
  simp
/-- The shares that are wanted. -/
def wantL (l : List Rc) (nx : Int) (hl : List Hd.Rc) : List Rc := (hl.filter (fun h => !(hsS l (h.us, h.dv)))).map (fun h => ⟨h.us, h.dv, nx⟩)
theorem wantL_yes {l : List Rc} {nx : Int} {hl : List Hd.Rc} {k : Nat} (hk : k < hl.length) (h : hsS l ((hl.getD k Hd.t0).us, (hl.getD k Hd.t0).dv) = false) : wantL l nx (hl.take (k + 1)) = wantL l nx (hl.take k) ++ [⟨(hl.getD k Hd.t0).us, (hl.getD k Hd.t0).dv, nx⟩] := by
  unfold wantL
  rw [Hd.getD_at hk] at h ⊢
  rw [List.take_succ_eq_append_getElem hk, List.filter_append, List.map_append]
  simp [h]
theorem wantL_no {l : List Rc} {nx : Int} {hl : List Hd.Rc} {k : Nat} (hk : k < hl.length) (h : hsS l ((hl.getD k Hd.t0).us, (hl.getD k Hd.t0).dv) = true) : wantL l nx (hl.take (k + 1)) = wantL l nx (hl.take k) := by
  unfold wantL
  rw [Hd.getD_at hk] at h
  rw [List.take_succ_eq_append_getElem hk, List.filter_append, List.map_append]
  simp [h]
theorem wantL_len (l : List Rc) (nx : Int) (hl : List Hd.Rc) (k : Nat) : (wantL l nx (hl.take k)).length ≤ k := by
  unfold wantL
  rw [List.length_map]
  have := List.length_filter_le (fun (h : Hd.Rc) => !(hsS l (h.us, h.dv))) (hl.take k)
  rw [List.length_take] at this
  omega
theorem wantL_fit {l : List Rc} {nx : Int} {hl : List Hd.Rc} (h : ∀ p ∈ hl, Hd.fitR p) : ∀ p ∈ wantL l nx hl, fitR p := by
  intro p hp
  unfold wantL at hp
  obtain ⟨q, hq, rfl⟩ := List.mem_map.1 hp
  exact h q (List.mem_filter.1 hq).1
def WantP (w : World) (l : List Rc) (r : Ending) (w' : World) : Prop := ∃ A c, r = .returned (.slice A l.length c) ∧ Rcs w' A l.length c l ∧ (∀ b off, A = some ⟨b, off, none⟩ → w.heap.size ≤ b) ∧ Below w.heap.size w w'
set_option maxHeartbeats 16000000 in
theorem wants18 (id : Int) (rm : ByteArray) (nx : Int) (A0 : Option Addr) (n0 c0 : Nat) (l : List Rc) (A1 : Option Addr) (n1 c1 : Nat) (ms : List ByteArray) (A : Option Addr) (n c : Nat) (K : Nat → Kd) (w : World) (h0 : Rcs w A0 n0 c0 l) (hn0 : n0 ≤ 900000) (hm : Strs w A1 n1 ms) (hc1 : n1 ≤ c1) (hn1 : n1 ≤ 1000) (h : Kys w A n K) (hd : ∀ j, j < n → (K j).ds.length ≤ 900) : Calls Tryz.prog 25 #[.agg #[.int .i64 id, .string rm, .int .i64 nx, .slice A0 n0 c0], .slice A1 n1 c1, .slice A n c] w (WantP w (wantL l nx (holdL ms (dvI K n)))) := by
  have XS := Lib.hid ((blk_new w (sC id rm nx A0 n0 c0) 24).alloc (.map #[] 0))
  have M1 := Lib.hid (MK.MapA.made (K := kPair) (E := eB) (w.alloc (.cells #[.int .i64 id, .string rm, .int .i64 nx, .slice A0 n0 c0] 24)))
  have BA := Lib.hid (((Below.refl w.heap.size w).alloc (Nat.le_refl _) (.cells #[.int .i64 id, .string rm, .int .i64 nx, .slice A0 n0 c0] 24)).alloc (by simp) (.map #[] 0))
  have HH := Lib.hid (fun u (hb : Below w.heap.size w u) => holders31 A1 n1 c1 ms A n c K u (hm.below hb) hc1 hn1 (h.below hb) hd)
  have HHl : Hid ((holdL ms (dvI K n)).length ≤ 900000) := Lib.hid (hold_len hm hn1 h hd)
  have H0 := Lib.hid h0
  have HL0 := Lib.hid h0.len
  obtain ⟨i0, hi, hz0, hz1, hz2⟩ := info_parts info55
  have HI0 := Lib.hid (And.intro hi (And.intro hz0 (And.intro hz1 hz2)))
  unfold HoldP at HH
  generalize holdL ms (dvI K n) = hl at HH HHl ⊢
  clear h0 hm h hd hi hz0 hz1 hz2
  rw [World.size_alloc] at M1
  have hmm := @run_makeMap Tryz.prog
  have y3 := XS.out.cell (i := 3) rfl
  go_enter Tryz.func25, Tryz.ntmps25
  go_wp2
  clear hmm y3
  go_loopg [9, 17] n0 (fun gg _ s17 wr => ∃ (k m : Nat) (zs : List ((ByteArray × ByteArray) × Bool)), k ≤ n0 ∧ n0 - k ≤ gg ∧ m ≤ k ∧ s17 = .int .i64 (k : Int) ∧ Hid (MK.MapA kPair eB wr (w.heap.size + 1) m zs) ∧ Hid (HasI (hsS (l.take k)) zs) ∧ Hid (Blk wr w.heap.size (sC id rm nx A0 n0 c0) 24) ∧ Hid (Below w.heap.size w wr))
  case atStart => exact ⟨0, 0, [], Nat.zero_le _, by omega, Nat.le_refl _, rfl, M1, Lib.hid HasI.nil, XS, BA⟩
  case round =>
    clear M1 XS BA
    obtain ⟨k, m, zs, hk, hg, hmk, rfl, HM, HI, XS, BW⟩ := hrel
    by_cases hlt : k < n0
    · have hltz : (k : Int) < (n0 : Int) := by omega
      have hk0 : (0 : Int) ≤ (k : Int) := by omega
      obtain ⟨bh, oh, rfl, hbh, hr, hft⟩ := (H0.out.below BW.out).get hlt
      have HI2 := Lib.hid (HI.out.put (Q := hsS (l.take (k + 1))) ((l.getD k t0).us, (l.getD k t0).dv) (fun p => hsS_succ (by rw [HL0.out]; exact hlt) p))
      have HRg := Lib.hid hr
      have HFt := Lib.hid hft
      clear hr hft HI
      generalize l.getD k t0 = hh at HI2 HRg HFt
      have HHo := Lib.hid (show ∀ u, Calls Tryz.prog 17 #[.agg (enc hh).toArray] u fun e w' => e = .returned (.agg #[.string hh.us, .string hh.dv]) ∧ Below u.heap.size u w' from fun u => holderOf30 hh.us hh.dv hh.ix u)
      go_upto_region 5 with (first
        | (refine wpList_load_mid rfl 36 _ rfl bh (oh + k * 3) rfl (enc hh) _ HRg.out Tryz.underlying36 rfl size55 ?_)
        | (refine store_as61 rfl 36 _ _ rfl [.string ⟨#[]⟩, .string ⟨#[]⟩, .int .i64 0] (enc hh) rfl rfl rfl size55 (by simp [enc, Value.oneCell']) ?_; intro w4 hx hb; have X4 := Lib.hid hx; have C4 := Lib.hid hb; clear hx hb)
        | fail)
      have RG4 := Lib.hid X4.out.range
      go_wp2_with (first
        | (refine wpList_load_mid rfl 36 _ rfl wr.heap.size 0 rfl (enc hh) _ RG4.out Tryz.underlying36 rfl size55 ?_)
        | (go_at_call 17; (with_reducible refine (HHo.out _).mono ?_); rintro e w5 ⟨rfl, hb⟩; have D5 := Lib.hid (C4.out.trans (hb.mono C4.out.size)); have B5 := Lib.hid (BW.out.trans (D5.out.mono BW.out.size)); have S5 := Lib.hid (XS.out.below D5.out); have M5 := Lib.hid (HM.out.below D5.out); clear hb)
        | (at_mapUpdate; refine MK.wpList_putA rfl _ _ _ 71 rfl under69 (w.heap.size + 1) m zs rfl M5.out (by omega) (hh.us, hh.dv) true HFt.out trivial rfl rfl ?_; intro w6 hm6 hg6; have M6 := Lib.hid hm6; have S6 := Lib.hid (blk_grownK S5.out hg6 (by simp)); have B6 := Lib.hid (below_put B5.out hg6 (Nat.le_succ _)); clear hm6 hg6)
        | go_in)
      go_roundg (n0 - (k + 1))
      case measure => omega
      case rel => exact ⟨k + 1, m + 1, _, by omega, by omega, by omega, by go_num, M6, HI2, S6, B6⟩
    · have hltz : ¬ (k : Int) < (n0 : Int) := by omega
      obtain rfl : k = n0 := by omega
      rw [List.take_of_length_le (by rw [HL0.out]; exact Nat.le_refl _)] at HI
      obtain ⟨wc, rfl⟩ : ∃ x : World, x = wr := ⟨_, rfl⟩
      have O0 := Lib.hid (World.ownsRow_made (base := wc.heap.size) (e := 36) (size := 3) wc #[] 0 (Nat.le_refl _) (by decide) (by simp))
      have BC := Lib.hid ((Below.refl wc.heap.size wc).alloc (Nat.le_refl _) (.cells #[] 36))
      have HH2 := Lib.hid (HH.out _ (BW.out.trans (BC.out.mono BW.out.size)))
      have hhl := HHl.out
      go_upto_region 9 with (first
        | (go_at_call 36; (with_reducible refine HH2.out.mono ?_); rintro e w2 ⟨AH, cH, rfl, hr, hnw, hb⟩; have R2 := Lib.hid hr; have NW := Lib.hid (show ∀ b off, AH = some ⟨b, off, none⟩ → some b ≠ (Value.slice (some ⟨wc.heap.size, 0, none⟩) 0 0).ownBlock from fun b off e e1 => by have h1 := hnw b off e; have h3 : b = wc.heap.size := Option.some.inj e1; rw [World.size_alloc] at h1; omega); have C2 := Lib.hid (BC.out.trans (hb.mono BC.out.size)); have O2 := Lib.hid (own_keep O0.out (fun b _ hl => hb.block b hl)); clear hr hnw hb)
        | fail)
      clear O0 BC HH2 HH
      go_wp2
      go_loopg [10, 12, 30] hl.length (fun gg s10 _ s30 wr => ∃ (k : Nat) (v : Value), k ≤ hl.length ∧ hl.length - k ≤ gg ∧ v = s10 ∧ s30 = .int .i64 (k : Int) ∧ Hid (wr.ownsRow wc.heap.size 36 3 v (wantL l nx (hl.take k)).length (cl (wantL l nx (hl.take k)))) ∧ Hid (Below wc.heap.size wc wr) ∧ Hid (Hd.Rcs wr AH hl.length cH hl) ∧ Hid (∀ b off, AH = some ⟨b, off, none⟩ → some b ≠ v.ownBlock))
      case atStart => exact ⟨0, _, Nat.zero_le _, by omega, rfl, rfl, O2, C2, R2, NW⟩
      case round =>
        clear O2 C2 R2 NW
        obtain ⟨k, v, hk, hg, rfl, rfl, HO, BX, HR, AP⟩ := hrel
        have hwl := wantL_len l nx hl k
        by_cases hlt : k < hl.length
        · have hltz : (k : Int) < (hl.length : Int) := by omega
          have hk0 : (0 : Int) ≤ (k : Int) := by omega
          obtain ⟨bh, oh, rfl, hbh, hr, hft⟩ := HR.out.get hlt
          have HRg := Lib.hid hr
          have HFt := Lib.hid hft
          have HAp := Lib.hid (AP.out bh oh rfl)
          have HY := Lib.hid (wantL_yes (l := l) (nx := nx) hlt)
          have HN := Lib.hid (wantL_no (l := l) (nx := nx) hlt)
          have HIk := Lib.hid (HI.out ((hl.getD k Hd.t0).us, (hl.getD k Hd.t0).dv))
          clear hr hft
          generalize hl.getD k Hd.t0 = hh at HRg HFt HY HN HIk
          generalize hsS l (hh.us, hh.dv) = b0 at HY HN HIk
          go_upto_region 11 with (first
            | (refine wpList_load_mid rfl 39 _ rfl bh (oh + k * 2) rfl (Hd.enc hh) _ HRg.out Tryz.underlying39 rfl size61 ?_)
            | (refine store_as61 rfl 39 _ _ rfl [.string ⟨#[]⟩, .string ⟨#[]⟩] (Hd.enc hh) rfl rfl rfl size61 (by simp [Hd.enc, Value.oneCell']) ?_; intro w4 hx hb; have X4 := Lib.hid hx; have C4 := Lib.hid hb; clear hx hb)
            | fail)
          have D4 := Lib.hid (BX.out.trans (C4.out.mono BX.out.size))
          have RG4 := Lib.hid X4.out.range
          have O4 := Lib.hid (own_keep HO.out (fun b _ hl => C4.out.block b hl))
          have R4 := Lib.hid (HR.out.below C4.out)
          have hlk : (Instr.lookup 71 (.map (some (w.heap.size + 1))) (.agg (Hd.enc hh).toArray) false).run Tryz.prog w4 = .ok (.bool b0) w4 := by
            have h1 := has_look (tx := hh.us) (sd := hh.dv) (HM.out.below D4.out) HFt.out.1 HFt.out.2
            rw [HIk.out] at h1
            exact h1
          have k0 := X4.out.cell (i := 0) (v := .string hh.us) rfl
          have k1 := X4.out.cell (i := 1) (v := .string hh.dv) rfl
          have y2 := (XS.out.below D4.out).cell (i := 2) rfl
          clear HO BX HR HRg
          cases b0 with
          | true =>
            have HT2 := Lib.hid (HN.out rfl)
            clear HY HN
            go_wp2_with (first
              | (refine wpList_load_mid rfl 39 _ rfl wr.heap.size 0 rfl (Hd.enc hh) _ RG4.out Tryz.underlying39 rfl size61 ?_)
              | go_in)
            go_roundg (hl.length - (k + 1))
            case measure => omega
            case rel => exact ⟨k + 1, v, by omega, by omega, rfl, by go_num, Lib.hid (by rw [HT2.out]; exact O4.out), D4, R4, Lib.hid (fun b off e => by cases e; exact HAp.out)⟩
          | false =>
            have HT2 := Lib.hid (HY.out rfl)
            clear HY HN
            generalize wantL l nx (hl.take k) = wl at O4 HT2 hwl
            go_wp2_with (first
              | (refine wpList_load_mid rfl 39 _ rfl wr.heap.size 0 rfl (Hd.enc hh) _ RG4.out Tryz.underlying39 rfl size61 ?_)
              | (at_builtin; refine wpList_append_any _ rfl _ _ 22 rfl wc.heap.size 36 i0 _ 3 40 Tryz.underlying22 HI0.out.1 HI0.out.2.1 HI0.out.2.2.1 HI0.out.2.2.2 rfl (by decide) v wl.length (cl wl) rfl (O4.out.alloc _) _ 1 1 (enc ⟨hh.us, hh.dv, nx⟩) rfl (blk_src (p := ⟨hh.us, hh.dv, nx⟩) (blk_new w4 (enc ⟨hh.us, hh.dv, nx⟩) 36)) (by unfold maxLen; omega) (by omega) (D4.out.alloc D4.out.size _).size ?_; intro v5 w5 hgr; have B5 := Lib.hid (hgr.below (D4.out.alloc D4.out.size _) (O4.out.alloc _)); have O5 := Lib.hid hgr.own; have R5 := Lib.hid ((R4.out.below ((Below.refl _ _).alloc (Nat.le_refl _) _)).grew hgr.grow (fun b off e => by cases e; exact HAp.out)); have P5 := Lib.hid (show ∀ b off, some (⟨bh, oh, none⟩ : Addr) = some ⟨b, off, none⟩ → some b ≠ v5.ownBlock from fun b off e => by cases e; rcases hgr.at_ with e | e <;> rw [e]; exact HAp.out; (intro e1; have e2 := Option.some.inj e1; have := C4.out.size; simp only [World.size_alloc] at e2; omega)); clear hgr)
              | go_in)
            go_roundg (hl.length - (k + 1))
            case measure => omega
            case rel => exact ⟨k + 1, v5, by omega, by omega, rfl, by go_num, Lib.hid (by rw [HT2.out, List.length_append, ← cl_snoc]; exact O5.out), B5, R5, P5⟩
        · have hltz : ¬ (k : Int) < (hl.length : Int) := by omega
          obtain rfl : k = hl.length := by omega
          rw [List.take_length] at HO hwl
          obtain ⟨A', c', rfl, hr, hnw⟩ := Rcs.ofOwn HO.out rfl (by omega) (wantL_fit HR.out.fit)
          have HRr := Lib.hid hr
          have HNw := Lib.hid hnw
          clear hr hnw
          go_wp2
          go_ret
          exact ⟨A', c', rfl, HRr.out, fun b off e => Nat.le_trans BW.out.size (HNw.out b off e), BW.out.trans (BX.out.mono BW.out.size)⟩
theorem step_store_as {P : Program} {w : World} {ops : Array Oper} {o : Oper} {a : Act} {K : Act → World → Prop} {Q : Exit → Act → World → Prop} {E : Prop} (hgd : o.guard = none) (ty : TypeId) (x y : Operand) (ho : o.op = .store ty x y)
    (t : Nat) (cs : List Value) (T : TypeId) (vs : List Value) (hx : a.eval x = .pointer (some ⟨t, 0, none⟩)) (hy : a.eval y = .agg vs.toArray) (hb : Blk w t cs T) (hl : vs.length = cs.length)
    (hi : (P.info? ty).map (·.size) = some vs.length) (h1 : vs.toArray.all (·.oneCell') = true)
    (h : ∀ w', w' = w.setCells t 0 vs → Blk w' t vs T → Put w w' t → K (a.put o.dst undef) w') :
    if Region.wanted o (yielded ops a.tmps) = true then Oper.wp P o a w K Q else E := by
  have hw : Region.wanted o (yielded ops a.tmps) = true := by simp [Region.wanted, hgd]
  rw [if_pos hw]
  exact wp_store_mid ty x y ho t 0 vs.toArray hx hy (hb.there (by simp [hl])) (by simpa using hi) h1 (h _ rfl (hb.setAll vs hl) (put_all w t vs))
theorem own_putB {w w1 : World} {B t : Nat} {v : Value} {n : Nat} {xs : List Value} (h : w.ownsRow B 36 3 v n xs) (hp : Put w w1 t) (hB : t < B) : w1.ownsRow B 36 3 v n xs :=
  ⟨h.1, h.2.imp id fun ⟨g, cap, cur, ev, hBg, hg, r⟩ => ⟨g, cap, cur, ev, hBg, (hp.oth g cur.toList 36 (by omega) ⟨by rw [Array.toArray_toList]; exact hg⟩).heap.trans (by rw [Array.toArray_toList]), r⟩⟩
/-- What Renew gives. -/
def RenewP (w : World) (id' : Int) (rm : ByteArray) (lw : List Rc) (r : Ending) (w' : World) : Prop := ∃ A c A2 c2, r = .returned (.tuple #[.agg #[.int .i64 id', .string rm, .int .i64 0, .slice A lw.length c], .slice A2 lw.length c2]) ∧ Rcs w' A lw.length c lw ∧ Rcs w' A2 lw.length c2 lw ∧ Below w.heap.size w w'
set_option maxHeartbeats 16000000 in
theorem renew22 (id : Int) (rm : ByteArray) (nx : Int) (A0 : Option Addr) (n0 c0 : Nat) (A1 : Option Addr) (n1 c1 : Nat) (ms : List ByteArray) (A : Option Addr) (n c : Nat) (K : Nat → Kd) (id' : Int) (w : World) (hm : Strs w A1 n1 ms) (hc1 : n1 ≤ c1) (hn1 : n1 ≤ 1000) (h : Kys w A n K) (hd : ∀ j, j < n → (K j).ds.length ≤ 900) : Calls Tryz.prog 23 #[.agg #[.int .i64 id, .string rm, .int .i64 nx, .slice A0 n0 c0], .slice A1 n1 c1, .slice A n c, .int .i64 id'] w (RenewP w id' rm (wantL [] 0 (holdL ms (dvI K n)))) := by
  have XS := Lib.hid ((blk_new w (sC id rm nx A0 n0 c0) 24).alloc (.cells #[.int .i64 0, .string ⟨#[]⟩, .int .i64 0, .slice none 0 0] 24))
  have XR := Lib.hid (blk_new2 w (.cells #[.int .i64 id, .string rm, .int .i64 nx, .slice A0 n0 c0] 24) [.int .i64 0, .string ⟨#[]⟩, .int .i64 0, .slice none 0 0] 24)
  have BA := Lib.hid (((Below.refl w.heap.size w).alloc (Nat.le_refl _) (.cells #[.int .i64 id, .string rm, .int .i64 nx, .slice A0 n0 c0] 24)).alloc (by simp) (.cells #[.int .i64 0, .string ⟨#[]⟩, .int .i64 0, .slice none 0 0] 24))
  have HW := Lib.hid (fun u (hb : Below w.heap.size w u) => wants18 id' rm 0 none 0 0 [] A1 n1 c1 ms A n c K u (Rcs.nil _) (Nat.zero_le _) (hm.below hb) hc1 hn1 (h.below hb) hd)
  have HWl : Hid ((wantL [] 0 (holdL ms (dvI K n))).length ≤ 900000) := Lib.hid (by
    have h1 := hold_len hm hn1 h hd
    have h2 := wantL_len [] 0 (holdL ms (dvI K n)) (holdL ms (dvI K n)).length
    rw [List.take_length] at h2
    omega)
  unfold WantP at HW
  generalize wantL [] 0 (holdL ms (dvI K n)) = lw at HW HWl ⊢
  have HBy := Lib.hid (show lw.length * 40 ≤ 140737488355328 by have := HWl.out; omega)
  clear hm h hd
  have y1 := XS.out.cell (i := 1) rfl
  go_enter Tryz.func23, Tryz.ntmps23
  go_upto_region 2 with (fail)
  clear y1
  have XF := Lib.hid (show Blk (((w.alloc (.cells #[.int .i64 id, .string rm, .int .i64 nx, .slice A0 n0 c0] 24)).alloc (.cells #[.int .i64 0, .string ⟨#[]⟩, .int .i64 0, .slice none 0 0] 24)).alloc (.cells #[.int .i64 id', .string rm, .int .i64 0, .slice none 0 0] 24)) (w.heap.size + 1 + 1) [.int .i64 id', .string rm, .int .i64 0, .slice none 0 0] 24 by
    have h1 := blk_new2 (w.alloc (.cells #[.int .i64 id, .string rm, .int .i64 nx, .slice A0 n0 c0] 24)) (.cells #[.int .i64 0, .string ⟨#[]⟩, .int .i64 0, .slice none 0 0] 24) [.int .i64 id', .string rm, .int .i64 0, .slice none 0 0] 24
    simp only [World.size_alloc] at h1
    exact h1)
  have XR2 := Lib.hid (XR.out.alloc (.cells #[.int .i64 id', .string rm, .int .i64 0, .slice none 0 0] 24))
  have BA2 := Lib.hid (BA.out.alloc BA.out.size (.cells #[.int .i64 id', .string rm, .int .i64 0, .slice none 0 0] 24))
  generalize hwa : World.alloc _ _ = wa at XF XR2 BA2 ⊢
  clear hwa XS XR BA
  have RGf := Lib.hid XF.out.range
  go_upto_region 3 with (first
    | (refine wpList_load_mid rfl 24 _ rfl (w.heap.size + 1 + 1) 0 rfl [.int .i64 id', .string rm, .int .i64 0, .slice none 0 0] _ RGf.out Tryz.underlying24 rfl size24 ?_)
    | (go_at_call 25; (with_reducible refine (HW.out _ BA2.out).mono ?_); rintro e w2 ⟨AW, cW, rfl, hr, hnw, hb⟩; have W2 := Lib.hid hr; have NW := Lib.hid (show ∀ b off, AW = some ⟨b, off, none⟩ → w.heap.size + 1 + 1 < b from fun b off e => Nat.lt_of_lt_of_le XF.out.lt (hnw b off e)); have X2 := Lib.hid (XF.out.below hb); have R2 := Lib.hid (XR2.out.below hb); have B2 := Lib.hid (BA2.out.trans (hb.mono BA2.out.size)); have f3 := X2.out.free 3; have z3 := X2.out.cell (i := 3) rfl; clear hr hnw hb)
    | fail)
  generalize hwd : World.setCell _ _ _ = wd
  have XD := Lib.hid (show Blk wd (w.heap.size + 1 + 1) [.int .i64 id', .string rm, .int .i64 0, .slice AW lw.length cW] 24 by rw [← hwd]; exact X2.out.set 3 _)
  have RD := Lib.hid (show Blk wd (w.heap.size + 1) [.int .i64 0, .string ⟨#[]⟩, .int .i64 0, .slice none 0 0] 24 by rw [← hwd]; exact R2.out.other _ _ (by simp))
  have BD := Lib.hid (show Below w.heap.size w wd by rw [← hwd]; exact B2.out.setCell (p := ⟨w.heap.size + 1 + 1, 3, none⟩) (by show w.heap.size ≤ w.heap.size + 1 + 1; omega) _)
  have WD := Lib.hid (show Rcs wd AW lw.length cW lw by rw [← hwd]; exact W2.out.setRow NW.out [.slice AW lw.length cW] 3)
  have NWr := Lib.hid (show ∀ b off, AW = some ⟨b, off, none⟩ → w.heap.size + 1 < b from fun b off e => by have := NW.out b off e; omega)
  clear hwd f3 z3 X2 R2 B2 W2 HW XF XR2 BA2 RGf
  refine wp_region_held_drew (S := (fun y => Below w.heap.size w y ∧ Blk y (w.heap.size + 1 + 1) [.int .i64 id', .string rm, .int .i64 0, .slice AW lw.length cW] 24)) (by kernel_rfl) (⟨BD.out.drew, XD.out.drew⟩) (fun hH0 => ?_)
  generalize hy0 : World.drew _ = y0 at hH0 ⊢
  have RB0 : Hid (Below w.heap.size w y0) := Lib.hid hH0.1
  have RX0 := Lib.hid (show Blk y0 (w.heap.size + 1 + 1) [.int .i64 id', .string rm, .int .i64 0, .slice AW lw.length cW] 24 by rw [← hy0]; exact XD.out.drew)
  have RR0 := Lib.hid (show Blk y0 (w.heap.size + 1) [.int .i64 0, .string ⟨#[]⟩, .int .i64 0, .slice none 0 0] 24 by rw [← hy0]; exact RD.out.drew)
  have RW0 := Lib.hid (show Rcs y0 AW lw.length cW lw by rw [← hy0]; exact WD.out.below ((Below.refl _ _).drew))
  clear hy0
  refine wpAnyH_take (i := 0) (oi := ({ dst := some 20, op := Op.load 24 (Operand.tmp 10), type := 24, pos := "sessions.go:125", after := #[], guard := none } : Oper)) (v := .agg #[.int .i64 id', .string rm, .int .i64 0, .slice AW lw.length cW]) rfl (by kernel_rfl) (by kernel_rfl) (by kernel_rfl) (fun _ _ _ h => h) (yieldsIf_load_mid (by rfl) 24 _ rfl (w.heap.size + 1 + 1) 0 rfl [.int .i64 id', .string rm, .int .i64 0, .slice AW lw.length cW] _ (fun w0 hw0 => hw0.2.range) Tryz.underlying24 rfl size24) (by assumption) ?_
  try simp only [Act.put, List.setIfInBounds_toArray, List.set_cons_zero, List.set_cons_succ]
  refine wpAnyH_take (i := 1) (oi := ({ dst := some 21, op := Op.fieldAddr 24 (Operand.tmp 10) 3, type := 0, pos := "sessions.go:125", after := #[], guard := none } : Oper)) (v := ?hv1) rfl (by kernel_rfl) (by kernel_rfl) (by kernel_rfl) (fun _ _ _ h => h) (Or.inl ⟨by rfl, ?hy1⟩) (by assumption) ?hr1
  case hy1 => (intro w hSw; (try dsimp only at hSw); go_simp; (try with_reducible rfl))
  try simp only [Act.put, List.setIfInBounds_toArray, List.set_cons_zero, List.set_cons_succ]
  refine wpAnyH_take (i := 2) (oi := ({ dst := some 22, op := Op.load 22 (Operand.tmp 21), type := 22, pos := "sessions.go:125", after := #[{ on := 1, ground := Ground.data }], guard := none } : Oper)) (v := .slice AW lw.length cW) rfl (by kernel_rfl) (by kernel_rfl) (by kernel_rfl) (fun _ _ _ h => h) (Or.inl ⟨by rfl, fun w0 hw0 => by have q0 := hw0.2.cell (i := 3) rfl; go_simp⟩) (by assumption) ?_
  try simp only [Act.put, List.setIfInBounds_toArray, List.set_cons_zero, List.set_cons_succ]
  refine wpAnyH_ready (rs := [3]) (by kernel_rfl) (by simp) ?_
  refine AllReadyH.cons (o := ({ dst := some 23, op := Op.call { callee := Callee.value (Operand.func 33), args := #[Operand.tmp 22], argTypes := #[22] }, type := 22, pos := "sessions.go:125", after := #[{ on := 2, ground := Ground.data }], guard := none } : Oper)) rfl (fun KK hKK => ?_) AllReadyH.nil
  go_simp
  (with_reducible refine (clone27 AW lw.length cW (rowR lw) _ RW0.out.rws HBy.out).mono ?_)
  rintro e0 y1 ⟨A2, c2, rfl, hC⟩
  have RB1 := Lib.hid (RB0.out.trans (hC.bel.mono RB0.out.size))
  have RX1 := Lib.hid (RX0.out.below hC.bel)
  have RR1 := Lib.hid (RR0.out.below hC.bel)
  have RW1 := Lib.hid (RW0.out.below hC.bel)
  have RO1 := Lib.hid (show World.ownsRow y1 (w.heap.size + 1 + 1 + 1) 36 3 (.slice A2 lw.length c2) lw.length (cl lw) from own_mono (by have := hC.own; rwa [flat_cl] at this) RX0.out.lt)
  clear hC
  refine hKK.out _ _ (⟨RB1.out, RX1.out⟩) (fun hH1 => ?_)
  clear hKK KK
  try simp only [Act.put, List.setIfInBounds_toArray, List.set_cons_zero, List.set_cons_succ]
  refine wpAnyH_ready (rs := [4]) (by kernel_rfl) (by simp) ?_
  refine AllReadyH.cons (o := ({ dst := none, op := Op.store 24 (Operand.tmp 8) (Operand.tmp 20), type := 0, pos := "sessions.go:125", after := #[{ on := 0, ground := Ground.data }, { on := 3, ground := Ground.chain }, { on := 0, ground := Ground.phase }, { on := 1, ground := Ground.textOnly Departure.lateStores }, { on := 2, ground := Ground.textOnly Departure.lateStores }, { on := 3, ground := Ground.textOnly Departure.lateStoresUnsure }], guard := none } : Oper)) rfl (fun KK hKK => ?_) AllReadyH.nil
  refine step_store_as rfl 24 _ _ rfl (w.heap.size + 1) [.int .i64 0, .string ⟨#[]⟩, .int .i64 0, .slice none 0 0] 24 [.int .i64 id', .string rm, .int .i64 0, .slice AW lw.length cW] rfl rfl RR1.out rfl size24 (by simp [Value.oneCell']) ?_
  intro y2 he hb hp
  have RB2 := Lib.hid (RB1.out.trans (hp.bel _ (Nat.le_succ _)))
  have RX2 := Lib.hid (hp.oth _ _ _ (by omega) RX1.out)
  have RR2 := Lib.hid hb
  have RW2 := Lib.hid (show Rcs y2 AW lw.length cW lw by rw [he]; exact RW1.out.setRow NWr.out _ _)
  have RO2 := Lib.hid (own_putB RO1.out hp (by omega))
  clear he hb hp
  refine hKK.out _ _ (⟨RB2.out, RX2.out⟩) (fun hH2 => ?_)
  clear hKK KK
  try simp only [Act.put, List.setIfInBounds_toArray, List.set_cons_zero, List.set_cons_succ]
  refine wpAnyH_take (i := 5) (oi := ({ dst := some 9, op := Op.assign (Operand.tmp 23), type := 22, pos := "sessions.go:125", after := #[{ on := 3, ground := Ground.data }, { on := 4, ground := Ground.chain }, { on := 0, ground := Ground.phase }, { on := 1, ground := Ground.phase }, { on := 2, ground := Ground.phase }, { on := 3, ground := Ground.phase }, { on := 4, ground := Ground.phase }], guard := none } : Oper)) (v := ?hv2) rfl (by kernel_rfl) (by kernel_rfl) (by kernel_rfl) (fun _ _ _ h => h) (Or.inl ⟨by rfl, ?hy2⟩) (by assumption) ?hr2
  case hy2 => (intro w hSw; (try dsimp only at hSw); go_simp; (try with_reducible rfl))
  try simp only [Act.put, List.setIfInBounds_toArray, List.set_cons_zero, List.set_cons_succ]
  refine wpAnyH_done (by kernel_rfl) ?_ _
  go_wp2
  try simp only [Exit.inBlock, Exit.then]
  refine bodyPost_ret (results_cell_tmp_blk rfl _ _ (w.heap.size + 1) [.int .i64 id', .string rm, .int .i64 0, .slice AW lw.length cW] 24 _ rfl RR2.out Tryz.underlying24 rfl size24) rfl ?_
  obtain ⟨A3, c3, e3, hr3, _⟩ := Rcs.ofOwn RO2.out rfl (by have := HWl.out; omega) RW2.out.fit
  simp only [Value.slice.injEq, true_and] at e3
  obtain ⟨rfl, rfl⟩ := e3
  exact ⟨AW, cW, A2, c2, rfl, RW2.out, hr3, RB2.out⟩
end Go.Proofs.YtbkchcpfnoclhaaGreat
