/- Sessions: holders. Bounds: at most 1000 members, at most 900 devices each. -/
import Derived.Test.YtbkchcpfnoclhaaGreatV5
import Derived.Test.YtbkchcpfnoclhaaGreatV4
namespace Go.Proofs.YtbkchcpfnoclhaaGreat
set_option maxRecDepth 100000
open Go Go.RowKit
set_option linter.unusedVariables false
set_option linter.unusedSimpArgs false
set_option maxRecDepth 100000

theorem StrsB.grown {w w1 : World} {a : Option Addr} {len : Nat} {ls : List ByteArray} {row : Option Nat} (h : Strs w a len ls) (hg : w.grownBy w1 row) (hne : ∀ b off, a = some ⟨b, off, none⟩ → 0 < len → some b ≠ row) : Strs w1 a len ls := by
  obtain ⟨h1, h2, h3, h4⟩ := h
  refine ⟨h1, h2, h3, fun h0 => ?_⟩
  obtain ⟨b, off, e, hl, hc⟩ := h4 h0
  exact ⟨b, off, e, Nat.lt_of_lt_of_le hl hg.size, fun i hi => (World.cell?_of_block (a := ⟨b, off + i, none⟩) (hg.block b hl (hne b off e h0))).trans (hc i hi)⟩
theorem StrsB.lt_ {w : World} {b off len : Nat} {ls : List ByteArray} (h : Strs w (some ⟨b, off, none⟩) len ls) (h0 : 0 < len) : b < w.heap.size := by
  obtain ⟨_, _, _, h4⟩ := h
  obtain ⟨b', off', e, hl, _⟩ := h4 h0
  cases e; exact hl
namespace Hd
theorem own_open {w : World} {B n : Nat} {v : Value} {xs : List Value} (h : w.ownsRow B 39 2 v n xs) (h1 : v.ownBlock ≠ none) : ∃ g cap cur, v = .slice (some ⟨g, 0, none⟩) n cap ∧ B ≤ g ∧ Blk w g cur 39 ∧ n ≤ cap ∧ cap ≤ maxLen ∧ cap * 2 = cur.length ∧ cur.take (n * 2) = xs := by
  rcases h.2 with ⟨rfl, _⟩ | ⟨g, cap, cur, hv, hB, hg, hnc, hcm, hs, ht⟩
  · exact absurd rfl h1
  · exact ⟨g, cap, cur.toList, hv, hB, ⟨by rw [Array.toArray_toList]; exact hg⟩, hnc, hcm, by rw [Array.length_toList, hs], ht⟩
end Hd
/-- The holders of the first members. -/
def rkH (L : List ByteArray) (f : ByteArray → List ByteArray) (k : Nat) : List Hd.Rc := (L.take k).flatMap (fun u => (f u).map (fun d => ⟨u, d⟩))
theorem rkH_succ {L : List ByteArray} {f : ByteArray → List ByteArray} {k : Nat} (hk : k < L.length) : rkH L f (k + 1) = rkH L f k ++ (f (L.getD k ByteArray.empty)).map (fun d => ⟨L.getD k ByteArray.empty, d⟩) := by
  unfold rkH
  rw [List.take_succ_eq_append_getElem hk, List.flatMap_append, List.getD_eq_getElem?_getD, List.getElem?_eq_getElem hk]
  simp
theorem rkH_len {L : List ByteArray} {f : ByteArray → List ByteArray} (hf : ∀ u, (f u).length ≤ 900) : ∀ k, k ≤ L.length → (rkH L f k).length ≤ k * 900
  | 0, _ => by simp [rkH]
  | k + 1, h => by
    have h1 := rkH_len (L := L) hf k (by omega)
    have h2 := hf (L.getD k ByteArray.empty)
    rw [rkH_succ (by omega), List.length_append, List.length_map]
    omega
theorem rkH_fit {L : List ByteArray} {f : ByteArray → List ByteArray} (h1 : ∀ u ∈ L, u.size ≤ 9223372036854775807) (h2 : ∀ u, ∀ d ∈ f u, d.size ≤ 9223372036854775807) (k : Nat) : ∀ p ∈ rkH L f k, Hd.fitR p := by
  intro p hp
  unfold rkH at hp
  obtain ⟨u, hu, hp⟩ := List.mem_flatMap.1 hp
  obtain ⟨d, hd, rfl⟩ := List.mem_map.1 hp
  exact ⟨h1 u (List.mem_of_mem_take hu), h2 u d hd⟩
theorem dvI_len {w : World} {A : Option Addr} {n : Nat} {K : Nat → Kd} (h : Kys w A n K) (hd : ∀ j, j < n → (K j).ds.length ≤ 900) (u : ByteArray) : (dvI K n u).length ≤ 900 := by
  unfold dvI
  cases hk : kf K n u with
  | none => exact Nat.zero_le _
  | some j => simp only [List.length_map]; exact hd j (kf_lt hk).1
theorem dvI_fit {w : World} {A : Option Addr} {n : Nat} {K : Nat → Kd} (h : Kys w A n K) (u : ByteArray) : ∀ d ∈ dvI K n u, d.size ≤ 9223372036854775807 := by
  intro d hd
  unfold dvI at hd
  cases hk : kf K n u with
  | none => rw [hk] at hd; simp at hd
  | some j =>
    rw [hk] at hd
    obtain ⟨x, hx, rfl⟩ := List.mem_map.1 hd
    exact (h.row j (kf_lt hk).1).fit x hx
theorem take_map_succ {t : ByteArray} {ds : List Dv.Rc} {j : Nat} (h : j < ds.length) : (ds.map (fun d => (⟨t, d.id⟩ : Hd.Rc))).take (j + 1) = (ds.map (fun d => (⟨t, d.id⟩ : Hd.Rc))).take j ++ [⟨t, (ds.getD j Dv.t0).id⟩] := by
  rw [List.take_succ_eq_append_getElem (by rw [List.length_map]; exact h), List.getElem_map, Dv.getD_at h]
theorem info61 : (Tryz.prog.info? 39).map (fun i => (i.zero, i.size, i.bytes)) = some (some (.agg #[.string ⟨#[]⟩, .string ⟨#[]⟩]), 2, 32) := by kernel_rfl
theorem size65 : (Tryz.prog.info? 51).map (·.size) = some 3 := by kernel_rfl
def HoldP (w : World) (l : List Hd.Rc) (r : Ending) (w' : World) : Prop := ∃ A c, r = .returned (.slice A l.length c) ∧ Hd.Rcs w' A l.length c l ∧ (∀ b off, A = some ⟨b, off, none⟩ → w.heap.size ≤ b) ∧ Below w.heap.size w w'
theorem store_as61 {ops : Array Oper} {rest : List Oper} {op : Oper} {a : Act} {w : World} {Q : Exit → Act → World → Prop} (hgd : op.guard = none) (ty : TypeId) (x y : Operand) (ho : op.op = .store ty x y) (zs cs : List Value) (hl : cs.length = zs.length) (hx : a.eval x = .pointer (some ⟨w.heap.size, 0, none⟩)) (hy : a.eval y = .agg cs.toArray)
    (hi : (Tryz.prog.info? ty).map (·.size) = some cs.toArray.size) (h1 : cs.toArray.all (·.oneCell') = true)
    (h : ∀ w4, Blk w4 w.heap.size cs ty → Below w.heap.size w w4 → wpList Tryz.prog ops Q rest (a.put op.dst undef) w4) : wpList Tryz.prog ops Q (op :: rest) a (w.alloc (.cells zs.toArray ty)) := by
  refine store_mid_as hgd ty x y ho w.heap.size 0 cs.toArray hx hy ((blk_new w zs ty).there (by rw [List.size_toArray, hl]; exact Nat.le_refl _)) hi h1 ?_
  intro w4 e4
  refine h w4 ?_ ?_
  · rw [e4, List.toList_toArray]; exact (blk_new w zs ty).setAll cs hl
  · rw [e4]; exact below_setRow ((Below.refl _ _).alloc (Nat.le_refl _) _) (Nat.le_refl _) _ _
set_option maxHeartbeats 16000000 in
theorem holders31 (A1 : Option Addr) (n1 c1 : Nat) (ms : List ByteArray) (A : Option Addr) (n c : Nat) (K : Nat → Kd) (w : World) (hm : Strs w A1 n1 ms) (hc1 : n1 ≤ c1) (hn1 : n1 ≤ 1000) (h : Kys w A n K) (hd : ∀ j, j < n → (K j).ds.length ≤ 900) : Calls Tryz.prog 36 #[.slice A1 n1 c1, .slice A n c] w (HoldP w (holdL ms (dvI K n))) := by
  have H := Lib.hid h
  have HD := Lib.hid hd
  have HFl := Lib.hid (dvI_len h hd)
  have HFf := Lib.hid (dvI_fit h)
  have O0 := Lib.hid (World.ownsRow_made (base := w.heap.size) (e := 39) (size := 2) w #[] 0 (Nat.le_refl _) (by decide) (by simp))
  have BA := Lib.hid ((Below.refl w.heap.size w).alloc (Nat.le_refl _) (.cells #[] 39))
  have HN := Lib.hid (names_any A1 n1 c1 ms _ (hm.below BA.out) hc1 (by omega))
  have HLn : Hid ((I.nm (tx ms)).length ≤ 1000) := Lib.hid (by
    have := I.length_nm (tx ms)
    rw [tx_len, hm.1] at this
    omega)
  have HRaw := Lib.hid (show rawL ms (dvI K n) = rkH (nmB ms) (dvI K n) (nmB ms).length by unfold rawL rkH; rw [List.take_length])
  have HCp := Lib.hid (fun (zs : List Hd.Rc) h1 h2 => cpt_raw (ms := ms) (f := dvI K n) (zs := zs) h1 h2)
  rw [HRaw.out] at HCp
  have HLe := Lib.hid (show (nmB ms).length = (I.nm (tx ms)).length by unfold nmB bs; rw [List.length_map])
  have HLb : Hid (bs (I.nm (tx ms)) = nmB ms) := Lib.hid rfl
  unfold NamesP at HN
  rw [HLb.out, ← HLe.out] at HN
  rw [← HLe.out] at HLn
  generalize nmB ms = L at HN HLn HCp HRaw
  obtain ⟨i0, hi, hz0, hz1, hz2⟩ := info_parts info61
  have HI := Lib.hid (And.intro hi (And.intro hz0 (And.intro hz1 hz2)))
  clear h hd hm hi hz0 hz1 hz2 HRaw HLe HLb
  generalize holdL ms (dvI K n) = hl at HCp ⊢
  generalize hf : dvI K n = f at HFl HFf HCp
  have HFe := Lib.hid hf
  clear hf
  go_enter Tryz.func36, Tryz.ntmps36
  go_upto_region 3 with (first
    | (go_at_call 48; (with_reducible refine HN.out.mono ?_); rintro e w1 ⟨AN, cN, rfl, hcN, hs, hnw, hb⟩; have N1 := Lib.hid hs; have NW1 := Lib.hid hnw; have D1 := Lib.hid hb; have B1 := Lib.hid (BA.out.trans (hb.mono BA.out.size)); clear hcN hs hnw hb)
    | fail)
  have hLn := HLn.out
  have O1 := Lib.hid (own_keep O0.out (fun b _ hl => D1.out.block b hl))
  have AP1 : Hid (∀ b off, AN = some ⟨b, off, none⟩ → 0 < L.length → (Value.slice (some ⟨w.heap.size, 0, none⟩) 0 0).ownBlock ≠ some b) := Lib.hid (fun b off e h0 e1 => by
    have h1 := NW1.out b off e
    have h2 : w.heap.size = b := Option.some.inj e1
    simp only [World.size_alloc] at h1
    omega)
  clear O0 BA HN
  go_wp2
  go_loopg [5, 7, 8, 9, 11, 16] L.length (fun gg s5 _ _ _ _ s16 wr => ∃ (k : Nat) (v : Value), k ≤ L.length ∧ L.length - k ≤ gg ∧ v = s5 ∧ s16 = .int .i64 (k : Int) ∧ Hid (wr.ownsRow w.heap.size 39 2 v (rkH L f k).length (Hd.cl (rkH L f k))) ∧ Hid (Below w.heap.size w wr) ∧ Hid (Strs wr AN L.length L) ∧ Hid (v.ownBlock ≠ none) ∧ Hid (∀ b off, AN = some ⟨b, off, none⟩ → 0 < L.length → v.ownBlock ≠ some b))
  case atStart => exact ⟨0, _, Nat.zero_le _, by omega, rfl, rfl, O1, B1, N1, Lib.hid (by simp [Value.ownBlock]), AP1⟩
  case round =>
    clear O1 B1 N1 AP1 D1
    obtain ⟨k, v, hk, hg, rfl, rfl, HO, BW, HS, HV, AP⟩ := hrel
    have hrl := rkH_len HFl.out k hk
    by_cases hlt : k < L.length
    · have hltz : (k : Int) < (L.length : Int) := by omega
      have hk0 : (0 : Int) ≤ (k : Int) := by omega
      obtain ⟨bn, on, rfl, t, ht, hts, hbn, q0⟩ := HS.out.str hlt
      have HT2 := Lib.hid (rkH_succ (f := f) hlt)
      rw [← ht] at HT2
      have HG := Lib.hid (get43 t A n c K wr (H.out.below BW.out) (fun j hj => Nat.le_trans (HD.out j hj) (by omega)))
      unfold GetP at HG
      rw [HFe.out] at HG
      have hft := HFl.out t
      have HAPb := Lib.hid (AP.out bn on rfl (by omega))
      clear ht
      generalize rkH L f k = rp at HO hrl HT2
      go_upto_region 7 with (first
        | (go_at_call 49; (with_reducible refine HG.out.mono ?_); rintro e w2 ⟨us, m1, p1, AD, cD, ds, qq, rfl, hr, hid, hnw, hb⟩; have R2 := Lib.hid hr; have HId := Lib.hid hid; have NW := Lib.hid hnw; have C2 := Lib.hid hb; clear hr hid hnw hb)
        | (refine store_as61 rfl 54 _ _ rfl [.string ⟨#[]⟩, .int .i64 0, .int .i64 0, .slice none 0 0] [.string us, .int .i64 m1, .int .i64 p1, .slice AD ds.length cD] rfl rfl rfl size68 (by simp [Value.oneCell']) ?_; intro w3 hx hb; have X3 := Lib.hid hx; have C3 := Lib.hid hb; have y3 := hx.cell (i := 3) rfl; clear hx hb)
        | fail)
      have D3 := Lib.hid (C2.out.trans (C3.out.mono C2.out.size))
      have B3 := Lib.hid (BW.out.trans (D3.out.mono BW.out.size))
      have R3 := Lib.hid (R2.out.below C3.out)
      have S3 := Lib.hid (HS.out.below D3.out)
      have O3 := Lib.hid (own_keep HO.out (fun b _ hl => D3.out.block b hl))
      have APD : Hid (∀ b off, AD = some ⟨b, off, none⟩ → some b ≠ v.ownBlock) := Lib.hid (fun b off e e1 => by
        have h1 := (HO.out.lt b e1.symm).2
        have h2 := NW.out b off e
        omega)
      have HGl := Lib.hid (show (f t).map (fun d => (⟨t, d⟩ : Hd.Rc)) = ds.map (fun d => (⟨t, d.id⟩ : Hd.Rc)) by rw [← HId.out, List.map_map]; rfl)
      have hdl : ds.length ≤ 900 := by
        have h1 : (ds.map (·.id)).length = ds.length := List.length_map _
        rw [HId.out] at h1
        omega
      rw [HGl.out] at HT2
      clear HG C2 C3 R2 HO HS D3 BW X3 HGl HId hft
      obtain ⟨wo, rfl⟩ : ∃ x : World, x = wr := ⟨_, rfl⟩
      go_wp2
      clear y3
      go_loopg [5, 11, 29] ds.length (fun gg s5 _ s29 wr => ∃ (j : Nat) (v : Value), j ≤ ds.length ∧ ds.length - j ≤ gg ∧ v = s5 ∧ s29 = .int .i64 (j : Int) ∧ Hid (wr.ownsRow w.heap.size 39 2 v (rp.length + j) (Hd.cl (rp ++ (ds.map (fun d => (⟨t, d.id⟩ : Hd.Rc))).take j))) ∧ Hid (Below w.heap.size w wr) ∧ Hid (Strs wr (some ⟨bn, on, none⟩) L.length L) ∧ Hid (Dv.Rcs wr AD ds.length cD ds) ∧ Hid (v.ownBlock ≠ none) ∧ Hid (v.ownBlock ≠ some bn) ∧ Hid (∀ b off, AD = some ⟨b, off, none⟩ → some b ≠ v.ownBlock))
      case atStart => exact ⟨0, v, Nat.zero_le _, by omega, rfl, rfl, Lib.hid (by rw [List.take_zero, List.append_nil]; exact O3.out), B3, S3, R3, HV, HAPb, APD⟩
      case round =>
        clear O3 B3 S3 R3 HV HAPb APD AP
        obtain ⟨j, v, hj, hg2, rfl, rfl, HO, BW, HS, HR, HV, HAPb, APD⟩ := hrel
        by_cases hlj : j < ds.length
        · have hljz : (j : Int) < (ds.length : Int) := by omega
          have hj0 : (0 : Int) ≤ (j : Int) := by omega
          obtain ⟨bd, od, rfl, hbd, hr, _⟩ := HR.out.get hlj
          have HRg := Lib.hid hr
          have HTk := Lib.hid (take_map_succ (t := t) hlj)
          have HNe := Lib.hid (APD.out bd od rfl)
          clear hr
          generalize ds.getD j Dv.t0 = dd at HRg HTk
          go_upto_region 9 with (first
            | (refine wpList_load_mid rfl 51 _ rfl bd (od + j * 3) rfl (Dv.enc dd) _ HRg.out Tryz.underlying51 rfl size65 ?_)
            | (refine store_as61 rfl 51 _ _ rfl [.string ⟨#[]⟩, .int .i64 0, .bool false] (Dv.enc dd) rfl rfl rfl size65 (by simp [Dv.enc, Value.oneCell']) ?_; intro w4 hx hb; have k0 := hx.cell (i := 0) (v := .string dd.id) rfl; have C4 := Lib.hid hb; clear hx hb)
            | fail)
          have B4 := Lib.hid (BW.out.trans (C4.out.mono BW.out.size))
          have O4 := Lib.hid (own_keep HO.out (fun b _ hl => C4.out.block b hl))
          have S4 := Lib.hid (HS.out.below C4.out)
          have R4 := Lib.hid (HR.out.below C4.out)
          clear HO BW HS HR HRg
          go_wp2_with (first
            | (at_builtin; refine wpList_append_any _ rfl _ _ 72 rfl w.heap.size 39 i0 _ 2 32 Tryz.underlying72 HI.out.1 HI.out.2.1 HI.out.2.2.1 HI.out.2.2.2 rfl (by decide) v (rp.length + j) _ rfl (O4.out.alloc _) _ 1 1 (Hd.enc ⟨t, dd.id⟩) rfl (Hd.blk_src (p := ⟨t, dd.id⟩) (blk_new w4 (Hd.enc ⟨t, dd.id⟩) 39)) (by unfold maxLen; omega) (by omega) (B4.out.alloc B4.out.size _).size ?_; intro v5 w5 hgr; have B5 := Lib.hid (hgr.below (B4.out.alloc B4.out.size _) (O4.out.alloc _)); have O5 := Lib.hid hgr.own; have S5 := Lib.hid (StrsB.grown (S4.out.below ((Below.refl _ _).alloc (Nat.le_refl _) _)) hgr.grow (fun b off e h0 => by cases e; exact fun e1 => HAPb.out e1.symm)); have R5 := Lib.hid ((R4.out.below ((Below.refl _ _).alloc (Nat.le_refl _) _)).grew hgr.grow (fun b off e => by cases e; exact HNe.out)); have V5 := Lib.hid (show v5.ownBlock ≠ none by rcases hgr.at_ with e | e <;> rw [e]; exact HV.out; simp); have A5 := Lib.hid (show v5.ownBlock ≠ some bn by rcases hgr.at_ with e | e <;> rw [e]; exact HAPb.out; (intro e1; have e2 := Option.some.inj e1; have := S4.out.lt_ (by omega); simp only [World.size_alloc] at e2; omega)); have P5 := Lib.hid (show ∀ b off, some (⟨bd, od, none⟩ : Addr) = some ⟨b, off, none⟩ → some b ≠ v5.ownBlock from fun b off e => by cases e; rcases hgr.at_ with e | e <;> rw [e]; exact HNe.out; (intro e1; have e2 := Option.some.inj e1; have := C4.out.size; simp only [World.size_alloc] at e2; omega)); clear hgr)
            | go_in)
          go_roundg (ds.length - (j + 1))
          case measure => omega
          case rel => exact ⟨j + 1, v5, by omega, by omega, rfl, by go_num, Lib.hid (by rw [HTk.out, ← List.append_assoc, ← Hd.cl_snoc, show rp.length + (j + 1) = rp.length + j + 1 by omega]; exact O5.out), B5, S5, R5, V5, A5, P5⟩
        · have hljz : ¬ (j : Int) < (ds.length : Int) := by omega
          obtain rfl : j = ds.length := by omega
          go_wp2
          go_roundg (L.length - (k + 1))
          case measure => omega
          case rel =>
            refine ⟨k + 1, v, by omega, by omega, rfl, by go_num, Lib.hid ?_, BW, HS, HV, Lib.hid (fun b off e h0 => by cases e; exact HAPb.out)⟩
            have h1 := HO.out
            rw [List.take_of_length_le (by rw [List.length_map]; exact Nat.le_refl _)] at h1
            rw [HT2.out, List.length_append, List.length_map]
            exact h1
    · have hltz : ¬ (k : Int) < (L.length : Int) := by omega
      obtain rfl : k = L.length := by omega
      have hfit := rkH_fit (L := L) HS.out.2.2.1 HFf.out L.length
      obtain ⟨g, cap, cur, rfl, hB, hblk, hnc, hcm, hcs, hct⟩ := Hd.own_open HO.out HV.out
      have HFi := Lib.hid hfit
      have HSo := Lib.hid (Hd.sortF_any g cap (rkH L f L.length) wr (Hd.holds_of_blk hblk hct rfl) hblk.lt (by omega))
      have HBl := Lib.hid hblk
      have HB := Lib.hid hB
      have HCs := Lib.hid hcs
      clear hfit hblk hct hcs hB HO
      generalize rkH L f L.length = ys at HSo HFi HCp hrl hnc ⊢
      go_wp2_with (first
        | (go_at_call 50; (with_reducible refine HSo.out.mono ?_); rintro e w2 ⟨rfl, zs, hp, hs, hh, hgw, hcur⟩; obtain ⟨cur', hb2, hl2⟩ := hcur cur HBl.out; have HP := Lib.hid hp; have HSs := Lib.hid hs; have HZl : Hid (zs.length = ys.length) := Lib.hid hp.length_eq; have HE := Lib.hid (show cur' = Hd.cl zs ++ cur'.drop (ys.length * 2) from by rw [← Hd.take_of_holds hb2 hh HZl.out (by rw [hl2, ← HCs.out]; omega)]; exact (List.take_append_drop _ _).symm); have HB2 := Lib.hid (HE.out ▸ hb2); have BW2 := Lib.hid (BW.out.grown hgw BW.out.size (fun k hk => by cases hk; exact HB.out)); clear hp hs hh hgw hcur hb2 hl2)
        | (go_at_call 51; (with_reducible refine (Hd.compact45 g ys.length cap w.heap.size (cur'.drop (ys.length * 2)) zs w2 HB2.out hnc HZl.out (by omega) HB.out (fun p hp => HFi.out p ((HP.out.mem_iff).1 hp))).mono ?_); rintro e w3 ⟨rfl, hr, hb⟩; have R3 := Lib.hid hr; have B3 := Lib.hid hb; clear hr hb)
        | go_in)
      go_ret
      have e1 := HCp.out zs HP.out HSs.out
      rw [HZl.out] at e1
      rw [e1] at R3 ⊢
      exact ⟨some ⟨g, 0, none⟩, cap, rfl, R3.out, fun b off e => by cases e; exact HB.out, BW2.out.trans B3.out⟩
end Go.Proofs.YtbkchcpfnoclhaaGreat
