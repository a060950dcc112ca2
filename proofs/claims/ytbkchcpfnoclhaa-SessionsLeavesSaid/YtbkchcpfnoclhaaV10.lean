/- Sessions: share, Devices of the reference. Bounds: at most 1000 members, at most 900 devices each. -/
import Derived.Test.YtbkchcpfnoclhaaV9
import Derived.Test.YtbkchcpfnoclhaaIW13
namespace Go.Proofs.Ytbkchcpfnoclhaa
open Go Go.RowKit
set_option linter.unusedVariables false
set_option linter.unusedSimpArgs false
set_option maxRecDepth 100000

/-- The shares of holders, with an index. -/
def shL (hl : List Hd.Rc) (ix : Int) : List Rc := hl.map (fun h => ⟨h.us, h.dv, ix⟩)
theorem shL_want (hl : List Hd.Rc) (ix : Int) : wantL [] ix hl = shL hl ix := by
  unfold wantL shL
  congr 1
  exact List.filter_eq_self.2 (fun p hp => rfl)
/-- The shares of the first members. -/
def rkN (L : List ByteArray) (f : ByteArray → List ByteArray) (ix : Int) (k : Nat) : List Rc := (L.take k).flatMap (fun u => (nmB (f u)).map (fun d => ⟨u, d, ix⟩))
theorem rkN_succ {L : List ByteArray} {f : ByteArray → List ByteArray} {ix : Int} {k : Nat} (hk : k < L.length) : rkN L f ix (k + 1) = rkN L f ix k ++ (nmB (f (L.getD k ByteArray.empty))).map (fun d => ⟨L.getD k ByteArray.empty, d, ix⟩) := by
  unfold rkN
  rw [List.take_succ_eq_append_getElem hk, List.flatMap_append, List.getD_eq_getElem?_getD, List.getElem?_eq_getElem hk]
  simp
theorem rkN_all (ms : List ByteArray) (f : ByteArray → List ByteArray) (ix : Int) : rkN (nmB ms) f ix (nmB ms).length = shL (holdL ms f) ix := by
  unfold rkN shL holdL
  rw [List.take_length, List.map_flatMap]
  congr 1
  funext u
  rw [List.map_map]
  rfl
theorem rkN_len {L : List ByteArray} {f : ByteArray → List ByteArray} {ix : Int} (hf : ∀ u, (f u).length ≤ 900) : ∀ k, k ≤ L.length → (rkN L f ix k).length ≤ k * 900
  | 0, _ => by simp [rkN]
  | k + 1, h => by
    have h1 := rkN_len (L := L) (ix := ix) hf k (by omega)
    have h2 := hf (L.getD k ByteArray.empty)
    have h3 := nmB_len (f (L.getD k ByteArray.empty))
    rw [rkN_succ (by omega), List.length_append, List.length_map]
    omega
theorem rkN_fit {L : List ByteArray} {f : ByteArray → List ByteArray} {ix : Int} (h1 : ∀ u ∈ L, u.size ≤ 9223372036854775807) (h2 : ∀ u, ∀ d ∈ f u, d.size ≤ 9223372036854775807) (k : Nat) : ∀ p ∈ rkN L f ix k, fitR p := by
  intro p hp
  unfold rkN at hp
  obtain ⟨u, hu, hp⟩ := List.mem_flatMap.1 hp
  obtain ⟨d, hd, rfl⟩ := List.mem_map.1 hp
  exact ⟨h1 u (List.mem_of_mem_take hu), h2 u d ((mem_nmB _ _).1 hd)⟩
/-- The ids of devices, as texts. -/
def idT (ds : List Dv.Rc) : List I.Txt := ds.map (fun d => d.id.data.toList)
theorem idT_tx (ds : List Dv.Rc) : idT ds = tx (ds.map (·.id)) := by unfold idT tx; rw [List.map_map]; rfl
theorem idT_succ {ds : List Dv.Rc} {j : Nat} (h : j < ds.length) : ((idT ds).take (j + 1)).map encStr = ((idT ds).take j).map encStr ++ [.string (ds.getD j Dv.t0).id] := by
  unfold idT
  rw [List.take_succ_eq_append_getElem (by rw [List.length_map]; exact h), List.map_append, List.getElem_map, Dv.getD_at h]
  rfl
theorem gl_succ {t : ByteArray} {ns : List ByteArray} {ix : Int} {j : Nat} (h : j < ns.length) : (ns.map (fun d => (⟨t, d, ix⟩ : Rc))).take (j + 1) = (ns.map (fun d => (⟨t, d, ix⟩ : Rc))).take j ++ [⟨t, ns.getD j ByteArray.empty, ix⟩] := by
  rw [List.take_succ_eq_append_getElem (by rw [List.length_map]; exact h), List.getElem_map, List.getD_eq_getElem?_getD, List.getElem?_eq_getElem h]
  rfl
theorem str_one (w : World) (t : ByteArray) : Src (w.alloc (.cells #[.string t] 9)) (some ⟨w.heap.size, 0, none⟩) 1 1 1 [.string t] :=
  ⟨rfl, (fun e => by cases e), .inr ⟨w.heap.size, 0, rfl, by simp, fun j u hu => by rw [Nat.zero_add]; exact (blk_new w [.string t] 9).cell hu⟩, by simp [Value.oneCell']⟩
theorem kf_none {K : Nat → Kd} {n : Nat} {u : ByteArray} (h : ∀ j, j < n → ¬ (K j).us = u) : dvI K n u = [] := by unfold dvI; rw [kf_no h]
theorem kf_some {K : Nat → Kd} {n k : Nat} {u : ByteArray} (hk : k < n) (h : (K k).us = u) (hn : ∀ j, j < k → ¬ (K j).us = u) : dvI K n u = (K k).ds.map (·.id) := by unfold dvI; rw [kf_at hk h hn]
theorem nmB_nil : nmB [] = [] := List.eq_nil_of_length_eq_zero (Nat.le_zero.1 (nmB_len []))
set_option maxHeartbeats 16000000 in
theorem devices26 (A1 : Option Addr) (n1 c1 : Nat) (ms : List ByteArray) (A : Option Addr) (n c : Nat) (K : Nat → Kd) (ix : Int) (w : World) (hm : Strs w A1 n1 ms) (hn1 : n1 ≤ 1000) (h : Kys w A n K) (hn : n ≤ 900000) (hd : ∀ j, j < n → (K j).ds.length ≤ 900) : Calls Try.prog 26 #[.slice A1 n1 c1, .slice A n c, .int .i64 ix] w (WantP w (shL (holdL ms (dvI K n)) ix)) := by
  have H := Lib.hid h
  have HD := Lib.hid hd
  have HFl := Lib.hid (dvI_len h hd)
  have HFf := Lib.hid (dvI_fit h)
  have HKs := Lib.hid (fun k u (hk : k < n) h1 h2 => kf_some (K := K) (n := n) (k := k) (u := u) hk h1 h2)
  have HKn := Lib.hid (fun u h1 => kf_none (K := K) (n := n) (u := u) h1)
  have HN := Lib.hid (rnames_any A1 n1 c1 ms w hm (by omega))
  have HNi := Lib.hid (fun a len cap ls u (hs : Strs u a len ls) (hl : len ≤ 1000000) => rnames_any a len cap ls u hs hl)
  have HLn : Hid ((nmB ms).length ≤ 1000) := Lib.hid (by
    have h1 := nmB_len ms
    rw [hm.1] at h1
    omega)
  have HAll := Lib.hid (rkN_all ms (dvI K n) ix)
  have HLe := Lib.hid (show (nmB ms).length = (I.nm (tx ms)).length by unfold nmB bs; rw [List.length_map])
  have HLb : Hid (bs (I.nm (tx ms)) = nmB ms) := Lib.hid rfl
  unfold NamesP at HN
  rw [HLb.out, ← HLe.out] at HN
  generalize nmB ms = L at HN HLn HAll
  obtain ⟨i0, hi, hz0, hz1, hz2⟩ := info_parts info55
  have HI := Lib.hid (And.intro hi (And.intro hz0 (And.intro hz1 hz2)))
  obtain ⟨i9, hi, hz0, hz1, hz2⟩ := info_parts info9
  have HI9 := Lib.hid (And.intro hi (And.intro hz0 (And.intro hz1 hz2)))
  clear h hd hm hi hz0 hz1 hz2 HLe HLb
  generalize shL (holdL ms (dvI K n)) ix = res at HAll ⊢
  generalize hf : dvI K n = f at HFl HFf HAll HKs HKn
  clear hf
  go_enter Try.func26, Try.ntmps26
  go_upto_region 4 with (first
    | (go_at_call 39; (with_reducible refine HN.out.mono ?_); rintro e w1 ⟨AN, cN, rfl, hcN, hs, hnw, hb⟩; have N1 := Lib.hid hs; have B1 := Lib.hid hb; clear hcN hs hnw hb)
    | fail)
  have hLn := HLn.out
  clear HN
  have O1 : Hid (w1.ownsRow w.heap.size 55 3 (.slice none 0 0) 0 []) := Lib.hid ⟨rfl, .inl ⟨rfl, rfl⟩⟩
  go_wp2
  go_loopg [8, 9, 10, 11, 12, 13, 14] L.length (fun gg s8 s9 _ _ _ _ _ wr => ∃ (i : Nat) (v : Value), i ≤ L.length ∧ L.length - i ≤ gg ∧ v = s8 ∧ s9 = .int .i64 (i : Int) ∧ Hid (wr.ownsRow w.heap.size 55 3 v (rkN L f ix i).length (cl (rkN L f ix i))) ∧ Hid (Below w.heap.size w wr) ∧ Hid (Strs wr AN L.length L) ∧ Hid (∀ b off, AN = some ⟨b, off, none⟩ → 0 < L.length → v.ownBlock ≠ some b))
  case atStart => exact ⟨0, _, Nat.zero_le _, by omega, rfl, rfl, O1, B1, N1, Lib.hid (fun b off e h0 e1 => by cases e1)⟩
  case round =>
    clear O1 B1 N1
    obtain ⟨i, v, hi, hg, rfl, rfl, HO, BW, HS, AP⟩ := hrel
    have hrl := rkN_len (L := L) (ix := ix) HFl.out i hi
    by_cases hlt : i < L.length
    · have hltz : (i : Int) < (L.length : Int) := by omega
      have hi0 : (0 : Int) ≤ (i : Int) := by omega
      obtain ⟨bn, on, rfl, t, ht, hts, _, _⟩ := HS.out.str hlt
      have HT2 := Lib.hid (rkN_succ (f := f) (ix := ix) hlt)
      rw [← ht] at HT2
      have HQt := Lib.hid (show ∀ u, Strs u (some ⟨bn, on, none⟩) L.length L → u.cell? ⟨bn, on + i, none⟩ = some (.string t) from fun u hu => by
        obtain ⟨b', o', e, t', e1, _, _, hc⟩ := hu.str hlt
        cases e
        rw [hc, e1, ← ht])
      clear ht
      generalize hr1 : rkN L f ix (i + 1) = rp1 at HT2
      have HR1 := Lib.hid hr1
      clear hr1
      generalize rkN L f ix i = rp at HO hrl HT2
      go_wp2
      go_loopg [8, 10, 11, 12, 13, 14] n (fun gg s8 s10 s11 _ _ _ wr => ∃ (q : Bool) (kk : Nat) (v : Value), kk ≤ n ∧ n - kk ≤ gg ∧ v = s8 ∧ s10 = .bool q ∧ s11 = .int .i64 (kk : Int) ∧ Hid (wr.ownsRow w.heap.size 55 3 v (if q = true then rp1 else rp).length (cl (if q = true then rp1 else rp))) ∧ Hid (Below w.heap.size w wr) ∧ Hid (Strs wr (some ⟨bn, on, none⟩) L.length L) ∧ Hid (∀ b off, some (⟨bn, on, none⟩ : Addr) = some ⟨b, off, none⟩ → 0 < L.length → v.ownBlock ≠ some b) ∧ Hid (q = false → ∀ j, j < kk → ¬ (K j).us = t))
      case atStart => exact ⟨false, 0, v, Nat.zero_le _, by omega, rfl, rfl, rfl, Lib.hid HO.out, BW, HS, AP, Lib.hid (fun _ j hj => absurd hj (Nat.not_lt_zero _))⟩
      case round =>
        clear HO BW HS AP
        obtain ⟨q, kk, v, hkk, hg1, rfl, rfl, rfl, HO, BW, HS, AP, HJ⟩ := hrel
        cases q with
        | true =>
          -- found: the loop ends
          have HO1 := Lib.hid (show wr.ownsRow w.heap.size 55 3 v rp1.length (cl rp1) from HO.out)
          clear HO HJ
          by_cases hlk : (kk : Int) < (n : Int)
          · go_wp2
            go_roundg (L.length - (i + 1))
            case measure => omega
            case rel => exact ⟨i + 1, v, by omega, by omega, rfl, by go_num, Lib.hid (by rw [HR1.out]; exact HO1.out), BW, HS, AP⟩
          · go_wp2
            go_roundg (L.length - (i + 1))
            case measure => omega
            case rel => exact ⟨i + 1, v, by omega, by omega, rfl, by go_num, Lib.hid (by rw [HR1.out]; exact HO1.out), BW, HS, AP⟩
        | false =>
          have HO1 := Lib.hid (show wr.ownsRow w.heap.size 55 3 v rp.length (cl rp) from HO.out)
          have HJ1 := Lib.hid (HJ.out rfl)
          clear HO HJ
          by_cases hlk : kk < n
          · have hlkz : (kk : Int) < (n : Int) := by omega
            have hkk0 : (0 : Int) ≤ (kk : Int) := by omega
            obtain ⟨bk, ok, rfl, hbk, hr⟩ := (H.out.below BW.out).get hlk
            have p0 : wr.cell? ⟨bk, ok + kk * 4, none⟩ = some (.string (K kk).us) := hr 0 _ rfl
            have HP3 := Lib.hid (fun u (hb : Below wr.heap.size wr u) => (hb.cell (p := ⟨bk, ok + kk * 4 + 3, none⟩) hbk).trans (hr 3 _ rfl))
            have q0 := HQt.out wr HS.out
            have HRo := Lib.hid (fun u (hb : Below w.heap.size w u) => (H.out.row kk hlk).below hb)
            have HDk := Lib.hid (HD.out kk hlk)
            have HKk := Lib.hid (fun h1 => HKs.out kk t hlk h1 HJ1.out)
            clear hr
            by_cases hq : (K kk).us = t
            · have z1 : ((K kk).us.toList == t.toList) = true := by rw [hq]; exact beq_self_eq_true _
              have HK2 := Lib.hid (HKk.out hq)
              have hln := (H.out.row kk hlk).len
              clear hq HKk HJ1
              generalize K kk = k at p0 z1 HP3 HRo HDk HK2 hln
              obtain ⟨us, m1, p1, AD, nD, cD, ds⟩ := k
              dsimp only at p0 z1 HP3 HRo HDk HK2 hln
              subst hln
              go_wp2
              go_quiet (fail)
              generalize hwd : World.drewN wr _ = wd
              have BD := Lib.hid (show Below w.heap.size w wd by rw [← hwd]; exact bel_dn BW.out _)
              have OD := Lib.hid (show wd.ownsRow w.heap.size 55 3 v rp.length (cl rp) by rw [← hwd]; exact own_keep HO1.out (fun g _ hl => rfl))
              have SD := Lib.hid (show Strs wd (some ⟨bn, on, none⟩) L.length L by rw [← hwd]; exact HS.out.below (bel_dn (Below.refl _ _) _))
              have DD := Lib.hid (show Below wr.heap.size wr wd by rw [← hwd]; exact bel_dn (Below.refl _ _) _)
              clear hwd p0 q0 HO1 HS
              have I0 := Lib.hid (World.ownsRow_made (base := wd.heap.size) (e := 9) (size := 1) wd #[] 0 (Nat.le_refl _) (by decide) (by simp))
              have BI := Lib.hid ((Below.refl wd.heap.size wd).alloc (Nat.le_refl _) (.cells #[] 9))
              go_wp2
              have hdl := HDk.out
              go_loopg [12, 13] ds.length (fun gg s12 s13 wr => ∃ (j : Nat) (vi : Value), j ≤ ds.length ∧ ds.length - j ≤ gg ∧ vi = s12 ∧ s13 = .int .i64 (j : Int) ∧ Hid (wr.ownsRow wd.heap.size 9 1 vi j (((idT ds).take j).map encStr)) ∧ Hid (Below wd.heap.size wd wr))
              case atStart => exact ⟨0, _, Nat.zero_le _, by omega, rfl, rfl, Lib.hid I0.out, BI⟩
              case round =>
                clear I0 BI
                obtain ⟨j, vi, hj, hg2, rfl, rfl, HOi, BX⟩ := hrel
                have p3 := HP3.out _ (DD.out.trans (BX.out.mono DD.out.size))
                by_cases hlj : j < ds.length
                · have hljz : (j : Int) < (ds.length : Int) := by omega
                  have hj0 : (0 : Int) ≤ (j : Int) := by omega
                  obtain ⟨bd, od, rfl, hbd, hr, _⟩ := (HRo.out _ (BD.out.trans (BX.out.mono BD.out.size))).get hlj
                  have d0 : wr.cell? ⟨bd, od + j * 3, none⟩ = some (.string (ds.getD j Dv.t0).id) := hr 0 _ rfl
                  have HTk := Lib.hid (idT_succ hlj)
                  clear hr
                  generalize (ds.getD j Dv.t0).id = dd at d0 HTk
                  go_wp2_with (first
                    | (at_builtin; refine wpList_append_any _ rfl _ _ 35 rfl wd.heap.size 9 i9 _ 1 16 Try.underlying35 HI9.out.1 HI9.out.2.1 HI9.out.2.2.1 HI9.out.2.2.2 rfl (by decide) vi j _ rfl (HOi.out.alloc _) _ 1 1 [.string dd] rfl (str_one _ dd) (by unfold maxLen; omega) (by omega) (BX.out.alloc BX.out.size _).size ?_; intro v5 w5 hgr; have B5 := Lib.hid (hgr.below (BX.out.alloc BX.out.size _) (HOi.out.alloc _)); have O5 := Lib.hid hgr.own; clear hgr)
                    | go_in)
                  go_roundg (ds.length - (j + 1))
                  case measure => omega
                  case rel => exact ⟨j + 1, v5, by omega, by omega, rfl, by go_num, Lib.hid (by rw [HTk.out]; exact O5.out), B5⟩
                · have hljz : ¬ (j : Int) < (ds.length : Int) := by omega
                  obtain rfl : j = ds.length := by omega
                  have hFit : Fit (idT ds) := fun x hx => by
                    unfold idT at hx
                    obtain ⟨d, hd, rfl⟩ := List.mem_map.1 hx
                    have := (HRo.out w (Below.refl _ _)).fit d hd
                    rw [len_data']; exact this
                  have hO2 := HOi.out
                  rw [List.take_of_length_le (by unfold idT; rw [List.length_map]; exact Nat.le_refl _)] at hO2
                  obtain ⟨Ai, ci, rfl, _, _, hsi⟩ := own_strs hO2 hFit (by omega)
                  have hbs : bs (idT ds) = ds.map (·.id) := by rw [idT_tx, bs_tx]
                  rw [hbs] at hsi
                  have HNm := Lib.hid (HNi.out Ai ds.length ci (ds.map (·.id)) wr hsi (by omega))
                  have hnl := nmB_len (ds.map (·.id))
                  rw [List.length_map] at hnl
                  have HNl := Lib.hid (show (nmB (ds.map (·.id))).length = (I.nm (tx (ds.map (·.id)))).length by unfold nmB bs; rw [List.length_map])
                  have HNb : Hid (bs (I.nm (tx (ds.map (·.id)))) = nmB (ds.map (·.id))) := Lib.hid rfl
                  unfold NamesP at HNm
                  rw [HNb.out, ← HNl.out] at HNm
                  rw [HK2.out] at HT2
                  generalize nmB (ds.map (·.id)) = ns at HNm HT2 hnl
                  have HRe := Lib.hid (show rp1 = rp ++ ns.map (fun d => (⟨t, d, ix⟩ : Rc)) from HT2.out)
                  have DW := Lib.hid (BD.out.trans (BX.out.mono BD.out.size))
                  clear hO2 hsi hbs HNl HNb HT2 HOi hFit
                  go_upto_region 19 with (first
                    | (go_at_call 39; go_loud ((with_reducible refine HNm.out.mono ?_); rintro e w5 ⟨AI, cI, rfl, hcI, hs, hnw, hb⟩; have S5 := Lib.hid hs; have NW := Lib.hid hnw; have C5 := Lib.hid (BX.out.trans (hb.mono BX.out.size)); have B5 := Lib.hid (DW.out.trans (hb.mono DW.out.size)); clear hcI hs hnw hb))
                    | fail)
                  have O5 := Lib.hid (own_keep OD.out (fun b _ hl => C5.out.block b hl))
                  have N5 := Lib.hid (SD.out.below C5.out)
                  have A5 : Hid (∀ b off, AI = some ⟨b, off, none⟩ → 0 < ns.length → v.ownBlock ≠ some b) := Lib.hid (fun b off e h0 e1 => by
                    have h1 := (OD.out.lt b e1).2
                    have h2 := NW.out b off e
                    have h3 := BX.out.size
                    omega)
                  clear OD SD BX DW C5 HNm NW
                  generalize hgl : ns.map (fun d => (⟨t, d, ix⟩ : Rc)) = gl at HRe
                  have HGl := Lib.hid hgl
                  clear hgl
                  go_wp2
                  go_loopg [8, 14] ns.length (fun gg s8 s14 wr => ∃ (j : Nat) (v : Value), j ≤ ns.length ∧ ns.length - j ≤ gg ∧ v = s8 ∧ s14 = .int .i64 (j : Int) ∧ Hid (wr.ownsRow w.heap.size 55 3 v (rp.length + j) (cl (rp ++ gl.take j))) ∧ Hid (Below w.heap.size w wr) ∧ Hid (Strs wr (some ⟨bn, on, none⟩) L.length L) ∧ Hid (∀ b off, some (⟨bn, on, none⟩ : Addr) = some ⟨b, off, none⟩ → 0 < L.length → v.ownBlock ≠ some b) ∧ Hid (Strs wr AI ns.length ns) ∧ Hid (∀ b off, AI = some ⟨b, off, none⟩ → 0 < ns.length → v.ownBlock ≠ some b))
                  case atStart => exact ⟨0, v, Nat.zero_le _, by omega, rfl, rfl, Lib.hid (by rw [List.take_zero, List.append_nil]; exact O5.out), B5, N5, AP, S5, A5⟩
                  case round =>
                    clear O5 B5 N5 AP S5 A5
                    obtain ⟨j, v, hj, hg3, rfl, rfl, HO, BX, HS, AP, HR, AQ⟩ := hrel
                    by_cases hlj : j < ns.length
                    · have hljz : (j : Int) < (ns.length : Int) := by omega
                      have hj0 : (0 : Int) ≤ (j : Int) := by omega
                      obtain ⟨bi, oi, rfl, dd, hdd, _, _, _⟩ := HR.out.str hlj
                      have HTk := Lib.hid (gl_succ (t := t) (ix := ix) hlj)
                      rw [← hdd, HGl.out] at HTk
                      have HQd := Lib.hid (show ∀ u, Strs u (some ⟨bi, oi, none⟩) ns.length ns → u.cell? ⟨bi, oi + j, none⟩ = some (.string dd) from fun u hu => by
                        obtain ⟨b', o', e, t', e1, _, _, hc⟩ := hu.str hlj
                        cases e
                        rw [hc, e1, ← hdd])
                      have HAn := Lib.hid (AP.out bn on rfl (by omega))
                      have HAi := Lib.hid (AQ.out bi oi rfl (by omega))
                      clear hdd
                      go_upto_region 21 with (fail)
                      refine wp_region_held_drew (S := (fun y => Below w.heap.size w y ∧ Strs y (some ⟨bn, on, none⟩) L.length L ∧ Strs y (some ⟨bi, oi, none⟩) ns.length ns)) (by kernel_rfl) (⟨BX.out.drew, HS.out.below (Below.refl _ _).drew, HR.out.below (Below.refl _ _).drew⟩) (fun hH0 => ?_)
                      generalize hy0 : World.drew _ = y0 at hH0 ⊢
                      have RB0 : Hid (Below w.heap.size w y0) := Lib.hid hH0.1
                      have RO0 := Lib.hid (show World.ownsRow y0 w.heap.size 55 3 v (rp.length + j) (cl (rp ++ gl.take j)) by rw [← hy0]; exact own_keep HO.out (fun b _ hl => rfl))
                      have RS0 := Lib.hid (show Strs y0 (some ⟨bn, on, none⟩) L.length L by rw [← hy0]; exact HS.out.below ((Below.refl _ _).drew))
                      have RI0 := Lib.hid (show Strs y0 (some ⟨bi, oi, none⟩) ns.length ns by rw [← hy0]; exact HR.out.below ((Below.refl _ _).drew))
                      clear hy0
                      refine wpAnyH_take (i := 0) (oi := ({ dst := some 74, op := Op.move (Operand.tmp 8), type := 22, pos := "ref.go:89", after := #[], guard := none } : Oper)) (v := ?hv1) rfl (by kernel_rfl) (by kernel_rfl) (by kernel_rfl) (fun _ _ _ h => h) (Or.inl ⟨by rfl, ?hy1⟩) (by assumption) ?hr1
                      case hy1 => (intro w hSw; (try dsimp only at hSw); go_simp; (try with_reducible rfl))
                      try simp only [Act.put, List.setIfInBounds_toArray, List.set_cons_zero, List.set_cons_succ]
                      refine wpAnyH_take (i := 1) (oi := ({ dst := some 75, op := Op.move (Operand.tmp 7), type := 35, pos := "ref.go:89", after := #[], guard := none } : Oper)) (v := ?hv2) rfl (by kernel_rfl) (by kernel_rfl) (by kernel_rfl) (fun _ _ _ h => h) (Or.inl ⟨by rfl, ?hy2⟩) (by assumption) ?hr2
                      case hy2 => (intro w hSw; (try dsimp only at hSw); go_simp; (try with_reducible rfl))
                      try simp only [Act.put, List.setIfInBounds_toArray, List.set_cons_zero, List.set_cons_succ]
                      refine wpAnyH_take (i := 2) (oi := ({ dst := some 76, op := Op.move (Operand.tmp 9), type := 3, pos := "ref.go:89", after := #[], guard := none } : Oper)) (v := ?hv3) rfl (by kernel_rfl) (by kernel_rfl) (by kernel_rfl) (fun _ _ _ h => h) (Or.inl ⟨by rfl, ?hy3⟩) (by assumption) ?hr3
                      case hy3 => (intro w hSw; (try dsimp only at hSw); go_simp; (try with_reducible rfl))
                      try simp only [Act.put, List.setIfInBounds_toArray, List.set_cons_zero, List.set_cons_succ]
                      refine wpAnyH_take (i := 3) (oi := ({ dst := some 77, op := Op.indexAddr 35 (Operand.tmp 75) (Operand.tmp 76), type := 0, pos := "ref.go:89", after := #[{ on := 1, ground := Ground.data }, { on := 2, ground := Ground.data }], guard := none } : Oper)) (v := ?hv4) rfl (by kernel_rfl) (by kernel_rfl) (by kernel_rfl) (fun _ _ _ h => h) (Or.inl ⟨by rfl, ?hy4⟩) (by assumption) ?hr4
                      case hy4 => (intro w hSw; (try dsimp only at hSw); go_simp; (try with_reducible rfl))
                      try simp only [Act.put, List.setIfInBounds_toArray, List.set_cons_zero, List.set_cons_succ]
                      refine wpAnyH_take (i := 4) (oi := ({ dst := some 78, op := Op.load 9 (Operand.tmp 77), type := 9, pos := "ref.go:89", after := #[{ on := 3, ground := Ground.data }], guard := none } : Oper)) (v := .string t) rfl (by kernel_rfl) (by kernel_rfl) (by kernel_rfl) (fun _ _ _ h => h) (Or.inl ⟨by rfl, fun w0 hw0 => by have q0 := HQt.out w0 hw0.2.1; have q1 := HQd.out w0 hw0.2.2; go_simp⟩) (by assumption) ?_
                      try simp only [Act.put, List.setIfInBounds_toArray, List.set_cons_zero, List.set_cons_succ]
                      refine wpAnyH_take (i := 5) (oi := ({ dst := some 79, op := Op.move (Operand.tmp 12), type := 35, pos := "ref.go:89", after := #[], guard := none } : Oper)) (v := ?hv5) rfl (by kernel_rfl) (by kernel_rfl) (by kernel_rfl) (fun _ _ _ h => h) (Or.inl ⟨by rfl, ?hy5⟩) (by assumption) ?hr5
                      case hy5 => (intro w hSw; (try dsimp only at hSw); go_simp; (try with_reducible rfl))
                      try simp only [Act.put, List.setIfInBounds_toArray, List.set_cons_zero, List.set_cons_succ]
                      refine wpAnyH_take (i := 6) (oi := ({ dst := some 80, op := Op.move (Operand.tmp 14), type := 3, pos := "ref.go:89", after := #[], guard := none } : Oper)) (v := ?hv6) rfl (by kernel_rfl) (by kernel_rfl) (by kernel_rfl) (fun _ _ _ h => h) (Or.inl ⟨by rfl, ?hy6⟩) (by assumption) ?hr6
                      case hy6 => (intro w hSw; (try dsimp only at hSw); go_simp; (try with_reducible rfl))
                      try simp only [Act.put, List.setIfInBounds_toArray, List.set_cons_zero, List.set_cons_succ]
                      refine wpAnyH_take (i := 7) (oi := ({ dst := some 81, op := Op.indexAddr 35 (Operand.tmp 79) (Operand.tmp 80), type := 0, pos := "ref.go:89", after := #[{ on := 5, ground := Ground.data }, { on := 6, ground := Ground.data }], guard := none } : Oper)) (v := ?hv7) rfl (by kernel_rfl) (by kernel_rfl) (by kernel_rfl) (fun _ _ _ h => h) (Or.inl ⟨by rfl, ?hy7⟩) (by assumption) ?hr7
                      case hy7 => (intro w hSw; (try dsimp only at hSw); go_simp; (try with_reducible rfl))
                      try simp only [Act.put, List.setIfInBounds_toArray, List.set_cons_zero, List.set_cons_succ]
                      refine wpAnyH_take (i := 8) (oi := ({ dst := some 82, op := Op.load 9 (Operand.tmp 81), type := 9, pos := "ref.go:89", after := #[{ on := 7, ground := Ground.data }], guard := none } : Oper)) (v := .string dd) rfl (by kernel_rfl) (by kernel_rfl) (by kernel_rfl) (fun _ _ _ h => h) (Or.inl ⟨by rfl, fun w0 hw0 => by have q0 := HQt.out w0 hw0.2.1; have q1 := HQd.out w0 hw0.2.2; go_simp⟩) (by assumption) ?_
                      try simp only [Act.put, List.setIfInBounds_toArray, List.set_cons_zero, List.set_cons_succ]
                      refine wpAnyH_take (i := 9) (oi := ({ dst := some 83, op := Op.move (Operand.tmp 2), type := 3, pos := "ref.go:89", after := #[], guard := none } : Oper)) (v := ?hv8) rfl (by kernel_rfl) (by kernel_rfl) (by kernel_rfl) (fun _ _ _ h => h) (Or.inl ⟨by rfl, ?hy8⟩) (by assumption) ?hr8
                      case hy8 => (intro w hSw; (try dsimp only at hSw); go_simp; (try with_reducible rfl))
                      try simp only [Act.put, List.setIfInBounds_toArray, List.set_cons_zero, List.set_cons_succ]
                      refine wpAnyH_take (i := 10) (oi := ({ dst := some 84, op := Op.build 55 #[(0, Operand.tmp 78), (1, Operand.tmp 82), (2, Operand.tmp 83)], type := 55, pos := "ref.go:89", after := #[{ on := 4, ground := Ground.data }, { on := 8, ground := Ground.data }, { on := 9, ground := Ground.data }], guard := none } : Oper)) (v := ?hv9) rfl (by kernel_rfl) (by kernel_rfl) (by kernel_rfl) (fun _ _ _ h => h) (Or.inl ⟨by rfl, ?hy9⟩) (by assumption) ?hr9
                      case hy9 => (intro w hSw; (try dsimp only at hSw); go_simp; (try with_reducible rfl))
                      try simp only [Act.put, List.setIfInBounds_toArray, List.set_cons_zero, List.set_cons_succ]
                      refine wpAnyH_ready (rs := [11]) (by kernel_rfl) (by simp) ?_
                      refine AllReadyH.cons (o := ({ dst := some 85, op := Op.buildSlice 22 1 #[(0, Operand.tmp 84)], type := 22, pos := "ref.go:89", after := #[{ on := 10, ground := Ground.data }], guard := none } : Oper)) rfl (fun KK hKK => ?_) AllReadyH.nil
                      go_simp
                      generalize hy1 : World.alloc y0 _ = y1
                      have hba : Below y0.heap.size y0 y1 := by rw [← hy1]; exact (Below.refl y0.heap.size y0).alloc (Nat.le_refl _) _
                      have RB1 := Lib.hid (RB0.out.trans (hba.mono RB0.out.size)); have RO1 := Lib.hid (own_keep RO0.out (fun b _ hl => hba.block b hl)); have RS1 := Lib.hid (RS0.out.below hba); have RI1 := Lib.hid (RI0.out.below hba)
                      have RSr := Lib.hid (show Src y1 (some ⟨y0.heap.size, 0, none⟩) 1 1 3 (enc ⟨t, dd, ix⟩) by rw [← hy1]; exact blk_src (p := ⟨t, dd, ix⟩) (blk_new y0 (enc ⟨t, dd, ix⟩) 55))
                      clear hy1 hba
                      refine hKK.out _ _ (⟨RB1.out, RS1.out, RI1.out⟩) (fun hH1 => ?_)
                      clear hKK KK
                      try simp only [Act.put, List.setIfInBounds_toArray, List.set_cons_zero, List.set_cons_succ]
                      refine wpAnyH_ready (rs := [12]) (by kernel_rfl) (by simp) ?_
                      refine AllReadyH.cons (o := ({ dst := some 86, op := Op.call { callee := Callee.builtin Builtin.append, args := #[Operand.tmp 74, Operand.tmp 85], argTypes := #[22, 22] }, type := 22, pos := "ref.go:89", after := #[{ on := 0, ground := Ground.data }, { on := 11, ground := Ground.data }], guard := none } : Oper)) rfl (fun KK hKK => ?_) AllReadyH.nil
                      refine step_append_any _ rfl (.tmp 74) (.tmp 85) 22 rfl w.heap.size 55 i0 _ 3 40 Try.underlying22 HI.out.1 HI.out.2.1 HI.out.2.2.1 HI.out.2.2.2 rfl (by decide) v (rp.length + j) _ rfl RO1.out _ 1 1 (enc ⟨t, dd, ix⟩) rfl RSr.out (by unfold maxLen; omega) (by omega) RB1.out.size ?_
                      intro v5 y2 hgr
                      have RB2 := Lib.hid (hgr.below RB1.out RO1.out); have RW := Lib.hid hgr.own
                      have RS2 := Lib.hid (StrsB.grown RS1.out hgr.grow (fun b off e h0 => by cases e; exact fun e1 => HAn.out e1.symm))
                      have RI2 := Lib.hid (StrsB.grown RI1.out hgr.grow (fun b off e h0 => by cases e; exact fun e1 => HAi.out e1.symm))
                      have P5 := Lib.hid (show v5.ownBlock ≠ some bn by rcases hgr.at_ with e | e <;> rw [e]; exact HAn.out; (intro e1; have e2 := Option.some.inj e1; have := RS1.out.lt_ (by omega); omega))
                      have Q5 := Lib.hid (show v5.ownBlock ≠ some bi by rcases hgr.at_ with e | e <;> rw [e]; exact HAi.out; (intro e1; have e2 := Option.some.inj e1; have := RI1.out.lt_ (by omega); omega))
                      clear hgr
                      refine hKK.out _ _ (⟨RB2.out, RS2.out, RI2.out⟩) (fun hH2 => ?_)
                      clear hKK KK
                      try simp only [Act.put, List.setIfInBounds_toArray, List.set_cons_zero, List.set_cons_succ]
                      refine wpAnyH_take (i := 13) (oi := ({ dst := some 8, op := Op.assign (Operand.tmp 86), type := 22, pos := "ref.go:89", after := #[{ on := 12, ground := Ground.data }, { on := 12, ground := Ground.chain }, { on := 0, ground := Ground.phase }, { on := 1, ground := Ground.phase }, { on := 2, ground := Ground.phase }, { on := 3, ground := Ground.phase }, { on := 4, ground := Ground.phase }, { on := 5, ground := Ground.phase }, { on := 6, ground := Ground.phase }, { on := 7, ground := Ground.phase }, { on := 8, ground := Ground.phase }, { on := 9, ground := Ground.phase }, { on := 10, ground := Ground.phase }, { on := 11, ground := Ground.phase }, { on := 12, ground := Ground.phase }], guard := none } : Oper)) (v := ?hv10) rfl (by kernel_rfl) (by kernel_rfl) (by kernel_rfl) (fun _ _ _ h => h) (Or.inl ⟨by rfl, ?hy10⟩) (by assumption) ?hr10
                      case hy10 => (intro w hSw; (try dsimp only at hSw); go_simp; (try with_reducible rfl))
                      try simp only [Act.put, List.setIfInBounds_toArray, List.set_cons_zero, List.set_cons_succ]
                      refine wpAnyH_done (by kernel_rfl) ?_ _
                      go_wp2
                      go_roundg (ns.length - (j + 1))
                      case measure => omega
                      case rel => exact ⟨j + 1, v5, by omega, by omega, rfl, by go_num, Lib.hid (by rw [HTk.out, ← List.append_assoc, ← cl_snoc, show rp.length + (j + 1) = rp.length + j + 1 by omega]; exact RW.out), RB2, RS2, Lib.hid (fun b off e h0 => by cases e; exact P5.out), RI2, Lib.hid (fun b off e h0 => by cases e; exact Q5.out)⟩
                    · have hljz : ¬ (j : Int) < (ns.length : Int) := by omega
                      obtain rfl : j = ns.length := by omega
                      have hO3 := HO.out
                      rw [List.take_of_length_le (by rw [← HGl.out, List.length_map]; exact Nat.le_refl _)] at hO3
                      have HO3 := Lib.hid (show wr.ownsRow w.heap.size 55 3 v rp1.length (cl rp1) by rw [HRe.out, List.length_append, ← HGl.out, List.length_map, HGl.out]; exact hO3)
                      clear hO3 HO
                      go_wp2
                      go_roundg (n - (kk + 1))
                      case measure => omega
                      case rel => exact ⟨true, kk + 1, v, by omega, by omega, rfl, rfl, by go_num, HO3, BX, HS, AP, Lib.hid (fun h => by cases h)⟩
            · have z1 : ((K kk).us.toList == t.toList) = false := beq_eq_false_iff_ne.2 (fun e => hq (eq_of_toList e))
              have HJ2 : Hid (∀ j, j < kk + 1 → ¬ (K j).us = t) := Lib.hid (fun j hj => by
                by_cases e : j = kk
                · subst e; exact hq
                · exact HJ1.out j (by omega))
              clear hq HKk
              generalize (K kk).us = us at p0 z1
              go_wp2
              go_quiet (fail)
              go_wp2
              go_roundg (n - (kk + 1))
              case measure => omega
              case rel => exact ⟨false, kk + 1, v, by omega, by omega, rfl, rfl, by go_num, Lib.hid (own_keep HO1.out (fun g _ hl => rfl)), Lib.hid (bel_dn BW.out _), Lib.hid (HS.out.below (bel_dn (Below.refl _ _) _)), AP, Lib.hid (fun _ => HJ2.out)⟩
          · have hlkz : ¬ (kk : Int) < (n : Int) := by omega
            obtain rfl : kk = n := by omega
            have HE := Lib.hid (show rp1 = rp by rw [HT2.out, HKn.out t HJ1.out, nmB_nil, List.map_nil, List.append_nil])
            go_wp2
            go_roundg (L.length - (i + 1))
            case measure => omega
            case rel => exact ⟨i + 1, v, by omega, by omega, rfl, by go_num, Lib.hid (by rw [HR1.out, HE.out]; exact HO1.out), BW, HS, AP⟩
    · have hltz : ¬ (i : Int) < (L.length : Int) := by omega
      obtain rfl : i = L.length := by omega
      rw [HAll.out] at HO hrl
      have HF := Lib.hid (rkN_fit (ix := ix) HS.out.2.2.1 HFf.out L.length)
      rw [HAll.out] at HF
      obtain ⟨A', c', rfl, hr, hnw⟩ := Rcs.ofOwn HO.out rfl (by omega) HF.out
      have HRr := Lib.hid hr
      have HNw := Lib.hid hnw
      clear hr hnw
      go_wp2
      go_ret
      exact ⟨A', c', rfl, HRr.out, HNw.out, BW.out⟩
end Go.Proofs.Ytbkchcpfnoclhaa
