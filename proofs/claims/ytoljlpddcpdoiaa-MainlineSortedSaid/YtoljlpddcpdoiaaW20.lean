/- The mainline: the reference's Order. Bound: at most 1000 events, 900000 numbers. -/
import Derived.Test.YtoljlpddcpdoiaaW19
import Derived.Test.YtoljlpddcpdoiaaP20
namespace Go.Proofs.Ytoljlpddcpdoiaa
open Go Go.RowKit Go.Maps
set_option linter.unusedVariables false
set_option linter.unusedSimpArgs false

set_option maxRecDepth 100000 in
theorem run_topk {A : Option Addr} {n c : Nat} {k : Nat} (hk : k ≤ n) (hc : n ≤ c) (w : World) :
    (Instr.sliceAt 26 (.slice A n c) none (some (.int .i64 (k : Int))) (some (.int .i64 (k : Int)))).run Try.prog w = .ok (.slice A k k) w := by
  have hrun := run_slice_hm (P := Try.prog) w 26 A n c Q.under31 .i64 .i64 (k : Int) (k : Int) (by omega) (by omega) (by omega)
  rw [Q.size31] at hrun
  rw [run_sliceAt_slice w 26 _ _ _ _ Q.under31, hrun]
  show Result.ok (sliced A 0 k k 1) w = _
  congr 1
  cases A <;> simp [sliced, Addr.add]
theorem src_top {w : World} {A : Option Addr} {n c k : Nat} {zs : List Int} (h : Q.Ints w A n c zs) (hA : A ≠ none) (hk : k ≤ n) : Src w A k k 1 ((zs.take k).map (Value.int .i64)) := by
  have h1 := h.srcTo k hk
  exact ⟨h1.len, fun e => absurd e hA, h1.cell, h1.one⟩
theorem List.map_append_cons3 (f : Int → Value) (a b : List Int) (x : Int) : (a ++ x :: b).map f = a.map f ++ [f x] ++ b.map f := by simp
set_option maxRecDepth 100000 in
set_option maxHeartbeats 16000000 in
theorem rorder16 (A : Option Addr) (n c : Nat) (E : Nat → Me) (A1 : Option Addr) (n1 c1 : Nat) (ms : List Int) (A2 : Option Addr) (n2 c2 : Nat) (zs : List Int) (w : World) (h : Evm w A n E) (hn : n ≤ 900000) (h1 : Its w A1 n1 c1 ms) (hn1 : n1 ≤ 900000) (h2 : Its w A2 n2 c2 zs) (hn2 : n2 ≤ 900000) : Calls Try.prog 16 #[.slice A n c, .slice A1 n1 c1, .slice A2 n2 c2] w (IntsP w (ordL E n ms n1 zs)) := by
  have H := Lib.hid h
  have H2 := Lib.hid h2
  have HG0 := Lib.hid (fun x v (hb : Below w.heap.size w v) => get17 A n c E x v (h.below hb) hn)
  have HA0 := Lib.hid (fun p q v (hb : Below w.heap.size w v) a1 a2 a3 a4 => rahead_pl A n c E A1 n1 c1 ms p q v (h.below hb) hn (h1.below hb) hn1 a1 a2 a3 a4)
  obtain ⟨i0, hi, hz0, hz1, hz2⟩ := info_parts info3
  have HI := Lib.hid (And.intro hi (And.intro hz0 (And.intro hz1 hz2)))
  have HFin := Lib.hid (show ordL E n ms n1 zs = (ordR E n ms n1 zs).map (·.id) by rw [ordR_eq]; rfl)
  have HInv := Lib.hid (fun k (hk : k ≤ n2) => ordR_inv E n ms n1 zs k (by rw [h2.len]; exact hk))
  have HSu := Lib.hid (fun k (hk : k < n2) => ordR_succ E n ms n1 (zs := zs) (k := k) (by rw [h2.len]; exact hk))
  have HWz := Lib.hid h2.wf
  have HZl := Lib.hid h2.len
  clear h h1 h2 hi hz0 hz1 hz2
  unfold GetP at HG0
  go_enter Try.func16, Try.ntmps16
  go_wp2
  go_loopg [7, 8, 9, 10, 11, 12] n2 (fun gg s7 s8 _ _ _ _ wr => ∃ (kk : Nat) (qs : List Pl.Rc) (v : Value), kk ≤ n2 ∧ n2 - kk ≤ gg ∧ v = s7 ∧ s8 = .int .i64 (kk : Int) ∧ Hid (wr.ownsRow w.heap.size 3 1 v qs.length ((qs.map (·.id)).map (Value.int .i64))) ∧ Hid (Below w.heap.size w wr) ∧ Hid (v.ownBlock ≠ none) ∧ Hid (qs = ordR E n ms n1 (zs.take kk)))
  case atStart => exact ⟨0, [], .slice (some ⟨w.heap.size, 0, none⟩) 0 0, Nat.zero_le _, by omega, rfl, rfl, Lib.hid (World.ownsRow_made (base := w.heap.size) (e := 3) (size := 1) w #[] 0 (Nat.le_refl _) (by decide) (by simp)), Lib.hid ((Below.refl _ _).alloc (Nat.le_refl _) _), Lib.hid (by simp [Value.ownBlock]), Lib.hid rfl⟩
  case round =>
    obtain ⟨kk, qs, v, hkk, hg, rfl, rfl, HO, BW, HV, HQ⟩ := hrel
    have HQl := Lib.hid (show qs.length ≤ kk by
      rw [HQ.out]
      have := ordR_len E n ms n1 (zs.take kk)
      rw [List.length_take] at this
      omega)
    have hql := HQl.out
    by_cases hlt : kk < n2
    · have hltz : (kk : Int) < (n2 : Int) := by omega
      have hk0 : (0 : Int) ≤ (kk : Int) := by omega
      have HInv0 := Lib.hid (HQ.out ▸ HInv.out kk hkk)
      have HSu0 := Lib.hid (HQ.out ▸ HSu.out kk hlt)
      obtain ⟨b2, off2, rfl, hb20, q00, hwf⟩ := H2.out.at_ hlt
      have hb2 : b2 < wr.heap.size := Nat.lt_of_lt_of_le hb20 BW.out.size
      have q0 := (BW.out.cell (p := ⟨b2, off2 + kk, none⟩) hb20).trans q00
      have HQj := Lib.hid (fun v (hb : Below w.heap.size w v) => (hb.cell (p := ⟨b2, off2 + kk, none⟩) hb20).trans q00)
      generalize zs.getD kk 0 = id at q0 hwf HSu0 HQj
      clear q00
      obtain ⟨A7, c7, rfl, hi7, _⟩ := its_own HO.out (by simp) (by omega) (fun z hz => by
        obtain ⟨p, hp, rfl⟩ := List.mem_map.1 hz
        exact HWz.out _ (List.mem_of_mem_take ((HInv0.out.mem p).1 hp).1))
      have HA7 : Hid (A7 ≠ none) := Lib.hid (by rintro rfl; exact HV.out rfl)
      have I7 := Lib.hid hi7
      have HG := Lib.hid (fun v hb => HG0.out id v hb)
      have HAs := Lib.hid (fun x (hb : Below wr.heap.size wr x) => has18 A7 qs.length c7 (qs.map (·.id)) id x (hi7.below hb) (by omega))
      clear hi7
      cases hp : plc E n id with
      | none =>
        have HNw := Lib.hid (show ordR E n ms n1 (zs.take (kk + 1)) = qs by rw [HSu0.out]; unfold ordS plOf; rw [hp])
        rw [hp] at HG
        clear hp
        go_wp2_with (first
          | (go_at_call 17; (with_reducible refine (HG.out _ BW.out).mono ?_); rintro e w1 ⟨cs', rfl, hl', ho', hq', hb⟩; have HL' := Lib.hid hl'; have HO' := Lib.hid ho'; have D1 := Lib.hid hb; have B1 := Lib.hid (BW.out.trans (hb.mono BW.out.size)); clear hb hl' ho' hq')
          | (refine store_mid_as rfl 44 _ _ rfl w1.heap.size 0 cs'.toArray rfl rfl (show World.there (w1.alloc (.cells #[.int .i64 0, .string ⟨#[]⟩, .string ⟨#[]⟩, .int .i64 0, .bool false, .string ⟨#[]⟩, .int .i64 0, .int .i64 0, .slice none 0 0, .slice none 0 0, .string ⟨#[]⟩, .int .i64 0, .int .i64 0, .bool false, .string ⟨#[]⟩, .slice none 0 0, .slice none 0 0, .slice none 0 0, .slice none 0 0, .int .i64 0, .int .i64 0, .int .i64 0, .int .i64 0, .int .i64 0, .int .i64 0, .int .i64 0, .int .i64 0, .string ⟨#[]⟩, .int .i64 0] 44)) w1.heap.size 0 _ from (show Blk (w1.alloc (.cells #[.int .i64 0, .string ⟨#[]⟩, .string ⟨#[]⟩, .int .i64 0, .bool false, .string ⟨#[]⟩, .int .i64 0, .int .i64 0, .slice none 0 0, .slice none 0 0, .string ⟨#[]⟩, .int .i64 0, .int .i64 0, .bool false, .string ⟨#[]⟩, .slice none 0 0, .slice none 0 0, .slice none 0 0, .slice none 0 0, .int .i64 0, .int .i64 0, .int .i64 0, .int .i64 0, .int .i64 0, .int .i64 0, .int .i64 0, .int .i64 0, .string ⟨#[]⟩, .int .i64 0] 44)) w1.heap.size zE 44 from blk_new w1 zE 44).there (by rw [List.size_toArray, HL'.out]; decide)) (size44a HL'.out) (all_arr HO'.out) ?_; intro w3 e3; have B3 := Lib.hid (show Below w.heap.size w w3 by rw [e3]; exact below_setRow (B1.out.alloc B1.out.size _) B1.out.size _ _); have D3 := Lib.hid (show Below wr.heap.size wr w3 by rw [e3]; exact below_setRow (D1.out.alloc D1.out.size _) D1.out.size _ _); have q3 := (D3.out.cell (p := ⟨b2, off2 + kk, none⟩) hb2).trans q0; clear e3)
          | go_in)
        go_roundg (n2 - (kk + 1))
        case measure => omega
        case rel => exact ⟨kk + 1, qs, _, by omega, by omega, rfl, by go_num, Lib.hid (own_keep HO.out (fun b _ hl => D3.out.block b hl)), B3, HV, Lib.hid HNw.out.symm⟩
      | some i =>
        obtain ⟨i', rfl, hi', _⟩ := plc_lt hp
        have HPl := Lib.hid (show plOf E n ms n1 id = some ⟨clo (wayL E n id) (rk ms) n1, (E i').tm, id⟩ by unfold plOf; rw [hp]; rfl)
        rw [hp] at HG
        clear hp
        by_cases hin : id ∈ qs.map (·.id)
        · have HNw := Lib.hid (show ordR E n ms n1 (zs.take (kk + 1)) = qs by rw [HSu0.out]; unfold ordS; rw [HPl.out]; simp only []; rw [if_pos hin])
          rw [decide_eq_true hin] at HAs
          clear hin
          go_wp2_with (first
            | (go_at_call 17; (with_reducible refine (HG.out _ BW.out).mono ?_); rintro e w1 ⟨cs', rfl, hl', ho', hq', hb⟩; have HL' := Lib.hid hl'; have HO' := Lib.hid ho'; have D1 := Lib.hid hb; have B1 := Lib.hid (BW.out.trans (hb.mono BW.out.size)); clear hb hl' ho' hq')
            | (refine store_mid_as rfl 44 _ _ rfl w1.heap.size 0 cs'.toArray rfl rfl (show World.there (w1.alloc (.cells #[.int .i64 0, .string ⟨#[]⟩, .string ⟨#[]⟩, .int .i64 0, .bool false, .string ⟨#[]⟩, .int .i64 0, .int .i64 0, .slice none 0 0, .slice none 0 0, .string ⟨#[]⟩, .int .i64 0, .int .i64 0, .bool false, .string ⟨#[]⟩, .slice none 0 0, .slice none 0 0, .slice none 0 0, .slice none 0 0, .int .i64 0, .int .i64 0, .int .i64 0, .int .i64 0, .int .i64 0, .int .i64 0, .int .i64 0, .int .i64 0, .string ⟨#[]⟩, .int .i64 0] 44)) w1.heap.size 0 _ from (show Blk (w1.alloc (.cells #[.int .i64 0, .string ⟨#[]⟩, .string ⟨#[]⟩, .int .i64 0, .bool false, .string ⟨#[]⟩, .int .i64 0, .int .i64 0, .slice none 0 0, .slice none 0 0, .string ⟨#[]⟩, .int .i64 0, .int .i64 0, .bool false, .string ⟨#[]⟩, .slice none 0 0, .slice none 0 0, .slice none 0 0, .slice none 0 0, .int .i64 0, .int .i64 0, .int .i64 0, .int .i64 0, .int .i64 0, .int .i64 0, .int .i64 0, .int .i64 0, .string ⟨#[]⟩, .int .i64 0] 44)) w1.heap.size zE 44 from blk_new w1 zE 44).there (by rw [List.size_toArray, HL'.out]; decide)) (size44a HL'.out) (all_arr HO'.out) ?_; intro w3 e3; have B3 := Lib.hid (show Below w.heap.size w w3 by rw [e3]; exact below_setRow (B1.out.alloc B1.out.size _) B1.out.size _ _); have D3 := Lib.hid (show Below wr.heap.size wr w3 by rw [e3]; exact below_setRow (D1.out.alloc D1.out.size _) D1.out.size _ _); have q3 := (D3.out.cell (p := ⟨b2, off2 + kk, none⟩) hb2).trans q0; clear e3)
            | (go_at_call 18; (with_reducible refine (HAs.out w3 D3.out).mono ?_); rintro e w4 ⟨rfl, rfl⟩)
            | go_in)
          go_roundg (n2 - (kk + 1))
          case measure => omega
          case rel => exact ⟨kk + 1, qs, _, by omega, by omega, rfl, by go_num, Lib.hid (own_keep HO.out (fun b _ hl => D3.out.block b hl)), B3, HV, Lib.hid HNw.out.symm⟩
        · have HNew := Lib.hid (show ordR E n ms n1 (zs.take (kk + 1)) = Pl.insP ⟨clo (wayL E n id) (rk ms) n1, (E i').tm, id⟩ qs by rw [HSu0.out]; unfold ordS; rw [HPl.out]; simp only []; rw [if_neg hin])
          rw [decide_eq_false hin] at HAs
          clear hin
          generalize hpp : (⟨clo (wayL E n id) (rk ms) n1, (E i').tm, id⟩ : Pl.Rc) = pp at HPl HNew
          have hid : pp.id = id := by rw [← hpp]
          have HAh0 := Lib.hid (fun q (hq : q ∈ qs) v (hb : Below w.heap.size w v) => HA0.out q pp v hb (HWz.out _ (List.mem_of_mem_take ((HInv0.out.mem q).1 hq).1)) (by rw [hid]; exact hwf) ((HInv0.out.mem q).1 hq).2 (by rw [hid]; exact HPl.out))
          rw [hid] at HAh0
          have HIdp := Lib.hid hid
          clear hpp hid
          go_wp2_with (first
            | (go_at_call 17; (with_reducible refine (HG.out _ BW.out).mono ?_); rintro e w1 ⟨cs', rfl, hl', ho', hq', hb⟩; have HL' := Lib.hid hl'; have HO' := Lib.hid ho'; have D1 := Lib.hid hb; have B1 := Lib.hid (BW.out.trans (hb.mono BW.out.size)); clear hb hl' ho' hq')
            | (refine store_mid_as rfl 44 _ _ rfl w1.heap.size 0 cs'.toArray rfl rfl (show World.there (w1.alloc (.cells #[.int .i64 0, .string ⟨#[]⟩, .string ⟨#[]⟩, .int .i64 0, .bool false, .string ⟨#[]⟩, .int .i64 0, .int .i64 0, .slice none 0 0, .slice none 0 0, .string ⟨#[]⟩, .int .i64 0, .int .i64 0, .bool false, .string ⟨#[]⟩, .slice none 0 0, .slice none 0 0, .slice none 0 0, .slice none 0 0, .int .i64 0, .int .i64 0, .int .i64 0, .int .i64 0, .int .i64 0, .int .i64 0, .int .i64 0, .int .i64 0, .string ⟨#[]⟩, .int .i64 0] 44)) w1.heap.size 0 _ from (show Blk (w1.alloc (.cells #[.int .i64 0, .string ⟨#[]⟩, .string ⟨#[]⟩, .int .i64 0, .bool false, .string ⟨#[]⟩, .int .i64 0, .int .i64 0, .slice none 0 0, .slice none 0 0, .string ⟨#[]⟩, .int .i64 0, .int .i64 0, .bool false, .string ⟨#[]⟩, .slice none 0 0, .slice none 0 0, .slice none 0 0, .slice none 0 0, .int .i64 0, .int .i64 0, .int .i64 0, .int .i64 0, .int .i64 0, .int .i64 0, .int .i64 0, .int .i64 0, .string ⟨#[]⟩, .int .i64 0] 44)) w1.heap.size zE 44 from blk_new w1 zE 44).there (by rw [List.size_toArray, HL'.out]; decide)) (size44a HL'.out) (all_arr HO'.out) ?_; intro w3 e3; have B3 := Lib.hid (show Below w.heap.size w w3 by rw [e3]; exact below_setRow (B1.out.alloc B1.out.size _) B1.out.size _ _); have D3 := Lib.hid (show Below wr.heap.size wr w3 by rw [e3]; exact below_setRow (D1.out.alloc D1.out.size _) D1.out.size _ _); have q3 := (D3.out.cell (p := ⟨b2, off2 + kk, none⟩) hb2).trans q0; clear e3)
            | (go_at_call 18; (with_reducible refine (HAs.out w3 D3.out).mono ?_); rintro e w4 ⟨rfl, rfl⟩)
            | go_in)
          have O3 := Lib.hid (own_keep HO.out (fun b _ hl => D3.out.block b hl))
          have I3 := Lib.hid (I7.out.below D3.out)
          clear HAs HG D1 B1 q3 q0 HL' HO'
          go_loopg [11] qs.length (fun gg s11 wr => ∃ k2 : Nat, k2 ≤ qs.length ∧ qs.length - k2 ≤ gg ∧ s11 = .int .i64 (k2 : Int) ∧ Hid (∀ j, j < k2 → Pl.ltP (qs.getD j Pl.t0) pp) ∧ Hid (Below w4.heap.size w4 wr))
          case atStart => exact ⟨0, Nat.zero_le _, by omega, rfl, Lib.hid (fun j hj => absurd hj (Nat.not_lt_zero _)), Lib.hid (Below.refl _ _)⟩
          case round =>
            obtain ⟨k2, hk2, hg2, rfl, HJ, BQ⟩ := hrel
            have BWQ := Lib.hid (B3.out.trans (BQ.out.mono B3.out.size))
            by_cases hl2 : k2 < qs.length
            · have hl2z : (k2 : Int) < (qs.length : Int) := by omega
              have hl20 : (0 : Int) ≤ (k2 : Int) := by omega
              obtain ⟨bo, oo, eA7, hbo, qo, _⟩ := (I3.out.below BQ.out).at_ hl2
              rw [show (qs.map (fun p => p.id)).getD k2 0 = (qs.getD k2 Pl.t0).id by rw [List.getD_eq_getElem?_getD, List.getElem?_map, List.getElem?_eq_getElem hl2, Pl.getD_at hl2]; rfl] at qo
              have hqm : qs.getD k2 Pl.t0 ∈ qs := by rw [Pl.getD_at hl2]; exact List.getElem_mem _
              have HAh := Lib.hid (fun v (hb : Below wr.heap.size wr v) => HAh0.out _ hqm v (BWQ.out.trans (hb.mono BWQ.out.size)))
              have HQi := Lib.hid (fun v (hb : Below wr.heap.size wr v) => HQj.out v (BWQ.out.trans (hb.mono BWQ.out.size)))
              have HQa := Lib.hid (fun v (hb : Below wr.heap.size wr v) => (hb.cell (p := ⟨bo, oo + k2, none⟩) hbo).trans qo)
              have HJ1 : Hid (Pl.ltP (qs.getD k2 Pl.t0) pp → ∀ j, j < k2 + 1 → Pl.ltP (qs.getD j Pl.t0) pp) := Lib.hid (fun h j hj => by
                by_cases e : j = k2
                · subst e; exact h
                · exact HJ.out j (by omega))
              have HIp0 : Hid (¬ Pl.ltP (qs.getD k2 Pl.t0) pp → Pl.insP pp qs = qs.take k2 ++ pp :: qs.drop k2) := Lib.hid (fun h => Pl.insP_at hk2 HJ.out (fun _ => h))
              clear hqm
              generalize qs.getD k2 Pl.t0 = q at HAh HQa HJ1 HIp0 qo
              by_cases hd : Pl.ltP q pp
              · rw [decide_eq_true hd] at HAh
                have HJ2 := Lib.hid (HJ1.out hd)
                generalize q.id = ai at HAh HQa qo
                subst eA7
                clear HJ1 HIp0 hd qo
                go_upto_region 8 with (fail)
                refine wp_region_held_drew (S := (fun y => Below wr.heap.size wr y)) (by kernel_rfl) ((Below.refl wr.heap.size wr).drew) (fun hH0 => ?_)
                generalize hy0 : World.drew _ = y0 at hH0 ⊢
                have RB0 : Hid (Below wr.heap.size wr y0) := Lib.hid hH0
                clear hy0
                refine wpAnyH_take (i := 0) (oi := ({ dst := some 39, op := Op.move (Operand.tmp 11), type := 3, pos := "ref.go:84", after := #[], guard := none } : Oper)) (v := ?hv1) rfl (by kernel_rfl) (by kernel_rfl) (by kernel_rfl) (fun _ _ _ h => h) (Or.inl ⟨by rfl, ?hy1⟩) (by assumption) ?hr1
                case hy1 => (intro w hSw; (try dsimp only at hSw); go_simp; (try with_reducible rfl))
                try simp only [Act.put, List.setIfInBounds_toArray, List.set_cons_zero, List.set_cons_succ]
                refine wpAnyH_take (i := 1) (oi := ({ dst := some 40, op := Op.move (Operand.tmp 7), type := 26, pos := "ref.go:84", after := #[], guard := none } : Oper)) (v := ?hv2) rfl (by kernel_rfl) (by kernel_rfl) (by kernel_rfl) (fun _ _ _ h => h) (Or.inl ⟨by rfl, ?hy2⟩) (by assumption) ?hr2
                case hy2 => (intro w hSw; (try dsimp only at hSw); go_simp; (try with_reducible rfl))
                try simp only [Act.put, List.setIfInBounds_toArray, List.set_cons_zero, List.set_cons_succ]
                refine wpAnyH_take (i := 2) (oi := ({ dst := some 41, op := Op.call { callee := Callee.builtin Builtin.len, args := #[Operand.tmp 40], argTypes := #[26] }, type := 3, pos := "ref.go:84", after := #[{ on := 1, ground := Ground.data }], guard := none } : Oper)) (v := ?hv3) rfl (by kernel_rfl) (by kernel_rfl) (by kernel_rfl) (fun _ _ _ h => h) (Or.inl ⟨by rfl, ?hy3⟩) (by assumption) ?hr3
                case hy3 => (intro w hSw; (try dsimp only at hSw); go_simp; (try with_reducible rfl))
                try simp only [Act.put, List.setIfInBounds_toArray, List.set_cons_zero, List.set_cons_succ]
                refine wpAnyH_take (i := 3) (oi := ({ dst := some 42, op := Op.binOp BinOp.lss 3 (Operand.tmp 39) (Operand.tmp 41) 3, type := 4, pos := "ref.go:84", after := #[{ on := 0, ground := Ground.data }, { on := 2, ground := Ground.data }], guard := none } : Oper)) (v := ?hv4) rfl (by kernel_rfl) (by kernel_rfl) (by kernel_rfl) (fun _ _ _ h => h) (Or.inl ⟨by rfl, ?hy4⟩) (by assumption) ?hr4
                case hy4 => (intro w hSw; (try dsimp only at hSw); go_simp; (try with_reducible rfl))
                try simp only [Act.put, List.setIfInBounds_toArray, List.set_cons_zero, List.set_cons_succ]
                refine wpAnyH_take (i := 4) (oi := ({ dst := some 43, op := Op.move (Operand.tmp 42), type := 4, pos := "ref.go:84", after := #[{ on := 3, ground := Ground.data }], guard := none } : Oper)) (v := ?hv5) rfl (by kernel_rfl) (by kernel_rfl) (by kernel_rfl) (fun _ _ _ h => h) (Or.inl ⟨by rfl, ?hy5⟩) (by assumption) ?hr5
                case hy5 => (intro w hSw; (try dsimp only at hSw); go_simp; (try with_reducible rfl))
                try simp only [Act.put, List.setIfInBounds_toArray, List.set_cons_zero, List.set_cons_succ]
                refine wpAnyH_take (i := 5) (oi := ({ dst := some 44, op := Op.move (Operand.tmp 0), type := 22, pos := "ref.go:84", after := #[{ on := 4, ground := Ground.guard }], guard := some (4, true) } : Oper)) (v := ?hv6) rfl (by kernel_rfl) (by kernel_rfl) (by kernel_rfl) (fun _ _ _ h => h) (Or.inl ⟨by rfl, ?hy6⟩) (by assumption) ?hr6
                case hy6 => (intro w hSw; (try dsimp only at hSw); go_simp; (try with_reducible rfl))
                try simp only [Act.put, List.setIfInBounds_toArray, List.set_cons_zero, List.set_cons_succ]
                refine wpAnyH_take (i := 6) (oi := ({ dst := some 45, op := Op.move (Operand.tmp 1), type := 26, pos := "ref.go:84", after := #[{ on := 4, ground := Ground.guard }], guard := some (4, true) } : Oper)) (v := ?hv7) rfl (by kernel_rfl) (by kernel_rfl) (by kernel_rfl) (fun _ _ _ h => h) (Or.inl ⟨by rfl, ?hy7⟩) (by assumption) ?hr7
                case hy7 => (intro w hSw; (try dsimp only at hSw); go_simp; (try with_reducible rfl))
                try simp only [Act.put, List.setIfInBounds_toArray, List.set_cons_zero, List.set_cons_succ]
                refine wpAnyH_take (i := 7) (oi := ({ dst := some 46, op := Op.move (Operand.tmp 7), type := 26, pos := "ref.go:84", after := #[{ on := 4, ground := Ground.guard }], guard := some (4, true) } : Oper)) (v := ?hv8) rfl (by kernel_rfl) (by kernel_rfl) (by kernel_rfl) (fun _ _ _ h => h) (Or.inl ⟨by rfl, ?hy8⟩) (by assumption) ?hr8
                case hy8 => (intro w hSw; (try dsimp only at hSw); go_simp; (try with_reducible rfl))
                try simp only [Act.put, List.setIfInBounds_toArray, List.set_cons_zero, List.set_cons_succ]
                refine wpAnyH_take (i := 8) (oi := ({ dst := some 47, op := Op.move (Operand.tmp 11), type := 3, pos := "ref.go:84", after := #[{ on := 4, ground := Ground.guard }], guard := some (4, true) } : Oper)) (v := ?hv9) rfl (by kernel_rfl) (by kernel_rfl) (by kernel_rfl) (fun _ _ _ h => h) (Or.inl ⟨by rfl, ?hy9⟩) (by assumption) ?hr9
                case hy9 => (intro w hSw; (try dsimp only at hSw); go_simp; (try with_reducible rfl))
                try simp only [Act.put, List.setIfInBounds_toArray, List.set_cons_zero, List.set_cons_succ]
                refine wpAnyH_take (i := 9) (oi := ({ dst := some 48, op := Op.indexAddr 26 (Operand.tmp 46) (Operand.tmp 47), type := 0, pos := "ref.go:84", after := #[{ on := 7, ground := Ground.data }, { on := 8, ground := Ground.data }, { on := 4, ground := Ground.guard }], guard := some (4, true) } : Oper)) (v := ?hv10) rfl (by kernel_rfl) (by kernel_rfl) (by kernel_rfl) (fun _ _ _ h => h) (Or.inl ⟨by rfl, ?hy10⟩) (by assumption) ?hr10
                case hy10 => (intro w hSw; (try dsimp only at hSw); go_simp; (try with_reducible rfl))
                try simp only [Act.put, List.setIfInBounds_toArray, List.set_cons_zero, List.set_cons_succ]
                refine wpAnyH_take (i := 10) (oi := ({ dst := some 49, op := Op.load 3 (Operand.tmp 48), type := 3, pos := "ref.go:84", after := #[{ on := 9, ground := Ground.data }, { on := 4, ground := Ground.guard }], guard := some (4, true) } : Oper)) (v := .int .i64 ai) rfl (by kernel_rfl) (by kernel_rfl) (by kernel_rfl) (fun _ _ _ h => h) (Or.inl ⟨by rfl, fun w0 hw0 => by have q0 := HQa.out w0 hw0; go_simp⟩) (by assumption) ?_
                try simp only [Act.put, List.setIfInBounds_toArray, List.set_cons_zero, List.set_cons_succ]
                refine wpAnyH_take (i := 11) (oi := ({ dst := some 50, op := Op.move (Operand.tmp 2), type := 26, pos := "ref.go:84", after := #[{ on := 4, ground := Ground.guard }], guard := some (4, true) } : Oper)) (v := ?hv11) rfl (by kernel_rfl) (by kernel_rfl) (by kernel_rfl) (fun _ _ _ h => h) (Or.inl ⟨by rfl, ?hy11⟩) (by assumption) ?hr11
                case hy11 => (intro w hSw; (try dsimp only at hSw); go_simp; (try with_reducible rfl))
                try simp only [Act.put, List.setIfInBounds_toArray, List.set_cons_zero, List.set_cons_succ]
                refine wpAnyH_take (i := 12) (oi := ({ dst := some 51, op := Op.move (Operand.tmp 8), type := 3, pos := "ref.go:84", after := #[{ on := 4, ground := Ground.guard }], guard := some (4, true) } : Oper)) (v := ?hv12) rfl (by kernel_rfl) (by kernel_rfl) (by kernel_rfl) (fun _ _ _ h => h) (Or.inl ⟨by rfl, ?hy12⟩) (by assumption) ?hr12
                case hy12 => (intro w hSw; (try dsimp only at hSw); go_simp; (try with_reducible rfl))
                try simp only [Act.put, List.setIfInBounds_toArray, List.set_cons_zero, List.set_cons_succ]
                refine wpAnyH_take (i := 13) (oi := ({ dst := some 52, op := Op.indexAddr 26 (Operand.tmp 50) (Operand.tmp 51), type := 0, pos := "ref.go:84", after := #[{ on := 11, ground := Ground.data }, { on := 12, ground := Ground.data }, { on := 4, ground := Ground.guard }], guard := some (4, true) } : Oper)) (v := ?hv13) rfl (by kernel_rfl) (by kernel_rfl) (by kernel_rfl) (fun _ _ _ h => h) (Or.inl ⟨by rfl, ?hy13⟩) (by assumption) ?hr13
                case hy13 => (intro w hSw; (try dsimp only at hSw); go_simp; (try with_reducible rfl))
                try simp only [Act.put, List.setIfInBounds_toArray, List.set_cons_zero, List.set_cons_succ]
                refine wpAnyH_take (i := 14) (oi := ({ dst := some 53, op := Op.load 3 (Operand.tmp 52), type := 3, pos := "ref.go:84", after := #[{ on := 13, ground := Ground.data }, { on := 4, ground := Ground.guard }], guard := some (4, true) } : Oper)) (v := .int .i64 id) rfl (by kernel_rfl) (by kernel_rfl) (by kernel_rfl) (fun _ _ _ h => h) (Or.inl ⟨by rfl, fun w0 hw0 => by have q0 := HQi.out w0 hw0; go_simp⟩) (by assumption) ?_
                try simp only [Act.put, List.setIfInBounds_toArray, List.set_cons_zero, List.set_cons_succ]
                refine wpAnyH_ready (rs := [15]) (by kernel_rfl) (by simp) ?_
                refine AllReadyH.cons (o := ({ dst := some 54, op := Op.call { callee := Callee.value (Operand.func 32), args := #[Operand.tmp 44, Operand.tmp 45, Operand.tmp 49, Operand.tmp 53], argTypes := #[22, 26, 3, 3] }, type := 4, pos := "ref.go:84", after := #[{ on := 5, ground := Ground.data }, { on := 6, ground := Ground.data }, { on := 10, ground := Ground.data }, { on := 14, ground := Ground.data }, { on := 4, ground := Ground.chain }, { on := 4, ground := Ground.guard }], guard := some (4, true) } : Oper)) rfl (fun KK hKK => ?_) AllReadyH.nil
                go_simp
                (with_reducible refine (HAh.out _ RB0.out).mono ?_)
                rintro e0 y1 ⟨rfl, hb⟩
                have RB1 := Lib.hid (RB0.out.trans (hb.mono RB0.out.size))
                clear hb
                refine hKK.out _ _ (RB1.out) (fun hH1 => ?_)
                clear hKK KK
                try simp only [Act.put, List.setIfInBounds_toArray, List.set_cons_zero, List.set_cons_succ]
                refine wpAnyH_take (i := 16) (oi := ({ dst := some 55, op := Op.pick (Operand.tmp 43) (Operand.tmp 54) (Operand.const (Value.bool false)), type := 4, pos := "ref.go:84", after := #[{ on := 4, ground := Ground.data }, { on := 15, ground := Ground.data }], guard := none } : Oper)) (v := ?hv14) rfl (by kernel_rfl) (by kernel_rfl) (by kernel_rfl) (fun _ _ _ h => h) (Or.inl ⟨by rfl, ?hy14⟩) (by assumption) ?hr14
                case hy14 => (intro w hSw; (try dsimp only at hSw); go_simp; (try with_reducible rfl))
                try simp only [Act.put, List.setIfInBounds_toArray, List.set_cons_zero, List.set_cons_succ]
                refine wpAnyH_done (by kernel_rfl) ?_ _
                go_wp2
                go_roundg (qs.length - (k2 + 1))
                case measure => omega
                case rel => exact ⟨k2 + 1, by omega, by omega, by go_num, HJ2, Lib.hid (BQ.out.trans (RB1.out.mono BQ.out.size))⟩
              · rw [decide_eq_false hd] at HAh
                have HIp := Lib.hid (HIp0.out hd)
                generalize q.id = ai at HAh HQa qo
                clear HJ1 HIp0 hd qo
                subst eA7
                go_upto_region 8 with (fail)
                refine wp_region_held_drew (S := (fun y => Below wr.heap.size wr y)) (by kernel_rfl) ((Below.refl wr.heap.size wr).drew) (fun hH0 => ?_)
                generalize hy0 : World.drew _ = y0 at hH0 ⊢
                have RB0 : Hid (Below wr.heap.size wr y0) := Lib.hid hH0
                clear hy0
                refine wpAnyH_take (i := 0) (oi := ({ dst := some 39, op := Op.move (Operand.tmp 11), type := 3, pos := "ref.go:84", after := #[], guard := none } : Oper)) (v := ?hv15) rfl (by kernel_rfl) (by kernel_rfl) (by kernel_rfl) (fun _ _ _ h => h) (Or.inl ⟨by rfl, ?hy15⟩) (by assumption) ?hr15
                case hy15 => (intro w hSw; (try dsimp only at hSw); go_simp; (try with_reducible rfl))
                try simp only [Act.put, List.setIfInBounds_toArray, List.set_cons_zero, List.set_cons_succ]
                refine wpAnyH_take (i := 1) (oi := ({ dst := some 40, op := Op.move (Operand.tmp 7), type := 26, pos := "ref.go:84", after := #[], guard := none } : Oper)) (v := ?hv16) rfl (by kernel_rfl) (by kernel_rfl) (by kernel_rfl) (fun _ _ _ h => h) (Or.inl ⟨by rfl, ?hy16⟩) (by assumption) ?hr16
                case hy16 => (intro w hSw; (try dsimp only at hSw); go_simp; (try with_reducible rfl))
                try simp only [Act.put, List.setIfInBounds_toArray, List.set_cons_zero, List.set_cons_succ]
                refine wpAnyH_take (i := 2) (oi := ({ dst := some 41, op := Op.call { callee := Callee.builtin Builtin.len, args := #[Operand.tmp 40], argTypes := #[26] }, type := 3, pos := "ref.go:84", after := #[{ on := 1, ground := Ground.data }], guard := none } : Oper)) (v := ?hv17) rfl (by kernel_rfl) (by kernel_rfl) (by kernel_rfl) (fun _ _ _ h => h) (Or.inl ⟨by rfl, ?hy17⟩) (by assumption) ?hr17
                case hy17 => (intro w hSw; (try dsimp only at hSw); go_simp; (try with_reducible rfl))
                try simp only [Act.put, List.setIfInBounds_toArray, List.set_cons_zero, List.set_cons_succ]
                refine wpAnyH_take (i := 3) (oi := ({ dst := some 42, op := Op.binOp BinOp.lss 3 (Operand.tmp 39) (Operand.tmp 41) 3, type := 4, pos := "ref.go:84", after := #[{ on := 0, ground := Ground.data }, { on := 2, ground := Ground.data }], guard := none } : Oper)) (v := ?hv18) rfl (by kernel_rfl) (by kernel_rfl) (by kernel_rfl) (fun _ _ _ h => h) (Or.inl ⟨by rfl, ?hy18⟩) (by assumption) ?hr18
                case hy18 => (intro w hSw; (try dsimp only at hSw); go_simp; (try with_reducible rfl))
                try simp only [Act.put, List.setIfInBounds_toArray, List.set_cons_zero, List.set_cons_succ]
                refine wpAnyH_take (i := 4) (oi := ({ dst := some 43, op := Op.move (Operand.tmp 42), type := 4, pos := "ref.go:84", after := #[{ on := 3, ground := Ground.data }], guard := none } : Oper)) (v := ?hv19) rfl (by kernel_rfl) (by kernel_rfl) (by kernel_rfl) (fun _ _ _ h => h) (Or.inl ⟨by rfl, ?hy19⟩) (by assumption) ?hr19
                case hy19 => (intro w hSw; (try dsimp only at hSw); go_simp; (try with_reducible rfl))
                try simp only [Act.put, List.setIfInBounds_toArray, List.set_cons_zero, List.set_cons_succ]
                refine wpAnyH_take (i := 5) (oi := ({ dst := some 44, op := Op.move (Operand.tmp 0), type := 22, pos := "ref.go:84", after := #[{ on := 4, ground := Ground.guard }], guard := some (4, true) } : Oper)) (v := ?hv20) rfl (by kernel_rfl) (by kernel_rfl) (by kernel_rfl) (fun _ _ _ h => h) (Or.inl ⟨by rfl, ?hy20⟩) (by assumption) ?hr20
                case hy20 => (intro w hSw; (try dsimp only at hSw); go_simp; (try with_reducible rfl))
                try simp only [Act.put, List.setIfInBounds_toArray, List.set_cons_zero, List.set_cons_succ]
                refine wpAnyH_take (i := 6) (oi := ({ dst := some 45, op := Op.move (Operand.tmp 1), type := 26, pos := "ref.go:84", after := #[{ on := 4, ground := Ground.guard }], guard := some (4, true) } : Oper)) (v := ?hv21) rfl (by kernel_rfl) (by kernel_rfl) (by kernel_rfl) (fun _ _ _ h => h) (Or.inl ⟨by rfl, ?hy21⟩) (by assumption) ?hr21
                case hy21 => (intro w hSw; (try dsimp only at hSw); go_simp; (try with_reducible rfl))
                try simp only [Act.put, List.setIfInBounds_toArray, List.set_cons_zero, List.set_cons_succ]
                refine wpAnyH_take (i := 7) (oi := ({ dst := some 46, op := Op.move (Operand.tmp 7), type := 26, pos := "ref.go:84", after := #[{ on := 4, ground := Ground.guard }], guard := some (4, true) } : Oper)) (v := ?hv22) rfl (by kernel_rfl) (by kernel_rfl) (by kernel_rfl) (fun _ _ _ h => h) (Or.inl ⟨by rfl, ?hy22⟩) (by assumption) ?hr22
                case hy22 => (intro w hSw; (try dsimp only at hSw); go_simp; (try with_reducible rfl))
                try simp only [Act.put, List.setIfInBounds_toArray, List.set_cons_zero, List.set_cons_succ]
                refine wpAnyH_take (i := 8) (oi := ({ dst := some 47, op := Op.move (Operand.tmp 11), type := 3, pos := "ref.go:84", after := #[{ on := 4, ground := Ground.guard }], guard := some (4, true) } : Oper)) (v := ?hv23) rfl (by kernel_rfl) (by kernel_rfl) (by kernel_rfl) (fun _ _ _ h => h) (Or.inl ⟨by rfl, ?hy23⟩) (by assumption) ?hr23
                case hy23 => (intro w hSw; (try dsimp only at hSw); go_simp; (try with_reducible rfl))
                try simp only [Act.put, List.setIfInBounds_toArray, List.set_cons_zero, List.set_cons_succ]
                refine wpAnyH_take (i := 9) (oi := ({ dst := some 48, op := Op.indexAddr 26 (Operand.tmp 46) (Operand.tmp 47), type := 0, pos := "ref.go:84", after := #[{ on := 7, ground := Ground.data }, { on := 8, ground := Ground.data }, { on := 4, ground := Ground.guard }], guard := some (4, true) } : Oper)) (v := ?hv24) rfl (by kernel_rfl) (by kernel_rfl) (by kernel_rfl) (fun _ _ _ h => h) (Or.inl ⟨by rfl, ?hy24⟩) (by assumption) ?hr24
                case hy24 => (intro w hSw; (try dsimp only at hSw); go_simp; (try with_reducible rfl))
                try simp only [Act.put, List.setIfInBounds_toArray, List.set_cons_zero, List.set_cons_succ]
                refine wpAnyH_take (i := 10) (oi := ({ dst := some 49, op := Op.load 3 (Operand.tmp 48), type := 3, pos := "ref.go:84", after := #[{ on := 9, ground := Ground.data }, { on := 4, ground := Ground.guard }], guard := some (4, true) } : Oper)) (v := .int .i64 ai) rfl (by kernel_rfl) (by kernel_rfl) (by kernel_rfl) (fun _ _ _ h => h) (Or.inl ⟨by rfl, fun w0 hw0 => by have q0 := HQa.out w0 hw0; go_simp⟩) (by assumption) ?_
                try simp only [Act.put, List.setIfInBounds_toArray, List.set_cons_zero, List.set_cons_succ]
                refine wpAnyH_take (i := 11) (oi := ({ dst := some 50, op := Op.move (Operand.tmp 2), type := 26, pos := "ref.go:84", after := #[{ on := 4, ground := Ground.guard }], guard := some (4, true) } : Oper)) (v := ?hv25) rfl (by kernel_rfl) (by kernel_rfl) (by kernel_rfl) (fun _ _ _ h => h) (Or.inl ⟨by rfl, ?hy25⟩) (by assumption) ?hr25
                case hy25 => (intro w hSw; (try dsimp only at hSw); go_simp; (try with_reducible rfl))
                try simp only [Act.put, List.setIfInBounds_toArray, List.set_cons_zero, List.set_cons_succ]
                refine wpAnyH_take (i := 12) (oi := ({ dst := some 51, op := Op.move (Operand.tmp 8), type := 3, pos := "ref.go:84", after := #[{ on := 4, ground := Ground.guard }], guard := some (4, true) } : Oper)) (v := ?hv26) rfl (by kernel_rfl) (by kernel_rfl) (by kernel_rfl) (fun _ _ _ h => h) (Or.inl ⟨by rfl, ?hy26⟩) (by assumption) ?hr26
                case hy26 => (intro w hSw; (try dsimp only at hSw); go_simp; (try with_reducible rfl))
                try simp only [Act.put, List.setIfInBounds_toArray, List.set_cons_zero, List.set_cons_succ]
                refine wpAnyH_take (i := 13) (oi := ({ dst := some 52, op := Op.indexAddr 26 (Operand.tmp 50) (Operand.tmp 51), type := 0, pos := "ref.go:84", after := #[{ on := 11, ground := Ground.data }, { on := 12, ground := Ground.data }, { on := 4, ground := Ground.guard }], guard := some (4, true) } : Oper)) (v := ?hv27) rfl (by kernel_rfl) (by kernel_rfl) (by kernel_rfl) (fun _ _ _ h => h) (Or.inl ⟨by rfl, ?hy27⟩) (by assumption) ?hr27
                case hy27 => (intro w hSw; (try dsimp only at hSw); go_simp; (try with_reducible rfl))
                try simp only [Act.put, List.setIfInBounds_toArray, List.set_cons_zero, List.set_cons_succ]
                refine wpAnyH_take (i := 14) (oi := ({ dst := some 53, op := Op.load 3 (Operand.tmp 52), type := 3, pos := "ref.go:84", after := #[{ on := 13, ground := Ground.data }, { on := 4, ground := Ground.guard }], guard := some (4, true) } : Oper)) (v := .int .i64 id) rfl (by kernel_rfl) (by kernel_rfl) (by kernel_rfl) (fun _ _ _ h => h) (Or.inl ⟨by rfl, fun w0 hw0 => by have q0 := HQi.out w0 hw0; go_simp⟩) (by assumption) ?_
                try simp only [Act.put, List.setIfInBounds_toArray, List.set_cons_zero, List.set_cons_succ]
                refine wpAnyH_ready (rs := [15]) (by kernel_rfl) (by simp) ?_
                refine AllReadyH.cons (o := ({ dst := some 54, op := Op.call { callee := Callee.value (Operand.func 32), args := #[Operand.tmp 44, Operand.tmp 45, Operand.tmp 49, Operand.tmp 53], argTypes := #[22, 26, 3, 3] }, type := 4, pos := "ref.go:84", after := #[{ on := 5, ground := Ground.data }, { on := 6, ground := Ground.data }, { on := 10, ground := Ground.data }, { on := 14, ground := Ground.data }, { on := 4, ground := Ground.chain }, { on := 4, ground := Ground.guard }], guard := some (4, true) } : Oper)) rfl (fun KK hKK => ?_) AllReadyH.nil
                go_simp
                (with_reducible refine (HAh.out _ RB0.out).mono ?_)
                rintro e0 y1 ⟨rfl, hb⟩
                have RB1 := Lib.hid (RB0.out.trans (hb.mono RB0.out.size))
                clear hb
                refine hKK.out _ _ (RB1.out) (fun hH1 => ?_)
                clear hKK KK
                try simp only [Act.put, List.setIfInBounds_toArray, List.set_cons_zero, List.set_cons_succ]
                refine wpAnyH_take (i := 16) (oi := ({ dst := some 55, op := Op.pick (Operand.tmp 43) (Operand.tmp 54) (Operand.const (Value.bool false)), type := 4, pos := "ref.go:84", after := #[{ on := 4, ground := Ground.data }, { on := 15, ground := Ground.data }], guard := none } : Oper)) (v := ?hv28) rfl (by kernel_rfl) (by kernel_rfl) (by kernel_rfl) (fun _ _ _ h => h) (Or.inl ⟨by rfl, ?hy28⟩) (by assumption) ?hr28
                case hy28 => (intro w hSw; (try dsimp only at hSw); go_simp; (try with_reducible rfl))
                try simp only [Act.put, List.setIfInBounds_toArray, List.set_cons_zero, List.set_cons_succ]
                refine wpAnyH_done (by kernel_rfl) ?_ _
                have BX := Lib.hid (BWQ.out.trans (RB1.out.mono BWQ.out.size))
                have IX := Lib.hid ((I3.out.below BQ.out).below RB1.out)
                have r3 := run_topk (A := (some ⟨bo, oo, none⟩)) (n := qs.length) (c := c7) (k := k2) hk2 IX.out.cap
                obtain ⟨FX, r2, hsF⟩ : ∃ FX, (∀ w, (Instr.sliceAt 26 (.slice (some ⟨bo, oo, none⟩) qs.length c7) (some (.int .i64 (k2 : Int))) none none).run Try.prog w = .ok (.slice FX (qs.length - k2) (c7 - k2)) w) ∧ ∀ w, Q.Ints w (some ⟨bo, oo, none⟩) qs.length c7 (qs.map (fun p => p.id)) → Src w FX (qs.length - k2) (c7 - k2) 1 (((qs.map (fun p => p.id)).drop k2).map (Value.int .i64)) := ⟨_, Q.run_from hk2 IX.out.cap, fun w h => h.srcFrom k2 hk2⟩
                have HSF := Lib.hid (hsF y1 (IX.out.ints (by omega)))
                have HST := Lib.hid (src_top (k := k2) (IX.out.ints (by omega)) HA7.out hk2)
                have OM := Lib.hid (World.ownsRow_made (base := y1.heap.size) (e := 3) (size := 1) y1 #[] 0 (Nat.le_refl _) (by decide) (by simp))
                have BA := Lib.hid ((Below.refl y1.heap.size y1).alloc (Nat.le_refl _) (.cells #[] 3))
                have HLn := Lib.hid (show (Pl.insP pp qs).length = qs.length + 1 by rw [(Pl.insP_perm pp qs).length_eq, List.length_cons])
                have HIn := Lib.hid (show ((Pl.insP pp qs).map (fun p => p.id)).map (Value.int .i64) = (((qs.map (fun p => p.id)).take k2).map (Value.int .i64) ++ [.int .i64 id]) ++ ((qs.map (fun p => p.id)).drop k2).map (Value.int .i64) by
                  rw [HIp.out, List.map_append, List.map_cons, HIdp.out, List.map_append_cons3, List.map_take, List.map_drop])
                clear hsF HIp HAh0 I3 I7 IX HO
                go_upto_region 11 with (first
                  | (at_builtin; refine wpList_append_any _ rfl _ _ 26 rfl y1.heap.size 3 i0 _ 1 8 Try.underlying26 HI.out.1 HI.out.2.1 HI.out.2.2.1 HI.out.2.2.2 rfl (by decide) _ 0 [] rfl OM.out FX (qs.length - k2) (c7 - k2) (((qs.map (fun p => p.id)).drop k2).map (Value.int .i64)) rfl (HSF.out.below BA.out) (by unfold maxLen; omega) (by omega) BA.out.size ?_; intro v10 w10 hgr; have BX10 := Lib.hid (hgr.below BA.out OM.out); have O10 := Lib.hid (Pl.own_mono (show w10.ownsRow y1.heap.size 3 1 v10 (qs.length - k2) (((qs.map (fun p => p.id)).drop k2).map (Value.int .i64)) by have := hgr.own; rw [Nat.zero_add, List.nil_append] at this; exact this) BX.out.size); have SA := Lib.hid (HST.out.below BX10.out); have B10 := Lib.hid (BX.out.trans (BX10.out.mono BX.out.size)); clear hgr)
                  | fail)
                obtain ⟨A8, c8, rfl, _, _⟩ := Q.own_slice O10.out
                clear HST HSF OM BA r2
                refine wp_region_held_drew (S := (fun y => Below w.heap.size w y)) (by kernel_rfl) (B10.out.drew) (fun hH0 => ?_)
                generalize hy0 : World.drew _ = y0 at hH0 ⊢
                have RB0 : Hid (Below w.heap.size w y0) := Lib.hid hH0
                have RO0 := Lib.hid (show World.ownsRow y0 w.heap.size 3 1 (.slice A8 (qs.length - k2) c8) (qs.length - k2) (((qs.map (fun p => p.id)).drop k2).map (Value.int .i64)) by rw [← hy0]; exact own_keep O10.out (fun b _ hl => (show _ = _ from rfl)))
                have RA0 := Lib.hid (show Src y0 (some ⟨bo, oo, none⟩) k2 k2 1 (((qs.map (fun p => p.id)).take k2).map (Value.int .i64)) by rw [← hy0]; exact SA.out.below ((Below.refl _ _).drew))
                clear hy0
                refine wpAnyH_take (i := 0) (oi := ({ dst := some 63, op := Op.move (Operand.tmp 7), type := 26, pos := "ref.go:88", after := #[], guard := none } : Oper)) (v := ?hv29) rfl (by kernel_rfl) (by kernel_rfl) (by kernel_rfl) (fun _ _ _ h => h) (Or.inl ⟨by rfl, ?hy29⟩) (by assumption) ?hr29
                case hy29 => (intro w hSw; (try dsimp only at hSw); go_simp; (try with_reducible rfl))
                try simp only [Act.put, List.setIfInBounds_toArray, List.set_cons_zero, List.set_cons_succ]
                refine wpAnyH_take (i := 1) (oi := ({ dst := some 64, op := Op.move (Operand.tmp 11), type := 3, pos := "ref.go:88", after := #[], guard := none } : Oper)) (v := ?hv30) rfl (by kernel_rfl) (by kernel_rfl) (by kernel_rfl) (fun _ _ _ h => h) (Or.inl ⟨by rfl, ?hy30⟩) (by assumption) ?hr30
                case hy30 => (intro w hSw; (try dsimp only at hSw); go_simp; (try with_reducible rfl))
                try simp only [Act.put, List.setIfInBounds_toArray, List.set_cons_zero, List.set_cons_succ]
                refine wpAnyH_take (i := 2) (oi := ({ dst := some 65, op := Op.move (Operand.tmp 11), type := 3, pos := "ref.go:88", after := #[], guard := none } : Oper)) (v := ?hv31) rfl (by kernel_rfl) (by kernel_rfl) (by kernel_rfl) (fun _ _ _ h => h) (Or.inl ⟨by rfl, ?hy31⟩) (by assumption) ?hr31
                case hy31 => (intro w hSw; (try dsimp only at hSw); go_simp; (try with_reducible rfl))
                try simp only [Act.put, List.setIfInBounds_toArray, List.set_cons_zero, List.set_cons_succ]
                refine wpAnyH_take (i := 3) (oi := ({ dst := some 66, op := Op.slice 26 (Operand.tmp 63) none (some (Operand.tmp 64)) (some (Operand.tmp 65)), type := 26, pos := "ref.go:88", after := #[{ on := 0, ground := Ground.data }, { on := 1, ground := Ground.data }, { on := 2, ground := Ground.data }], guard := none } : Oper)) (v := ?hv32) rfl (by kernel_rfl) (by kernel_rfl) (by kernel_rfl) (fun _ _ _ h => h) (Or.inl ⟨by rfl, ?hy32⟩) (by assumption) ?hr32
                case hy32 => (intro w hSw; (try dsimp only at hSw); go_simp; (try with_reducible rfl))
                try simp only [Act.put, List.setIfInBounds_toArray, List.set_cons_zero, List.set_cons_succ]
                refine wpAnyH_take (i := 4) (oi := ({ dst := some 67, op := Op.move (Operand.tmp 2), type := 26, pos := "ref.go:88", after := #[], guard := none } : Oper)) (v := ?hv33) rfl (by kernel_rfl) (by kernel_rfl) (by kernel_rfl) (fun _ _ _ h => h) (Or.inl ⟨by rfl, ?hy33⟩) (by assumption) ?hr33
                case hy33 => (intro w hSw; (try dsimp only at hSw); go_simp; (try with_reducible rfl))
                try simp only [Act.put, List.setIfInBounds_toArray, List.set_cons_zero, List.set_cons_succ]
                refine wpAnyH_take (i := 5) (oi := ({ dst := some 68, op := Op.move (Operand.tmp 8), type := 3, pos := "ref.go:88", after := #[], guard := none } : Oper)) (v := ?hv34) rfl (by kernel_rfl) (by kernel_rfl) (by kernel_rfl) (fun _ _ _ h => h) (Or.inl ⟨by rfl, ?hy34⟩) (by assumption) ?hr34
                case hy34 => (intro w hSw; (try dsimp only at hSw); go_simp; (try with_reducible rfl))
                try simp only [Act.put, List.setIfInBounds_toArray, List.set_cons_zero, List.set_cons_succ]
                refine wpAnyH_take (i := 6) (oi := ({ dst := some 69, op := Op.indexAddr 26 (Operand.tmp 67) (Operand.tmp 68), type := 0, pos := "ref.go:88", after := #[{ on := 4, ground := Ground.data }, { on := 5, ground := Ground.data }], guard := none } : Oper)) (v := ?hv35) rfl (by kernel_rfl) (by kernel_rfl) (by kernel_rfl) (fun _ _ _ h => h) (Or.inl ⟨by rfl, ?hy35⟩) (by assumption) ?hr35
                case hy35 => (intro w hSw; (try dsimp only at hSw); go_simp; (try with_reducible rfl))
                try simp only [Act.put, List.setIfInBounds_toArray, List.set_cons_zero, List.set_cons_succ]
                refine wpAnyH_take (i := 7) (oi := ({ dst := some 70, op := Op.load 3 (Operand.tmp 69), type := 3, pos := "ref.go:88", after := #[{ on := 6, ground := Ground.data }], guard := none } : Oper)) (v := .int .i64 id) rfl (by kernel_rfl) (by kernel_rfl) (by kernel_rfl) (fun _ _ _ h => h) (Or.inl ⟨by rfl, fun w0 hw0 => by have q0 := HQj.out w0 hw0; go_simp⟩) (by assumption) ?_
                try simp only [Act.put, List.setIfInBounds_toArray, List.set_cons_zero, List.set_cons_succ]
                refine wpAnyH_take (i := 10) (oi := ({ dst := some 73, op := Op.move (Operand.tmp 12), type := 26, pos := "ref.go:88", after := #[], guard := none } : Oper)) (v := ?hv36) rfl (by kernel_rfl) (by kernel_rfl) (by kernel_rfl) (fun _ _ _ h => h) (Or.inl ⟨by rfl, ?hy36⟩) (by assumption) ?hr36
                case hy36 => (intro w hSw; (try dsimp only at hSw); go_simp; (try with_reducible rfl))
                try simp only [Act.put, List.setIfInBounds_toArray, List.set_cons_zero, List.set_cons_succ]
                refine wpAnyH_ready (rs := [8]) (by kernel_rfl) (by simp) ?_
                refine AllReadyH.cons (o := ({ dst := some 71, op := Op.buildSlice 26 1 #[(0, Operand.tmp 70)], type := 26, pos := "ref.go:88", after := #[{ on := 7, ground := Ground.data }], guard := none } : Oper)) rfl (fun KK hKK => ?_) AllReadyH.nil
                go_simp
                generalize hy1 : World.alloc y0 _ = y1
                have hba : Below y0.heap.size y0 y1 := by rw [← hy1]; exact (Below.refl y0.heap.size y0).alloc (Nat.le_refl _) _
                have RB1 := Lib.hid (RB0.out.trans (hba.mono RB0.out.size)); have RO1 := Lib.hid (own_keep RO0.out (fun b _ hl => hba.block b hl)); have RA1 := Lib.hid (RA0.out.below hba)
                have RS := Lib.hid (show Src y1 (some ⟨y0.heap.size, 0, none⟩) 1 1 1 [.int .i64 id] by rw [← hy1]; exact int_src y0 id)
                clear hy1 hba
                refine hKK.out _ _ (RB1.out) (fun hH1 => ?_)
                clear hKK KK
                try simp only [Act.put, List.setIfInBounds_toArray, List.set_cons_zero, List.set_cons_succ]
                refine wpAnyH_ready (rs := [9]) (by kernel_rfl) (by simp) ?_
                refine AllReadyH.cons (o := ({ dst := some 72, op := Op.call { callee := Callee.builtin Builtin.append, args := #[Operand.tmp 66, Operand.tmp 71], argTypes := #[26, 26] }, type := 26, pos := "ref.go:88", after := #[{ on := 3, ground := Ground.data }, { on := 8, ground := Ground.data }], guard := none } : Oper)) rfl (fun KK hKK => ?_) AllReadyH.nil
                refine step_append_full rfl (.tmp 66) (.tmp 71) 26 rfl w.heap.size 3 i0 _ 1 8 Try.underlying26 HI.out.1 HI.out.2.1 HI.out.2.2.1 HI.out.2.2.2 rfl (some ⟨bo, oo, none⟩) HA7.out k2 (((qs.map (fun p => p.id)).take k2).map (Value.int .i64)) rfl RA1.out _ (by simp) 1 1 [.int .i64 id] rfl RS.out (by decide) (by unfold maxLen; omega) (by omega) RB1.out.size ?_
                intro v2 y2 ho hg hv
                have RB2 := Lib.hid (RB1.out.grown hg RB1.out.size (fun k hk => by cases hk)); have RV := Lib.hid ho; have RO2 := Lib.hid (own_keep RO1.out (fun b _ hl => hg.block b hl (by simp))); have HV2 := Lib.hid (show v2.ownBlock ≠ none by rw [hv]; simp)
                clear ho hg hv
                refine hKK.out _ _ (RB2.out) (fun hH2 => ?_)
                clear hKK KK
                try simp only [Act.put, List.setIfInBounds_toArray, List.set_cons_zero, List.set_cons_succ]
                refine wpAnyH_ready (rs := [11]) (by kernel_rfl) (by simp) ?_
                refine AllReadyH.cons (o := ({ dst := some 74, op := Op.call { callee := Callee.builtin Builtin.append, args := #[Operand.tmp 72, Operand.tmp 73], argTypes := #[26, 26] }, type := 26, pos := "ref.go:88", after := #[{ on := 9, ground := Ground.data }, { on := 10, ground := Ground.data }, { on := 9, ground := Ground.chain }], guard := none } : Oper)) rfl (fun KK hKK => ?_) AllReadyH.nil
                refine step_append_any _ rfl (.tmp 72) (.tmp 73) 26 rfl w.heap.size 3 i0 _ 1 8 Try.underlying26 HI.out.1 HI.out.2.1 HI.out.2.2.1 HI.out.2.2.2 rfl (by decide) v2 (k2 + 1) (((qs.map (fun p => p.id)).take k2).map (Value.int .i64) ++ [.int .i64 id]) rfl RV.out A8 (qs.length - k2) c8 (((qs.map (fun p => p.id)).drop k2).map (Value.int .i64)) rfl (Q.own_ints RO2.out (by omega)).src (by unfold maxLen; omega) (by omega) RB2.out.size ?_
                intro v3 y3 hgr
                have RB3 := Lib.hid (hgr.below RB2.out RV.out); have RW := Lib.hid hgr.own; have HV3 := Lib.hid (show v3.ownBlock ≠ none by rcases hgr.at_ with e | e <;> rw [e]; exact HV2.out; simp); clear hgr
                refine hKK.out _ _ (RB3.out) (fun hH3 => ?_)
                clear hKK KK
                try simp only [Act.put, List.setIfInBounds_toArray, List.set_cons_zero, List.set_cons_succ]
                refine wpAnyH_take (i := 12) (oi := ({ dst := some 7, op := Op.assign (Operand.tmp 74), type := 26, pos := "ref.go:88", after := #[{ on := 11, ground := Ground.data }, { on := 11, ground := Ground.chain }, { on := 0, ground := Ground.phase }, { on := 1, ground := Ground.phase }, { on := 2, ground := Ground.phase }, { on := 3, ground := Ground.phase }, { on := 4, ground := Ground.phase }, { on := 5, ground := Ground.phase }, { on := 6, ground := Ground.phase }, { on := 7, ground := Ground.phase }, { on := 8, ground := Ground.phase }, { on := 9, ground := Ground.phase }, { on := 10, ground := Ground.phase }, { on := 11, ground := Ground.phase }], guard := none } : Oper)) (v := ?hv37) rfl (by kernel_rfl) (by kernel_rfl) (by kernel_rfl) (fun _ _ _ h => h) (Or.inl ⟨by rfl, ?hy37⟩) (by assumption) ?hr37
                case hy37 => (intro w hSw; (try dsimp only at hSw); go_simp; (try with_reducible rfl))
                try simp only [Act.put, List.setIfInBounds_toArray, List.set_cons_zero, List.set_cons_succ]
                refine wpAnyH_done (by kernel_rfl) ?_ _
                go_wp2
                go_roundg (n2 - (kk + 1))
                case measure => omega
                case rel =>
                  refine ⟨kk + 1, Pl.insP pp qs, v3, by omega, by omega, rfl, by go_num, Lib.hid ?_, RB3, HV3, Lib.hid HNew.out.symm⟩
                  have := RW.out
                  rw [show k2 + 1 + (qs.length - k2) = (Pl.insP pp qs).length by rw [HLn.out]; omega, ← HIn.out] at this
                  exact this
            · have hl2z : ¬ (k2 : Int) < (qs.length : Int) := by omega
              have HIp : Hid (Pl.insP pp qs = qs.take k2 ++ pp :: qs.drop k2) := Lib.hid (Pl.insP_at hk2 HJ.out (fun h => absurd h hl2))
              go_upto_region 8 with (fail)
              refine wp_region_held_drew (S := (fun y => Below wr.heap.size wr y)) (by kernel_rfl) ((Below.refl wr.heap.size wr).drew) (fun hH0 => ?_)
              generalize hy0 : World.drew _ = y0 at hH0 ⊢
              have RB0 : Hid (Below wr.heap.size wr y0) := Lib.hid hH0
              clear hy0
              refine wpAnyH_take (i := 0) (oi := ({ dst := some 39, op := Op.move (Operand.tmp 11), type := 3, pos := "ref.go:84", after := #[], guard := none } : Oper)) (v := ?hv38) rfl (by kernel_rfl) (by kernel_rfl) (by kernel_rfl) (fun _ _ _ h => h) (Or.inl ⟨by rfl, ?hy38⟩) (by assumption) ?hr38
              case hy38 => (intro w hSw; (try dsimp only at hSw); go_simp; (try with_reducible rfl))
              try simp only [Act.put, List.setIfInBounds_toArray, List.set_cons_zero, List.set_cons_succ]
              refine wpAnyH_take (i := 1) (oi := ({ dst := some 40, op := Op.move (Operand.tmp 7), type := 26, pos := "ref.go:84", after := #[], guard := none } : Oper)) (v := ?hv39) rfl (by kernel_rfl) (by kernel_rfl) (by kernel_rfl) (fun _ _ _ h => h) (Or.inl ⟨by rfl, ?hy39⟩) (by assumption) ?hr39
              case hy39 => (intro w hSw; (try dsimp only at hSw); go_simp; (try with_reducible rfl))
              try simp only [Act.put, List.setIfInBounds_toArray, List.set_cons_zero, List.set_cons_succ]
              refine wpAnyH_take (i := 2) (oi := ({ dst := some 41, op := Op.call { callee := Callee.builtin Builtin.len, args := #[Operand.tmp 40], argTypes := #[26] }, type := 3, pos := "ref.go:84", after := #[{ on := 1, ground := Ground.data }], guard := none } : Oper)) (v := ?hv40) rfl (by kernel_rfl) (by kernel_rfl) (by kernel_rfl) (fun _ _ _ h => h) (Or.inl ⟨by rfl, ?hy40⟩) (by assumption) ?hr40
              case hy40 => (intro w hSw; (try dsimp only at hSw); go_simp; (try with_reducible rfl))
              try simp only [Act.put, List.setIfInBounds_toArray, List.set_cons_zero, List.set_cons_succ]
              refine wpAnyH_take (i := 3) (oi := ({ dst := some 42, op := Op.binOp BinOp.lss 3 (Operand.tmp 39) (Operand.tmp 41) 3, type := 4, pos := "ref.go:84", after := #[{ on := 0, ground := Ground.data }, { on := 2, ground := Ground.data }], guard := none } : Oper)) (v := ?hv41) rfl (by kernel_rfl) (by kernel_rfl) (by kernel_rfl) (fun _ _ _ h => h) (Or.inl ⟨by rfl, ?hy41⟩) (by assumption) ?hr41
              case hy41 => (intro w hSw; (try dsimp only at hSw); go_simp; (try with_reducible rfl))
              try simp only [Act.put, List.setIfInBounds_toArray, List.set_cons_zero, List.set_cons_succ]
              refine wpAnyH_take (i := 4) (oi := ({ dst := some 43, op := Op.move (Operand.tmp 42), type := 4, pos := "ref.go:84", after := #[{ on := 3, ground := Ground.data }], guard := none } : Oper)) (v := ?hv42) rfl (by kernel_rfl) (by kernel_rfl) (by kernel_rfl) (fun _ _ _ h => h) (Or.inl ⟨by rfl, ?hy42⟩) (by assumption) ?hr42
              case hy42 => (intro w hSw; (try dsimp only at hSw); go_simp; (try with_reducible rfl))
              try simp only [Act.put, List.setIfInBounds_toArray, List.set_cons_zero, List.set_cons_succ]
              refine wpAnyH_take (i := 5) (oi := ({ dst := some 44, op := Op.move (Operand.tmp 0), type := 22, pos := "ref.go:84", after := #[{ on := 4, ground := Ground.guard }], guard := some (4, true) } : Oper)) (v := undef) rfl (by kernel_rfl) (by kernel_rfl) (by kernel_rfl) (fun _ _ _ h => h) (Or.inr ⟨by rfl, rfl⟩) (by assumption) ?_
              try simp only [Act.put, List.setIfInBounds_toArray, List.set_cons_zero, List.set_cons_succ]
              refine wpAnyH_take (i := 6) (oi := ({ dst := some 45, op := Op.move (Operand.tmp 1), type := 26, pos := "ref.go:84", after := #[{ on := 4, ground := Ground.guard }], guard := some (4, true) } : Oper)) (v := undef) rfl (by kernel_rfl) (by kernel_rfl) (by kernel_rfl) (fun _ _ _ h => h) (Or.inr ⟨by rfl, rfl⟩) (by assumption) ?_
              try simp only [Act.put, List.setIfInBounds_toArray, List.set_cons_zero, List.set_cons_succ]
              refine wpAnyH_take (i := 7) (oi := ({ dst := some 46, op := Op.move (Operand.tmp 7), type := 26, pos := "ref.go:84", after := #[{ on := 4, ground := Ground.guard }], guard := some (4, true) } : Oper)) (v := undef) rfl (by kernel_rfl) (by kernel_rfl) (by kernel_rfl) (fun _ _ _ h => h) (Or.inr ⟨by rfl, rfl⟩) (by assumption) ?_
              try simp only [Act.put, List.setIfInBounds_toArray, List.set_cons_zero, List.set_cons_succ]
              refine wpAnyH_take (i := 8) (oi := ({ dst := some 47, op := Op.move (Operand.tmp 11), type := 3, pos := "ref.go:84", after := #[{ on := 4, ground := Ground.guard }], guard := some (4, true) } : Oper)) (v := undef) rfl (by kernel_rfl) (by kernel_rfl) (by kernel_rfl) (fun _ _ _ h => h) (Or.inr ⟨by rfl, rfl⟩) (by assumption) ?_
              try simp only [Act.put, List.setIfInBounds_toArray, List.set_cons_zero, List.set_cons_succ]
              refine wpAnyH_take (i := 9) (oi := ({ dst := some 48, op := Op.indexAddr 26 (Operand.tmp 46) (Operand.tmp 47), type := 0, pos := "ref.go:84", after := #[{ on := 7, ground := Ground.data }, { on := 8, ground := Ground.data }, { on := 4, ground := Ground.guard }], guard := some (4, true) } : Oper)) (v := undef) rfl (by kernel_rfl) (by kernel_rfl) (by kernel_rfl) (fun _ _ _ h => h) (Or.inr ⟨by rfl, rfl⟩) (by assumption) ?_
              try simp only [Act.put, List.setIfInBounds_toArray, List.set_cons_zero, List.set_cons_succ]
              refine wpAnyH_take (i := 10) (oi := ({ dst := some 49, op := Op.load 3 (Operand.tmp 48), type := 3, pos := "ref.go:84", after := #[{ on := 9, ground := Ground.data }, { on := 4, ground := Ground.guard }], guard := some (4, true) } : Oper)) (v := undef) rfl (by kernel_rfl) (by kernel_rfl) (by kernel_rfl) (fun _ _ _ h => h) (Or.inr ⟨by rfl, rfl⟩) (by assumption) ?_
              try simp only [Act.put, List.setIfInBounds_toArray, List.set_cons_zero, List.set_cons_succ]
              refine wpAnyH_take (i := 11) (oi := ({ dst := some 50, op := Op.move (Operand.tmp 2), type := 26, pos := "ref.go:84", after := #[{ on := 4, ground := Ground.guard }], guard := some (4, true) } : Oper)) (v := undef) rfl (by kernel_rfl) (by kernel_rfl) (by kernel_rfl) (fun _ _ _ h => h) (Or.inr ⟨by rfl, rfl⟩) (by assumption) ?_
              try simp only [Act.put, List.setIfInBounds_toArray, List.set_cons_zero, List.set_cons_succ]
              refine wpAnyH_take (i := 12) (oi := ({ dst := some 51, op := Op.move (Operand.tmp 8), type := 3, pos := "ref.go:84", after := #[{ on := 4, ground := Ground.guard }], guard := some (4, true) } : Oper)) (v := undef) rfl (by kernel_rfl) (by kernel_rfl) (by kernel_rfl) (fun _ _ _ h => h) (Or.inr ⟨by rfl, rfl⟩) (by assumption) ?_
              try simp only [Act.put, List.setIfInBounds_toArray, List.set_cons_zero, List.set_cons_succ]
              refine wpAnyH_take (i := 13) (oi := ({ dst := some 52, op := Op.indexAddr 26 (Operand.tmp 50) (Operand.tmp 51), type := 0, pos := "ref.go:84", after := #[{ on := 11, ground := Ground.data }, { on := 12, ground := Ground.data }, { on := 4, ground := Ground.guard }], guard := some (4, true) } : Oper)) (v := undef) rfl (by kernel_rfl) (by kernel_rfl) (by kernel_rfl) (fun _ _ _ h => h) (Or.inr ⟨by rfl, rfl⟩) (by assumption) ?_
              try simp only [Act.put, List.setIfInBounds_toArray, List.set_cons_zero, List.set_cons_succ]
              refine wpAnyH_take (i := 14) (oi := ({ dst := some 53, op := Op.load 3 (Operand.tmp 52), type := 3, pos := "ref.go:84", after := #[{ on := 13, ground := Ground.data }, { on := 4, ground := Ground.guard }], guard := some (4, true) } : Oper)) (v := undef) rfl (by kernel_rfl) (by kernel_rfl) (by kernel_rfl) (fun _ _ _ h => h) (Or.inr ⟨by rfl, rfl⟩) (by assumption) ?_
              try simp only [Act.put, List.setIfInBounds_toArray, List.set_cons_zero, List.set_cons_succ]
              refine wpAnyH_ready (rs := [15]) (by kernel_rfl) (by simp) ?_
              refine AllReadyH.cons (o := ({ dst := some 54, op := Op.call { callee := Callee.value (Operand.func 32), args := #[Operand.tmp 44, Operand.tmp 45, Operand.tmp 49, Operand.tmp 53], argTypes := #[22, 26, 3, 3] }, type := 4, pos := "ref.go:84", after := #[{ on := 5, ground := Ground.data }, { on := 6, ground := Ground.data }, { on := 10, ground := Ground.data }, { on := 14, ground := Ground.data }, { on := 4, ground := Ground.chain }, { on := 4, ground := Ground.guard }], guard := some (4, true) } : Oper)) rfl (fun KK hKK => ?_) AllReadyH.nil
              go_simp
              refine hKK.out _ _ (hH0) (fun hH1 => ?_)
              clear hKK KK
              try simp only [Act.put, List.setIfInBounds_toArray, List.set_cons_zero, List.set_cons_succ]
              refine wpAnyH_take (i := 16) (oi := ({ dst := some 55, op := Op.pick (Operand.tmp 43) (Operand.tmp 54) (Operand.const (Value.bool false)), type := 4, pos := "ref.go:84", after := #[{ on := 4, ground := Ground.data }, { on := 15, ground := Ground.data }], guard := none } : Oper)) (v := ?hv43) rfl (by kernel_rfl) (by kernel_rfl) (by kernel_rfl) (fun _ _ _ h => h) (Or.inl ⟨by rfl, ?hy43⟩) (by assumption) ?hr43
              case hy43 => (intro w hSw; (try dsimp only at hSw); go_simp; (try with_reducible rfl))
              try simp only [Act.put, List.setIfInBounds_toArray, List.set_cons_zero, List.set_cons_succ]
              refine wpAnyH_done (by kernel_rfl) ?_ _
              have BX := Lib.hid (BWQ.out.trans (RB0.out.mono BWQ.out.size))
              have IX := Lib.hid ((I3.out.below BQ.out).below RB0.out)
              have r3 := run_topk (A := A7) (n := qs.length) (c := c7) (k := k2) hk2 IX.out.cap
              obtain ⟨FX, r2, hsF⟩ : ∃ FX, (∀ w, (Instr.sliceAt 26 (.slice A7 qs.length c7) (some (.int .i64 (k2 : Int))) none none).run Try.prog w = .ok (.slice FX (qs.length - k2) (c7 - k2)) w) ∧ ∀ w, Q.Ints w A7 qs.length c7 (qs.map (fun p => p.id)) → Src w FX (qs.length - k2) (c7 - k2) 1 (((qs.map (fun p => p.id)).drop k2).map (Value.int .i64)) := ⟨_, Q.run_from hk2 IX.out.cap, fun w h => h.srcFrom k2 hk2⟩
              have HSF := Lib.hid (hsF y0 (IX.out.ints (by omega)))
              have HST := Lib.hid (src_top (k := k2) (IX.out.ints (by omega)) HA7.out hk2)
              have OM := Lib.hid (World.ownsRow_made (base := y0.heap.size) (e := 3) (size := 1) y0 #[] 0 (Nat.le_refl _) (by decide) (by simp))
              have BA := Lib.hid ((Below.refl y0.heap.size y0).alloc (Nat.le_refl _) (.cells #[] 3))
              have HLn := Lib.hid (show (Pl.insP pp qs).length = qs.length + 1 by rw [(Pl.insP_perm pp qs).length_eq, List.length_cons])
              have HIn := Lib.hid (show ((Pl.insP pp qs).map (fun p => p.id)).map (Value.int .i64) = (((qs.map (fun p => p.id)).take k2).map (Value.int .i64) ++ [.int .i64 id]) ++ ((qs.map (fun p => p.id)).drop k2).map (Value.int .i64) by
                rw [HIp.out, List.map_append, List.map_cons, HIdp.out, List.map_append_cons3, List.map_take, List.map_drop])
              clear hsF HIp HAh0 I3 I7 IX HO
              go_upto_region 11 with (first
                | (at_builtin; refine wpList_append_any _ rfl _ _ 26 rfl y0.heap.size 3 i0 _ 1 8 Try.underlying26 HI.out.1 HI.out.2.1 HI.out.2.2.1 HI.out.2.2.2 rfl (by decide) _ 0 [] rfl OM.out FX (qs.length - k2) (c7 - k2) (((qs.map (fun p => p.id)).drop k2).map (Value.int .i64)) rfl (HSF.out.below BA.out) (by unfold maxLen; omega) (by omega) BA.out.size ?_; intro v10 w10 hgr; have BX10 := Lib.hid (hgr.below BA.out OM.out); have O10 := Lib.hid (Pl.own_mono (show w10.ownsRow y0.heap.size 3 1 v10 (qs.length - k2) (((qs.map (fun p => p.id)).drop k2).map (Value.int .i64)) by have := hgr.own; rw [Nat.zero_add, List.nil_append] at this; exact this) BX.out.size); have SA := Lib.hid (HST.out.below BX10.out); have B10 := Lib.hid (BX.out.trans (BX10.out.mono BX.out.size)); clear hgr)
                | fail)
              obtain ⟨A8, c8, rfl, _, _⟩ := Q.own_slice O10.out
              clear HST HSF OM BA r2
              refine wp_region_held_drew (S := (fun y => Below w.heap.size w y)) (by kernel_rfl) (B10.out.drew) (fun hH0 => ?_)
              generalize hy0 : World.drew _ = y0 at hH0 ⊢
              have RB0 : Hid (Below w.heap.size w y0) := Lib.hid hH0
              have RO0 := Lib.hid (show World.ownsRow y0 w.heap.size 3 1 (.slice A8 (qs.length - k2) c8) (qs.length - k2) (((qs.map (fun p => p.id)).drop k2).map (Value.int .i64)) by rw [← hy0]; exact own_keep O10.out (fun b _ hl => (show _ = _ from rfl)))
              have RA0 := Lib.hid (show Src y0 A7 k2 k2 1 (((qs.map (fun p => p.id)).take k2).map (Value.int .i64)) by rw [← hy0]; exact SA.out.below ((Below.refl _ _).drew))
              clear hy0
              refine wpAnyH_take (i := 0) (oi := ({ dst := some 63, op := Op.move (Operand.tmp 7), type := 26, pos := "ref.go:88", after := #[], guard := none } : Oper)) (v := ?hv44) rfl (by kernel_rfl) (by kernel_rfl) (by kernel_rfl) (fun _ _ _ h => h) (Or.inl ⟨by rfl, ?hy44⟩) (by assumption) ?hr44
              case hy44 => (intro w hSw; (try dsimp only at hSw); go_simp; (try with_reducible rfl))
              try simp only [Act.put, List.setIfInBounds_toArray, List.set_cons_zero, List.set_cons_succ]
              refine wpAnyH_take (i := 1) (oi := ({ dst := some 64, op := Op.move (Operand.tmp 11), type := 3, pos := "ref.go:88", after := #[], guard := none } : Oper)) (v := ?hv45) rfl (by kernel_rfl) (by kernel_rfl) (by kernel_rfl) (fun _ _ _ h => h) (Or.inl ⟨by rfl, ?hy45⟩) (by assumption) ?hr45
              case hy45 => (intro w hSw; (try dsimp only at hSw); go_simp; (try with_reducible rfl))
              try simp only [Act.put, List.setIfInBounds_toArray, List.set_cons_zero, List.set_cons_succ]
              refine wpAnyH_take (i := 2) (oi := ({ dst := some 65, op := Op.move (Operand.tmp 11), type := 3, pos := "ref.go:88", after := #[], guard := none } : Oper)) (v := ?hv46) rfl (by kernel_rfl) (by kernel_rfl) (by kernel_rfl) (fun _ _ _ h => h) (Or.inl ⟨by rfl, ?hy46⟩) (by assumption) ?hr46
              case hy46 => (intro w hSw; (try dsimp only at hSw); go_simp; (try with_reducible rfl))
              try simp only [Act.put, List.setIfInBounds_toArray, List.set_cons_zero, List.set_cons_succ]
              refine wpAnyH_take (i := 3) (oi := ({ dst := some 66, op := Op.slice 26 (Operand.tmp 63) none (some (Operand.tmp 64)) (some (Operand.tmp 65)), type := 26, pos := "ref.go:88", after := #[{ on := 0, ground := Ground.data }, { on := 1, ground := Ground.data }, { on := 2, ground := Ground.data }], guard := none } : Oper)) (v := ?hv47) rfl (by kernel_rfl) (by kernel_rfl) (by kernel_rfl) (fun _ _ _ h => h) (Or.inl ⟨by rfl, ?hy47⟩) (by assumption) ?hr47
              case hy47 => (intro w hSw; (try dsimp only at hSw); go_simp; (try with_reducible rfl))
              try simp only [Act.put, List.setIfInBounds_toArray, List.set_cons_zero, List.set_cons_succ]
              refine wpAnyH_take (i := 4) (oi := ({ dst := some 67, op := Op.move (Operand.tmp 2), type := 26, pos := "ref.go:88", after := #[], guard := none } : Oper)) (v := ?hv48) rfl (by kernel_rfl) (by kernel_rfl) (by kernel_rfl) (fun _ _ _ h => h) (Or.inl ⟨by rfl, ?hy48⟩) (by assumption) ?hr48
              case hy48 => (intro w hSw; (try dsimp only at hSw); go_simp; (try with_reducible rfl))
              try simp only [Act.put, List.setIfInBounds_toArray, List.set_cons_zero, List.set_cons_succ]
              refine wpAnyH_take (i := 5) (oi := ({ dst := some 68, op := Op.move (Operand.tmp 8), type := 3, pos := "ref.go:88", after := #[], guard := none } : Oper)) (v := ?hv49) rfl (by kernel_rfl) (by kernel_rfl) (by kernel_rfl) (fun _ _ _ h => h) (Or.inl ⟨by rfl, ?hy49⟩) (by assumption) ?hr49
              case hy49 => (intro w hSw; (try dsimp only at hSw); go_simp; (try with_reducible rfl))
              try simp only [Act.put, List.setIfInBounds_toArray, List.set_cons_zero, List.set_cons_succ]
              refine wpAnyH_take (i := 6) (oi := ({ dst := some 69, op := Op.indexAddr 26 (Operand.tmp 67) (Operand.tmp 68), type := 0, pos := "ref.go:88", after := #[{ on := 4, ground := Ground.data }, { on := 5, ground := Ground.data }], guard := none } : Oper)) (v := ?hv50) rfl (by kernel_rfl) (by kernel_rfl) (by kernel_rfl) (fun _ _ _ h => h) (Or.inl ⟨by rfl, ?hy50⟩) (by assumption) ?hr50
              case hy50 => (intro w hSw; (try dsimp only at hSw); go_simp; (try with_reducible rfl))
              try simp only [Act.put, List.setIfInBounds_toArray, List.set_cons_zero, List.set_cons_succ]
              refine wpAnyH_take (i := 7) (oi := ({ dst := some 70, op := Op.load 3 (Operand.tmp 69), type := 3, pos := "ref.go:88", after := #[{ on := 6, ground := Ground.data }], guard := none } : Oper)) (v := .int .i64 id) rfl (by kernel_rfl) (by kernel_rfl) (by kernel_rfl) (fun _ _ _ h => h) (Or.inl ⟨by rfl, fun w0 hw0 => by have q0 := HQj.out w0 hw0; go_simp⟩) (by assumption) ?_
              try simp only [Act.put, List.setIfInBounds_toArray, List.set_cons_zero, List.set_cons_succ]
              refine wpAnyH_take (i := 10) (oi := ({ dst := some 73, op := Op.move (Operand.tmp 12), type := 26, pos := "ref.go:88", after := #[], guard := none } : Oper)) (v := ?hv51) rfl (by kernel_rfl) (by kernel_rfl) (by kernel_rfl) (fun _ _ _ h => h) (Or.inl ⟨by rfl, ?hy51⟩) (by assumption) ?hr51
              case hy51 => (intro w hSw; (try dsimp only at hSw); go_simp; (try with_reducible rfl))
              try simp only [Act.put, List.setIfInBounds_toArray, List.set_cons_zero, List.set_cons_succ]
              refine wpAnyH_ready (rs := [8]) (by kernel_rfl) (by simp) ?_
              refine AllReadyH.cons (o := ({ dst := some 71, op := Op.buildSlice 26 1 #[(0, Operand.tmp 70)], type := 26, pos := "ref.go:88", after := #[{ on := 7, ground := Ground.data }], guard := none } : Oper)) rfl (fun KK hKK => ?_) AllReadyH.nil
              go_simp
              generalize hy1 : World.alloc y0 _ = y1
              have hba : Below y0.heap.size y0 y1 := by rw [← hy1]; exact (Below.refl y0.heap.size y0).alloc (Nat.le_refl _) _
              have RB1 := Lib.hid (RB0.out.trans (hba.mono RB0.out.size)); have RO1 := Lib.hid (own_keep RO0.out (fun b _ hl => hba.block b hl)); have RA1 := Lib.hid (RA0.out.below hba)
              have RS := Lib.hid (show Src y1 (some ⟨y0.heap.size, 0, none⟩) 1 1 1 [.int .i64 id] by rw [← hy1]; exact int_src y0 id)
              clear hy1 hba
              refine hKK.out _ _ (RB1.out) (fun hH1 => ?_)
              clear hKK KK
              try simp only [Act.put, List.setIfInBounds_toArray, List.set_cons_zero, List.set_cons_succ]
              refine wpAnyH_ready (rs := [9]) (by kernel_rfl) (by simp) ?_
              refine AllReadyH.cons (o := ({ dst := some 72, op := Op.call { callee := Callee.builtin Builtin.append, args := #[Operand.tmp 66, Operand.tmp 71], argTypes := #[26, 26] }, type := 26, pos := "ref.go:88", after := #[{ on := 3, ground := Ground.data }, { on := 8, ground := Ground.data }], guard := none } : Oper)) rfl (fun KK hKK => ?_) AllReadyH.nil
              refine step_append_full rfl (.tmp 66) (.tmp 71) 26 rfl w.heap.size 3 i0 _ 1 8 Try.underlying26 HI.out.1 HI.out.2.1 HI.out.2.2.1 HI.out.2.2.2 rfl A7 HA7.out k2 (((qs.map (fun p => p.id)).take k2).map (Value.int .i64)) rfl RA1.out _ (by simp) 1 1 [.int .i64 id] rfl RS.out (by decide) (by unfold maxLen; omega) (by omega) RB1.out.size ?_
              intro v2 y2 ho hg hv
              have RB2 := Lib.hid (RB1.out.grown hg RB1.out.size (fun k hk => by cases hk)); have RV := Lib.hid ho; have RO2 := Lib.hid (own_keep RO1.out (fun b _ hl => hg.block b hl (by simp))); have HV2 := Lib.hid (show v2.ownBlock ≠ none by rw [hv]; simp)
              clear ho hg hv
              refine hKK.out _ _ (RB2.out) (fun hH2 => ?_)
              clear hKK KK
              try simp only [Act.put, List.setIfInBounds_toArray, List.set_cons_zero, List.set_cons_succ]
              refine wpAnyH_ready (rs := [11]) (by kernel_rfl) (by simp) ?_
              refine AllReadyH.cons (o := ({ dst := some 74, op := Op.call { callee := Callee.builtin Builtin.append, args := #[Operand.tmp 72, Operand.tmp 73], argTypes := #[26, 26] }, type := 26, pos := "ref.go:88", after := #[{ on := 9, ground := Ground.data }, { on := 10, ground := Ground.data }, { on := 9, ground := Ground.chain }], guard := none } : Oper)) rfl (fun KK hKK => ?_) AllReadyH.nil
              refine step_append_any _ rfl (.tmp 72) (.tmp 73) 26 rfl w.heap.size 3 i0 _ 1 8 Try.underlying26 HI.out.1 HI.out.2.1 HI.out.2.2.1 HI.out.2.2.2 rfl (by decide) v2 (k2 + 1) (((qs.map (fun p => p.id)).take k2).map (Value.int .i64) ++ [.int .i64 id]) rfl RV.out A8 (qs.length - k2) c8 (((qs.map (fun p => p.id)).drop k2).map (Value.int .i64)) rfl (Q.own_ints RO2.out (by omega)).src (by unfold maxLen; omega) (by omega) RB2.out.size ?_
              intro v3 y3 hgr
              have RB3 := Lib.hid (hgr.below RB2.out RV.out); have RW := Lib.hid hgr.own; have HV3 := Lib.hid (show v3.ownBlock ≠ none by rcases hgr.at_ with e | e <;> rw [e]; exact HV2.out; simp); clear hgr
              refine hKK.out _ _ (RB3.out) (fun hH3 => ?_)
              clear hKK KK
              try simp only [Act.put, List.setIfInBounds_toArray, List.set_cons_zero, List.set_cons_succ]
              refine wpAnyH_take (i := 12) (oi := ({ dst := some 7, op := Op.assign (Operand.tmp 74), type := 26, pos := "ref.go:88", after := #[{ on := 11, ground := Ground.data }, { on := 11, ground := Ground.chain }, { on := 0, ground := Ground.phase }, { on := 1, ground := Ground.phase }, { on := 2, ground := Ground.phase }, { on := 3, ground := Ground.phase }, { on := 4, ground := Ground.phase }, { on := 5, ground := Ground.phase }, { on := 6, ground := Ground.phase }, { on := 7, ground := Ground.phase }, { on := 8, ground := Ground.phase }, { on := 9, ground := Ground.phase }, { on := 10, ground := Ground.phase }, { on := 11, ground := Ground.phase }], guard := none } : Oper)) (v := ?hv52) rfl (by kernel_rfl) (by kernel_rfl) (by kernel_rfl) (fun _ _ _ h => h) (Or.inl ⟨by rfl, ?hy52⟩) (by assumption) ?hr52
              case hy52 => (intro w hSw; (try dsimp only at hSw); go_simp; (try with_reducible rfl))
              try simp only [Act.put, List.setIfInBounds_toArray, List.set_cons_zero, List.set_cons_succ]
              refine wpAnyH_done (by kernel_rfl) ?_ _
              go_wp2
              go_roundg (n2 - (kk + 1))
              case measure => omega
              case rel =>
                refine ⟨kk + 1, Pl.insP pp qs, v3, by omega, by omega, rfl, by go_num, Lib.hid ?_, RB3, HV3, Lib.hid HNew.out.symm⟩
                have := RW.out
                rw [show k2 + 1 + (qs.length - k2) = (Pl.insP pp qs).length by rw [HLn.out]; omega, ← HIn.out] at this
                exact this
    · have hltz : ¬ (kk : Int) < (n2 : Int) := by omega
      obtain rfl : kk = n2 := by omega
      have e : qs = ordR E n ms n1 zs := by rw [HQ.out, List.take_of_length_le (by rw [HZl.out]; exact Nat.le_refl _)]
      have HE := Lib.hid e
      have HWq := Lib.hid (fun z (hz : z ∈ qs.map (fun p => p.id)) => (by
        obtain ⟨p, hp, rfl⟩ := List.mem_map.1 hz
        have h0 := HInv.out kk (Nat.le_refl _)
        rw [← HQ.out] at h0
        exact HWz.out _ (List.mem_of_mem_take ((h0.mem p).1 hp).1) : i64B z))
      clear e
      go_wp2
      go_ret
      rw [HFin.out, ← HE.out]
      exact ints_own HO.out (by simp) (by omega) HWq.out BW.out
end Go.Proofs.Ytoljlpddcpdoiaa
