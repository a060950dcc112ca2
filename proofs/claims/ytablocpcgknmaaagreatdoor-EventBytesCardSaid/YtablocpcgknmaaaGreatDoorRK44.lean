/- The decoder of levels: its walk. Bounds: at most 800000 bytes. No condition. -/
import Derived.Test.YtablocpcgknmaaaGreatDoorRM1
import Derived.Test.YtablocpcgknmaaaGreatDoorRPh
namespace Go.Proofs.YtablocpcgknmaaaGreatDoor
open Go.Lib (hid)
open Go Go.RowKit
set_option linter.unusedVariables false
set_option linter.unusedSimpArgs false
set_option maxRecDepth 100000

theorem cntk_nat (zs : List Int) (f : Bool) : ∃ (n : Nat) (z : List Int) (g : Bool), cntk zs f = ((n : Int), z, g) ∧ n ≤ z.length ∧ (g = true → n = 0) ∧ z.length ≤ zs.length ∧ (f = true → g = true) := by
 have hl := cntk_len zs f
 unfold cntk at hl ⊢
 by_cases hc : (gtkI zs f).1 < 0 ∨ ((gtkI zs f).2.1.length : Int) < (gtkI zs f).1
 ·rw [if_pos hc] at hl ⊢
  exact ⟨0, (gtkI zs f).2.1, true, rfl, Nat.zero_le _, fun _ => rfl, hl, fun _ => rfl⟩
 ·rw [if_neg hc] at hl ⊢
  refine ⟨(gtkI zs f).1.toNat, (gtkI zs f).2.1, (gtkI zs f).2.2, ?_, by omega, fun hg => ?_, hl, fun hf => by subst hf; rfl⟩
  ·rw [Int.toNat_of_nonneg (by omega)]
  ·unfold gtkI at hg ⊢
   cases f with
   | true => rfl
   | false =>
    rw [if_neg (by decide)] at hg ⊢
    cases hd : Cd.di zs with
    | none => rfl
    | some p => rw [hd] at hg; cases hg
theorem takes_true (zs : List Int) : ∀ n, (takes zs true n).2.2 = true
 | 0 => rfl
 |n + 1 => by
  show (gtkI (takes zs true n).2.1 (takes zs true n).2.2).2.2 = true
  rw [takes_true zs n]; rfl
def dc3 (us : List (ByteArray × Int)) (ks : List (Int × Int)) (z : List Int) : Option (Lv × List Int) := if (takes z false 7).2.2 = true then none else some (⟨us, ks, (takes z false 7).1.getD 0 0, (takes z false 7).1.getD 1 0, (takes z false 7).1.getD 2 0, (takes z false 7).1.getD 3 0, (takes z false 7).1.getD 4 0, (takes z false 7).1.getD 5 0, (takes z false 7).1.getD 6 0⟩, (takes z false 7).2.1)
def dc2 (us : List (ByteArray × Int)) (z : List Int) : Option (Lv × List Int) := if (cntk z false).2.2 = true then none else (Cd.lst dK (cntk z false).1.toNat (cntk z false).2.1).bind fun k => dc3 us k.1 k.2
def dcL (zs : List Int) (f : Bool) : Option (Lv × List Int) := if (cntk zs f).2.2 = true then none else (Cd.lst dU (cntk zs f).1.toNat (cntk zs f).2.1).bind fun u => dc2 u.1 u.2
/-- What the decoder of levels gives: levels in rows of its own, or a failed reader. -/
def DlG (zs : List Int) (f : Bool) (rb : Nat) (w : World) (e : Ending) (w' : World) : Prop :=
 ∃ (L : Lv) (uA : Option Addr) (uC : Nat) (kA : Option Addr) (kC : Nat) (z : List Int) (g : Bool), e = .returned (.agg (lcs L uA uC kA kC).toArray) ∧ Rd w' rb z g ∧ z.length ≤ zs.length ∧ Below rb w w' ∧ Kp rb w w' ∧
  (g = true ∧ dcL zs f = none ∨ g = false ∧ dcL zs f = some (L, z) ∧ w'.ownsRow w.heap.size 73 2 (.slice uA L.us.length uC) L.us.length (flat L.us.length (rowU (fU L.us))) ∧ w'.ownsRow w.heap.size 131 2 (.slice kA L.ks.length kC) L.ks.length (flat L.ks.length (rowK (fK L.ks))))
theorem dl_fail {zs : List Int} {f : Bool} {rb : Nat} {w w' : World} {z : List Int} (h : dcL zs f = none) (hr : Rd w' rb z true) (hz : z.length ≤ zs.length) (hb : Below rb w w') (hk : Kp rb w w') : DlG zs f rb w (.returned (.agg #[.slice none 0 0, .slice none 0 0, .int .i64 0, .int .i64 0, .int .i64 0, .int .i64 0, .int .i64 0, .int .i64 0, .int .i64 0])) w' :=
 ⟨⟨[], [], 0, 0, 0, 0, 0, 0, 0⟩, none, 0, none, 0, z, true, rfl, hr, hz, hb, hk, .inl ⟨rfl, h⟩⟩
def lvg (c1 c2 : Value) (vs : List Int) : List Value := (([c1, c2] : List Value) ++ vs.map (Value.int .i64)) ++ List.replicate (7 - vs.length) (.int .i64 0)
theorem lvg_set (c1 c2 : Value) (vs : List Int) (v : Int) (h : vs.length < 7) : (lvg c1 c2 vs).set (2 + vs.length) (.int .i64 v) = lvg c1 c2 (vs ++ [v]) := by
 unfold lvg
 have e : 7 - vs.length = (7 - (vs ++ [v]).length) + 1 := by rw [List.length_append, List.length_singleton]; omega
 rw [List.set_append_right _ _ (by simp; omega), e, List.replicate_succ]
 rw [show 2 + vs.length - (([c1, c2] : List Value) ++ vs.map (Value.int .i64)).length = 0 by simp; omega]
 simp
theorem lvg_no8 {c1 c2 : Value} (h1 : N8 c1) (h2 : N8 c2) (vs : List Int) : ∀ v ∈ lvg c1 c2 vs, ∀ z, v ≠ .int .u8 z := by
 intro v hv z e
 subst e
 unfold lvg at hv
 simp only [List.mem_append, List.mem_map, List.mem_replicate, List.mem_cons, List.not_mem_nil, or_false] at hv
 rcases hv with ((hv | hv) | ⟨_, _, hv⟩) | ⟨_, hv⟩
 ·exact h1 z hv.symm
 ·exact h2 z hv.symm
 ·cases hv
 ·cases hv
theorem lvg_len (c1 c2 : Value) (vs : List Int) (h : vs.length = 7) : (lvg c1 c2 vs).length = 9 := by
 unfold lvg
 simp [h]
theorem lvg_one {c1 c2 : Value} (h1 : c1.oneCell' = true) (h2 : c2.oneCell' = true) (vs : List Int) : (lvg c1 c2 vs).toArray.all (·.oneCell') = true := by
 rw [List.all_toArray]
 refine List.all_eq_true.2 (fun v hm => ?_)
 unfold lvg at hm
 simp only [List.mem_append, List.mem_map, List.mem_replicate, List.mem_cons, List.not_mem_nil, or_false] at hm
 rcases hm with ((hm | hm) | ⟨z, _, hm⟩) | ⟨_, hm⟩
 ·rw [hm]; exact h1
 ·rw [hm]; exact h2
 ·rw [← hm]; rfl
 ·rw [hm]; rfl
theorem lvg_at (c1 c2 : Value) (vs : List Int) (h : vs.length < 7) : (lvg c1 c2 vs)[2 + vs.length]? = some (.int .i64 0) := by
 unfold lvg
 rw [List.getElem?_append_right (by simp; omega)]
 rw [show 2 + vs.length - (([c1, c2] : List Value) ++ vs.map (Value.int .i64)).length = 0 by simp; omega]
 rw [show 7 - vs.length = (6 - vs.length) + 1 by omega, List.replicate_succ]
 rfl
theorem lvg_all {vs : List Int} (h : vs.length = 7) (c1 c2 : Value) : lvg c1 c2 vs = [c1, c2, .int .i64 (vs.getD 0 0), .int .i64 (vs.getD 1 0), .int .i64 (vs.getD 2 0), .int .i64 (vs.getD 3 0), .int .i64 (vs.getD 4 0), .int .i64 (vs.getD 5 0), .int .i64 (vs.getD 6 0)] := by
 match vs, h with
 | [_, _, _, _, _, _, _], _ => rfl
theorem kp_all (w : World) (t o : Nat) (vs : List Value) : Kp t w (w.setCells t o vs) := ⟨by rw [size_setAll]; exact Nat.le_refl _, fun k hk hn => World.heap_setCells_other w t o vs hk hn⟩
theorem dl_end {zs rs zk vs : List Int} {f f2 fk : Bool} {us : List (ByteArray × Int)} {ks : List (Int × Int)} (hx : dcL zs f = if f2 = true then none else dc3 us ks rs) (ht : takes rs f2 7 = (vs, zk, fk)) :
  fk = true ∧ dcL zs f = none ∨ fk = false ∧ dcL zs f = some (⟨us, ks, vs.getD 0 0, vs.getD 1 0, vs.getD 2 0, vs.getD 3 0, vs.getD 4 0, vs.getD 5 0, vs.getD 6 0⟩, zk) := by
 cases f2 with
 | true =>
  have h := takes_true rs 7
  rw [ht] at h
  exact .inl ⟨h, by rw [hx]; rfl⟩
 | false =>
  rw [hx, if_neg (by decide)]
  unfold dc3
  rw [ht]
  cases fk with
  | true => exact .inl ⟨rfl, rfl⟩
  | false => exact .inr ⟨rfl, rfl⟩
theorem n8_sl (A : Option Addr) (n c : Nat) : N8 (.slice A n c) := fun z h => by cases h
set_option maxHeartbeats 64000000 in
theorem decode71 (rb : Nat) (zs : List Int) (f : Bool) (w : World) (h : Rd w rb zs f) (hl : zs.length ≤ 800000) : Calls Tryz.prog 191 #[.pointer (some ⟨rb, 0, none⟩)] w (DlG zs f rb w) := by
 have HT1 := hid (fun y (hr : Rd y rb zs f) => count131 rb zs f y hr hl)
 have HX := hid (show dcL zs f = if (cntk zs f).2.2 = true then none else (Cd.lst dU (cntk zs f).1.toNat (cntk zs f).2.1).bind fun u => dc2 u.1 u.2 from rfl)
 obtain ⟨n1, zs1, f1, e1, hb1, hc1, hz1, _⟩ := cntk_nat zs f
 rw [e1] at HT1 HX
 dsimp only at HT1 HX
 have hl1 := Nat.le_trans hz1 hl
 have HNX := hid (fun (h0 : Cd.lst dU n1 zs1 = none) => show dcL zs f = none by rw [HX.out, Int.toNat_natCast, h0]; cases f1 <;> rfl)
 clear e1
 have H0 := hid h
 have HR := hid h.lt
 clear h
 have BA := hid ((Below.refl w.heap.size w).alloc (Nat.le_refl _) (.cells #[.slice none 0 0, .slice none 0 0, .int .i64 0, .int .i64 0, .int .i64 0, .int .i64 0, .int .i64 0, .int .i64 0, .int .i64 0] 28))
 have RA := hid (blk_new w [.slice none 0 0, .slice none 0 0, .int .i64 0, .int .i64 0, .int .i64 0, .int .i64 0, .int .i64 0, .int .i64 0, .int .i64 0] 28)
 have R0 := hid (H0.out.below BA.out)
 generalize hW : w.alloc (.cells #[.slice none 0 0, .slice none 0 0, .int .i64 0, .int .i64 0, .int .i64 0, .int .i64 0, .int .i64 0, .int .i64 0, .int .i64 0] 28) = W0 at BA RA R0
 go_enter Tryz.func191, Tryz.ntmps191
 go_upto_region 2 with (first
  | (refine store_as rfl 28 _ _ rfl [.slice none 0 0, .slice none 0 0, .int .i64 0, .int .i64 0, .int .i64 0, .int .i64 0, .int .i64 0, .int .i64 0, .int .i64 0] [.slice none 0 0, .slice none 0 0, .int .i64 0, .int .i64 0, .int .i64 0, .int .i64 0, .int .i64 0, .int .i64 0, .int .i64 0] rfl rfl rfl size27 (by simp [Value.oneCell']) ?_; intro w1 hx hb; have L1 := hid hx; have B1 := hid hb; clear hx hb)
  | (fail))
 obtain ⟨lb, hlb⟩ : ∃ lb, lb = W0.heap.size := ⟨_, rfl⟩
 have HLB := hid hlb
 rw [← hlb] at L1 ⊢
 clear hlb
 have LR := hid (show rb < lb by rw [HLB.out]; exact Nat.lt_of_lt_of_le HR.out BA.out.size)
 have LW := hid (show w.heap.size < lb by rw [HLB.out]; exact RA.out.lt)
 have DA := hid (show DS w rb lb (.slice none 0 0) (.slice none 0 0) (.slice none 0 0) 0 [] (.slice none 0 0) 0 [] zs f w1 from
  ⟨HR.out, LW.out, n8_sl _ _ _, n8_sl _ _ _, R0.out.below B1.out, L1.out, RA.out.below B1.out, World.ownsRow_nil _ _ _ _, trow_none _ _, World.ownsRow_nil _ _ _ _, trow_none _ _, (BA.out.trans (B1.out.mono BA.out.size)).mono (Nat.le_of_lt HR.out), Kp.below (BA.out.trans (B1.out.mono BA.out.size)) rb⟩)
 clear BA RA R0 B1 hW L1 H0 HLB
 go_wp2_with (first
  | (go_at_call 209; (with_reducible refine (HT1.out _ DA.out.rd).mono ?_); rintro e w2 ⟨rfl, hr, hb, hk⟩; have DB := hid (DA.out.take hr hb hk); clear hr hb hk)
  | fail)
 clear DA HT1
 go_loopw [9] (fun s wr => ∃ (k : Nat) (us : List (ByteArray × Int)) (rs : List Int) (A : Option Addr) (c : Nat), k ≤ n1 ∧ s = .int .i64 (k : Int) ∧ Hid (Cd.Prg dU n1 zs1 k us rs) ∧ Hid (DS w rb lb (.slice A us.length c) (.slice none 0 0) (.slice A us.length c) us.length (flat us.length (rowU (fU us))) (.slice none 0 0) 0 [] rs f1 wr)) (fun s _ => n1 - (intOf s).toNat)
 case atStart => exact ⟨0, [], zs1, none, 0, Nat.zero_le _, rfl, hid Cd.prg_zero, DB⟩
 case round =>
  clear DB
  obtain ⟨k, us, rs, A, c, hk, rfl, PG, DD⟩ := hrel
  by_cases hlt : k < n1
  ·have hltz : (k : Int) < (n1 : Int) := by omega
   have hk0 : (0 : Int) ≤ (k : Int) := by omega
   have hf : f1 = false := by
    cases f1 with
    | false => rfl
    | true => exact absurd (hc1 rfl) (by omega)
   subst hf
   have hlr := Nat.le_trans PG.out.rl hl1
   have hl3 := gtkT_len rs false
   generalize hg1 : gtkT rs false = t at hl3
   obtain ⟨s, z1, g1⟩ := t
   dsimp only at hl3
   have hl4 := gtkI_len z1 g1
   generalize hg2 : gtkI z1 g1 = t at hl4
   obtain ⟨p, z2, g2⟩ := t
   dsimp only at hl4
   have hdu := dU_tk hg1 hg2
   have HS := hid (fun y (hr : Rd y rb rs false) => by have := take_str rb rs false y hr hlr; rw [gtk_str, hg1] at this; exact this)
   have HI := hid (fun y (hr : Rd y rb z1 g1) => by have := take_int rb z1 g1 y hr (Nat.le_trans hl3 hlr); rw [gtk_int, hg2] at this; exact this)
   have HLN := hid (show us.length ≤ 800000 by rw [PG.out.sz]; omega)
   clear hg1 hg2
   cases g2 with
   | true =>
    have HNO := hid (HNX.out (Cd.prg_none PG.out hlt (hdu.2 rfl)))
    have HZ2 := hid (show z2.length ≤ zs.length by have := PG.out.rl; omega)
    clear PG hdu HNX
    go_upto_region 4 with (fail)
    refine wp_region_held_drew (S := (fun _ => True)) (by kernel_rfl) (trivial) (fun hH0 => ?_)
    have D0 := hid DD.out.drew
    generalize World.drew wr = y0 at D0 ⊢
    refine mvA 0 (v := ?hv21) rfl ?hy21 ?hr21
    case hy21 => (intro w hSw; (try dsimp only at hSw); go_simp; (try with_reducible rfl))
    try simp only [Act.put, lsA, ls0, ls1]
    refine mvA 2 (v := ?hv22) rfl ?hy22 ?hr22
    case hy22 => (intro w hSw; (try dsimp only at hSw); go_simp; (try with_reducible rfl))
    try simp only [Act.put, lsA, ls0, ls1]
    refine mvA 4 (v := ?hv23) rfl ?hy23 ?hr23
    case hy23 => (intro w hSw; (try dsimp only at hSw); go_simp; (try with_reducible rfl))
    try simp only [Act.put, lsA, ls0, ls1]
    refine mvT [1, 3] ?_
    refine mvD rfl (fun KK hKK => ?_) ?_
    ·have x0 := D0.out.lbk.cell (i := 0) rfl
     go_simp
     have D1 := D0
     clear x0
     refine hKK.out _ _ (trivial) (fun hH1 => ?_)
     clear hKK KK
     try simp only [Act.put, lsA, ls0, ls1]
     refine mvR 3 rfl (fun KK hKK => ?_)
     go_simp
     (with_reducible refine (HS.out _ D1.out.rd).mono ?_)
     rintro e0 y2 ⟨rfl, hr, hb, hk⟩
     have D2 := hid (D1.out.take hr hb hk)
     clear hr hb hk
     refine hKK.out _ _ (trivial) (fun hH2 => ?_)
     clear hKK KK
     try simp only [Act.put, lsA, ls0, ls1]
     refine mvR 5 rfl (fun KK hKK => ?_)
     go_simp
     (with_reducible refine (HI.out _ D2.out.rd).mono ?_)
     rintro e0 y3 ⟨rfl, hr, hb, hk⟩
     have D3 := hid (D2.out.take hr hb hk)
     clear hr hb hk
     refine hKK.out _ _ (trivial) (fun hH3 => ?_)
     clear hKK KK
     try simp only [Act.put, lsA, ls0, ls1]
     refine mvA 6 (v := ?hv24) rfl ?hy24 ?hr24
     case hy24 => (intro w hSw; (try dsimp only at hSw); go_simp; (try with_reducible rfl))
     try simp only [Act.put, lsA, ls0, ls1]
     refine mvR 7 rfl (fun KK hKK => ?_)
     go_simp
     have D4 := hid (D3.out.alloc (.cells #[.string s, .int .i64 p] 73))
     have NW := hid (cell_two_new y3 (.string s) (.int .i64 p) 73)
     generalize y3.heap.size = bn at NW ⊢
     generalize y3.alloc (.cells #[.string s, .int .i64 p] 73) = y4 at D4 NW ⊢
     refine hKK.out _ _ (trivial) (fun hH4 => ?_)
     clear hKK KK
     try simp only [Act.put, lsA, ls0, ls1]
     refine mvR 8 rfl (fun KK hKK => ?_)
     refine step_recU rfl _ _ rfl rfl bn rfl (s, p) NW.out D4.out HLN.out ?_
     intro A2 c2 y5 hd
     obtain ⟨m2, hm2⟩ : ∃ m, (us ++ [(s, p)]).length = m := ⟨_, rfl⟩
     rw [hm2] at hd ⊢
     have HM := hid hm2
     clear hm2
     have D5 := hid hd
     clear hd NW
     refine hKK.out _ _ (trivial) (fun hH5 => ?_)
     clear hKK KK
     try simp only [Act.put, lsA, ls0, ls1]
     refine mvA 9 (v := ?hv25) rfl ?hy25 ?hr25
     case hy25 => (intro w hSw; (try dsimp only at hSw); go_simp; (try with_reducible rfl))
     try simp only [Act.put, lsA, ls0, ls1]
     refine mvR 10 rfl (fun KK hKK => ?_)
     have x0 := D5.out.lbk.cell (i := 0) rfl
     have x1 := D5.out.lbk.free 0
     go_simp
     have D6 := hid (D5.out.store1 (.slice A2 m2 c2) (n8_sl _ _ _))
     clear x0 x1
     generalize World.setCell y5 ⟨lb, 0, none⟩ _ = y6 at D6 ⊢
     refine hKK.out _ _ (trivial) (fun hH6 => ?_)
     clear hKK KK
     try simp only [Act.put, lsA, ls0, ls1]
     refine wpAnyH_done (by kernel_rfl) ?_ _
     obtain ⟨AR, cR, hxr, hsr⟩ := D6.out.rd
     have x1 := hxr.cell (i := 1) rfl
     go_wp2_with (first
      | (refine store_mid_as rfl 28 _ _ rfl w.heap.size 0 (#[.slice none 0 0, .slice none 0 0, .int .i64 0, .int .i64 0, .int .i64 0, .int .i64 0, .int .i64 0, .int .i64 0, .int .i64 0] : Array Value) rfl rfl (Blk.there (n := 9) D6.out.ar (Nat.le_refl 9)) size27 (by simp [Value.oneCell']) ?_; intro wz ez; have EZ := hid ez; clear ez)
      | fail)
     (try simp only [Exit.inBlock, Exit.then])
     refine bodyPost_ret (results_cell_mid rfl _ _ w.heap.size [.slice none 0 0, .slice none 0 0, .int .i64 0, .int .i64 0, .int .i64 0, .int .i64 0, .int .i64 0, .int .i64 0, .int .i64 0] 28 _ rfl (by rw [EZ.out]; exact Blk.setAll D6.out.ar _ rfl) Tryz.underlying28 rfl size27) rfl ?_
     rw [EZ.out]
     exact dl_fail HNO.out (D6.out.rd.set_all D6.out.ar (Nat.ne_of_lt HR.out) (lvk_no8 []) _ _) HZ2.out (below_setAll (Nat.le_of_lt HR.out) _ _ _ D6.out.bel) (D6.out.kp.new_all (Nat.le_refl _) _ _)
    refine mvD rfl (fun KK hKK => ?_) AllReadyH.nil
    go_simp
    (with_reducible refine (HS.out _ D0.out.rd).mono ?_)
    rintro e0 y1 ⟨rfl, hr, hb, hk⟩
    have D1 := hid (D0.out.take hr hb hk)
    clear hr hb hk
    refine hKK.out _ _ (trivial) (fun hH1 => ?_)
    clear hKK KK
    try simp only [Act.put, lsA, ls0, ls1]
    refine mvT [1, 5] ?_
    refine mvD rfl (fun KK hKK => ?_) ?_
    ·have x0 := D1.out.lbk.cell (i := 0) rfl
     go_simp
     have D2 := D1
     clear x0
     refine hKK.out _ _ (trivial) (fun hH2 => ?_)
     clear hKK KK
     try simp only [Act.put, lsA, ls0, ls1]
     refine mvR 5 rfl (fun KK hKK => ?_)
     go_simp
     (with_reducible refine (HI.out _ D2.out.rd).mono ?_)
     rintro e0 y3 ⟨rfl, hr, hb, hk⟩
     have D3 := hid (D2.out.take hr hb hk)
     clear hr hb hk
     refine hKK.out _ _ (trivial) (fun hH3 => ?_)
     clear hKK KK
     try simp only [Act.put, lsA, ls0, ls1]
     refine mvA 6 (v := ?hv26) rfl ?hy26 ?hr26
     case hy26 => (intro w hSw; (try dsimp only at hSw); go_simp; (try with_reducible rfl))
     try simp only [Act.put, lsA, ls0, ls1]
     refine mvR 7 rfl (fun KK hKK => ?_)
     go_simp
     have D4 := hid (D3.out.alloc (.cells #[.string s, .int .i64 p] 73))
     have NW := hid (cell_two_new y3 (.string s) (.int .i64 p) 73)
     generalize y3.heap.size = bn at NW ⊢
     generalize y3.alloc (.cells #[.string s, .int .i64 p] 73) = y4 at D4 NW ⊢
     refine hKK.out _ _ (trivial) (fun hH4 => ?_)
     clear hKK KK
     try simp only [Act.put, lsA, ls0, ls1]
     refine mvR 8 rfl (fun KK hKK => ?_)
     refine step_recU rfl _ _ rfl rfl bn rfl (s, p) NW.out D4.out HLN.out ?_
     intro A2 c2 y5 hd
     obtain ⟨m2, hm2⟩ : ∃ m, (us ++ [(s, p)]).length = m := ⟨_, rfl⟩
     rw [hm2] at hd ⊢
     have HM := hid hm2
     clear hm2
     have D5 := hid hd
     clear hd NW
     refine hKK.out _ _ (trivial) (fun hH5 => ?_)
     clear hKK KK
     try simp only [Act.put, lsA, ls0, ls1]
     refine mvA 9 (v := ?hv27) rfl ?hy27 ?hr27
     case hy27 => (intro w hSw; (try dsimp only at hSw); go_simp; (try with_reducible rfl))
     try simp only [Act.put, lsA, ls0, ls1]
     refine mvR 10 rfl (fun KK hKK => ?_)
     have x0 := D5.out.lbk.cell (i := 0) rfl
     have x1 := D5.out.lbk.free 0
     go_simp
     have D6 := hid (D5.out.store1 (.slice A2 m2 c2) (n8_sl _ _ _))
     clear x0 x1
     generalize World.setCell y5 ⟨lb, 0, none⟩ _ = y6 at D6 ⊢
     refine hKK.out _ _ (trivial) (fun hH6 => ?_)
     clear hKK KK
     try simp only [Act.put, lsA, ls0, ls1]
     refine wpAnyH_done (by kernel_rfl) ?_ _
     obtain ⟨AR, cR, hxr, hsr⟩ := D6.out.rd
     have x1 := hxr.cell (i := 1) rfl
     go_wp2_with (first
      | (refine store_mid_as rfl 28 _ _ rfl w.heap.size 0 (#[.slice none 0 0, .slice none 0 0, .int .i64 0, .int .i64 0, .int .i64 0, .int .i64 0, .int .i64 0, .int .i64 0, .int .i64 0] : Array Value) rfl rfl (Blk.there (n := 9) D6.out.ar (Nat.le_refl 9)) size27 (by simp [Value.oneCell']) ?_; intro wz ez; have EZ := hid ez; clear ez)
      | fail)
     (try simp only [Exit.inBlock, Exit.then])
     refine bodyPost_ret (results_cell_mid rfl _ _ w.heap.size [.slice none 0 0, .slice none 0 0, .int .i64 0, .int .i64 0, .int .i64 0, .int .i64 0, .int .i64 0, .int .i64 0, .int .i64 0] 28 _ rfl (by rw [EZ.out]; exact Blk.setAll D6.out.ar _ rfl) Tryz.underlying28 rfl size27) rfl ?_
     rw [EZ.out]
     exact dl_fail HNO.out (D6.out.rd.set_all D6.out.ar (Nat.ne_of_lt HR.out) (lvk_no8 []) _ _) HZ2.out (below_setAll (Nat.le_of_lt HR.out) _ _ _ D6.out.bel) (D6.out.kp.new_all (Nat.le_refl _) _ _)
    refine mvD rfl (fun KK hKK => ?_) AllReadyH.nil
    go_simp
    (with_reducible refine (HI.out _ D1.out.rd).mono ?_)
    rintro e0 y2 ⟨rfl, hr, hb, hk⟩
    have D2 := hid (D1.out.take hr hb hk)
    clear hr hb hk
    refine hKK.out _ _ (trivial) (fun hH2 => ?_)
    clear hKK KK
    try simp only [Act.put, lsA, ls0, ls1]
    refine mvA 6 (v := ?hv28) rfl ?hy28 ?hr28
    case hy28 => (intro w hSw; (try dsimp only at hSw); go_simp; (try with_reducible rfl))
    try simp only [Act.put, lsA, ls0, ls1]
    refine mvT [1, 7] ?_
    refine mvD rfl (fun KK hKK => ?_) ?_
    ·have x0 := D2.out.lbk.cell (i := 0) rfl
     go_simp
     have D3 := D2
     clear x0
     refine hKK.out _ _ (trivial) (fun hH3 => ?_)
     clear hKK KK
     try simp only [Act.put, lsA, ls0, ls1]
     refine mvR 7 rfl (fun KK hKK => ?_)
     go_simp
     have D4 := hid (D3.out.alloc (.cells #[.string s, .int .i64 p] 73))
     have NW := hid (cell_two_new y2 (.string s) (.int .i64 p) 73)
     generalize y2.heap.size = bn at NW ⊢
     generalize y2.alloc (.cells #[.string s, .int .i64 p] 73) = y4 at D4 NW ⊢
     refine hKK.out _ _ (trivial) (fun hH4 => ?_)
     clear hKK KK
     try simp only [Act.put, lsA, ls0, ls1]
     refine mvR 8 rfl (fun KK hKK => ?_)
     refine step_recU rfl _ _ rfl rfl bn rfl (s, p) NW.out D4.out HLN.out ?_
     intro A2 c2 y5 hd
     obtain ⟨m2, hm2⟩ : ∃ m, (us ++ [(s, p)]).length = m := ⟨_, rfl⟩
     rw [hm2] at hd ⊢
     have HM := hid hm2
     clear hm2
     have D5 := hid hd
     clear hd NW
     refine hKK.out _ _ (trivial) (fun hH5 => ?_)
     clear hKK KK
     try simp only [Act.put, lsA, ls0, ls1]
     refine mvA 9 (v := ?hv29) rfl ?hy29 ?hr29
     case hy29 => (intro w hSw; (try dsimp only at hSw); go_simp; (try with_reducible rfl))
     try simp only [Act.put, lsA, ls0, ls1]
     refine mvR 10 rfl (fun KK hKK => ?_)
     have x0 := D5.out.lbk.cell (i := 0) rfl
     have x1 := D5.out.lbk.free 0
     go_simp
     have D6 := hid (D5.out.store1 (.slice A2 m2 c2) (n8_sl _ _ _))
     clear x0 x1
     generalize World.setCell y5 ⟨lb, 0, none⟩ _ = y6 at D6 ⊢
     refine hKK.out _ _ (trivial) (fun hH6 => ?_)
     clear hKK KK
     try simp only [Act.put, lsA, ls0, ls1]
     refine wpAnyH_done (by kernel_rfl) ?_ _
     obtain ⟨AR, cR, hxr, hsr⟩ := D6.out.rd
     have x1 := hxr.cell (i := 1) rfl
     go_wp2_with (first
      | (refine store_mid_as rfl 28 _ _ rfl w.heap.size 0 (#[.slice none 0 0, .slice none 0 0, .int .i64 0, .int .i64 0, .int .i64 0, .int .i64 0, .int .i64 0, .int .i64 0, .int .i64 0] : Array Value) rfl rfl (Blk.there (n := 9) D6.out.ar (Nat.le_refl 9)) size27 (by simp [Value.oneCell']) ?_; intro wz ez; have EZ := hid ez; clear ez)
      | fail)
     (try simp only [Exit.inBlock, Exit.then])
     refine bodyPost_ret (results_cell_mid rfl _ _ w.heap.size [.slice none 0 0, .slice none 0 0, .int .i64 0, .int .i64 0, .int .i64 0, .int .i64 0, .int .i64 0, .int .i64 0, .int .i64 0] 28 _ rfl (by rw [EZ.out]; exact Blk.setAll D6.out.ar _ rfl) Tryz.underlying28 rfl size27) rfl ?_
     rw [EZ.out]
     exact dl_fail HNO.out (D6.out.rd.set_all D6.out.ar (Nat.ne_of_lt HR.out) (lvk_no8 []) _ _) HZ2.out (below_setAll (Nat.le_of_lt HR.out) _ _ _ D6.out.bel) (D6.out.kp.new_all (Nat.le_refl _) _ _)
    refine mvD rfl (fun KK hKK => ?_) AllReadyH.nil
    go_simp
    have D3 := hid (D2.out.alloc (.cells #[.string s, .int .i64 p] 73))
    have NW := hid (cell_two_new y2 (.string s) (.int .i64 p) 73)
    generalize y2.heap.size = bn at NW ⊢
    generalize y2.alloc (.cells #[.string s, .int .i64 p] 73) = y3 at D3 NW ⊢
    refine hKK.out _ _ (trivial) (fun hH3 => ?_)
    clear hKK KK
    try simp only [Act.put, lsA, ls0, ls1]
    refine mvR 1 rfl (fun KK hKK => ?_)
    have x0 := D3.out.lbk.cell (i := 0) rfl
    go_simp
    have D4 := D3
    clear x0
    refine hKK.out _ _ (trivial) (fun hH4 => ?_)
    clear hKK KK
    try simp only [Act.put, lsA, ls0, ls1]
    refine mvR 8 rfl (fun KK hKK => ?_)
    refine step_recU rfl _ _ rfl rfl bn rfl (s, p) NW.out D4.out HLN.out ?_
    intro A2 c2 y5 hd
    obtain ⟨m2, hm2⟩ : ∃ m, (us ++ [(s, p)]).length = m := ⟨_, rfl⟩
    rw [hm2] at hd ⊢
    have HM := hid hm2
    clear hm2
    have D5 := hid hd
    clear hd NW
    refine hKK.out _ _ (trivial) (fun hH5 => ?_)
    clear hKK KK
    try simp only [Act.put, lsA, ls0, ls1]
    refine mvA 9 (v := ?hv30) rfl ?hy30 ?hr30
    case hy30 => (intro w hSw; (try dsimp only at hSw); go_simp; (try with_reducible rfl))
    try simp only [Act.put, lsA, ls0, ls1]
    refine mvR 10 rfl (fun KK hKK => ?_)
    have x0 := D5.out.lbk.cell (i := 0) rfl
    have x1 := D5.out.lbk.free 0
    go_simp
    have D6 := hid (D5.out.store1 (.slice A2 m2 c2) (n8_sl _ _ _))
    clear x0 x1
    generalize World.setCell y5 ⟨lb, 0, none⟩ _ = y6 at D6 ⊢
    refine hKK.out _ _ (trivial) (fun hH6 => ?_)
    clear hKK KK
    try simp only [Act.put, lsA, ls0, ls1]
    refine wpAnyH_done (by kernel_rfl) ?_ _
    obtain ⟨AR, cR, hxr, hsr⟩ := D6.out.rd
    have x1 := hxr.cell (i := 1) rfl
    go_wp2_with (first
     | (refine store_mid_as rfl 28 _ _ rfl w.heap.size 0 (#[.slice none 0 0, .slice none 0 0, .int .i64 0, .int .i64 0, .int .i64 0, .int .i64 0, .int .i64 0, .int .i64 0, .int .i64 0] : Array Value) rfl rfl (Blk.there (n := 9) D6.out.ar (Nat.le_refl 9)) size27 (by simp [Value.oneCell']) ?_; intro wz ez; have EZ := hid ez; clear ez)
     | fail)
    (try simp only [Exit.inBlock, Exit.then])
    refine bodyPost_ret (results_cell_mid rfl _ _ w.heap.size [.slice none 0 0, .slice none 0 0, .int .i64 0, .int .i64 0, .int .i64 0, .int .i64 0, .int .i64 0, .int .i64 0, .int .i64 0] 28 _ rfl (by rw [EZ.out]; exact Blk.setAll D6.out.ar _ rfl) Tryz.underlying28 rfl size27) rfl ?_
    rw [EZ.out]
    exact dl_fail HNO.out (D6.out.rd.set_all D6.out.ar (Nat.ne_of_lt HR.out) (lvk_no8 []) _ _) HZ2.out (below_setAll (Nat.le_of_lt HR.out) _ _ _ D6.out.bel) (D6.out.kp.new_all (Nat.le_refl _) _ _)
   | false =>
    have PN := hid (Cd.prg_some PG.out hlt (hdu.1 rfl) (Nat.le_trans hl4 hl3))
    clear PG hdu HNX
    go_upto_region 4 with (fail)
    refine wp_region_held_drew (S := (fun _ => True)) (by kernel_rfl) (trivial) (fun hH0 => ?_)
    have D0 := hid DD.out.drew
    generalize World.drew wr = y0 at D0 ⊢
    refine mvA 0 (v := ?hv31) rfl ?hy31 ?hr31
    case hy31 => (intro w hSw; (try dsimp only at hSw); go_simp; (try with_reducible rfl))
    try simp only [Act.put, lsA, ls0, ls1]
    refine mvA 2 (v := ?hv32) rfl ?hy32 ?hr32
    case hy32 => (intro w hSw; (try dsimp only at hSw); go_simp; (try with_reducible rfl))
    try simp only [Act.put, lsA, ls0, ls1]
    refine mvA 4 (v := ?hv33) rfl ?hy33 ?hr33
    case hy33 => (intro w hSw; (try dsimp only at hSw); go_simp; (try with_reducible rfl))
    try simp only [Act.put, lsA, ls0, ls1]
    refine mvT [1, 3] ?_
    refine mvD rfl (fun KK hKK => ?_) ?_
    ·have x0 := D0.out.lbk.cell (i := 0) rfl
     go_simp
     have D1 := D0
     clear x0
     refine hKK.out _ _ (trivial) (fun hH1 => ?_)
     clear hKK KK
     try simp only [Act.put, lsA, ls0, ls1]
     refine mvR 3 rfl (fun KK hKK => ?_)
     go_simp
     (with_reducible refine (HS.out _ D1.out.rd).mono ?_)
     rintro e0 y2 ⟨rfl, hr, hb, hk⟩
     have D2 := hid (D1.out.take hr hb hk)
     clear hr hb hk
     refine hKK.out _ _ (trivial) (fun hH2 => ?_)
     clear hKK KK
     try simp only [Act.put, lsA, ls0, ls1]
     refine mvR 5 rfl (fun KK hKK => ?_)
     go_simp
     (with_reducible refine (HI.out _ D2.out.rd).mono ?_)
     rintro e0 y3 ⟨rfl, hr, hb, hk⟩
     have D3 := hid (D2.out.take hr hb hk)
     clear hr hb hk
     refine hKK.out _ _ (trivial) (fun hH3 => ?_)
     clear hKK KK
     try simp only [Act.put, lsA, ls0, ls1]
     refine mvA 6 (v := ?hv34) rfl ?hy34 ?hr34
     case hy34 => (intro w hSw; (try dsimp only at hSw); go_simp; (try with_reducible rfl))
     try simp only [Act.put, lsA, ls0, ls1]
     refine mvR 7 rfl (fun KK hKK => ?_)
     go_simp
     have D4 := hid (D3.out.alloc (.cells #[.string s, .int .i64 p] 73))
     have NW := hid (cell_two_new y3 (.string s) (.int .i64 p) 73)
     generalize y3.heap.size = bn at NW ⊢
     generalize y3.alloc (.cells #[.string s, .int .i64 p] 73) = y4 at D4 NW ⊢
     refine hKK.out _ _ (trivial) (fun hH4 => ?_)
     clear hKK KK
     try simp only [Act.put, lsA, ls0, ls1]
     refine mvR 8 rfl (fun KK hKK => ?_)
     refine step_recU rfl _ _ rfl rfl bn rfl (s, p) NW.out D4.out HLN.out ?_
     intro A2 c2 y5 hd
     obtain ⟨m2, hm2⟩ : ∃ m, (us ++ [(s, p)]).length = m := ⟨_, rfl⟩
     rw [hm2] at hd ⊢
     have HM := hid hm2
     clear hm2
     have D5 := hid hd
     clear hd NW
     refine hKK.out _ _ (trivial) (fun hH5 => ?_)
     clear hKK KK
     try simp only [Act.put, lsA, ls0, ls1]
     refine mvA 9 (v := ?hv35) rfl ?hy35 ?hr35
     case hy35 => (intro w hSw; (try dsimp only at hSw); go_simp; (try with_reducible rfl))
     try simp only [Act.put, lsA, ls0, ls1]
     refine mvR 10 rfl (fun KK hKK => ?_)
     have x0 := D5.out.lbk.cell (i := 0) rfl
     have x1 := D5.out.lbk.free 0
     go_simp
     have D6 := hid (D5.out.store1 (.slice A2 m2 c2) (n8_sl _ _ _))
     clear x0 x1
     generalize World.setCell y5 ⟨lb, 0, none⟩ _ = y6 at D6 ⊢
     refine hKK.out _ _ (trivial) (fun hH6 => ?_)
     clear hKK KK
     try simp only [Act.put, lsA, ls0, ls1]
     refine wpAnyH_done (by kernel_rfl) ?_ _
     obtain ⟨AR, cR, hxr, hsr⟩ := D6.out.rd
     have x1 := hxr.cell (i := 1) rfl
     go_wp2
     go_roundw
     case rel => exact ⟨k + 1, us ++ [(s, p)], z2, A2, c2, by omega, by go_num, PN, hid (by rw [HM.out]; exact D6.out)⟩
     case measure => simp [intOf]; omega
    refine mvD rfl (fun KK hKK => ?_) AllReadyH.nil
    go_simp
    (with_reducible refine (HS.out _ D0.out.rd).mono ?_)
    rintro e0 y1 ⟨rfl, hr, hb, hk⟩
    have D1 := hid (D0.out.take hr hb hk)
    clear hr hb hk
    refine hKK.out _ _ (trivial) (fun hH1 => ?_)
    clear hKK KK
    try simp only [Act.put, lsA, ls0, ls1]
    refine mvT [1, 5] ?_
    refine mvD rfl (fun KK hKK => ?_) ?_
    ·have x0 := D1.out.lbk.cell (i := 0) rfl
     go_simp
     have D2 := D1
     clear x0
     refine hKK.out _ _ (trivial) (fun hH2 => ?_)
     clear hKK KK
     try simp only [Act.put, lsA, ls0, ls1]
     refine mvR 5 rfl (fun KK hKK => ?_)
     go_simp
     (with_reducible refine (HI.out _ D2.out.rd).mono ?_)
     rintro e0 y3 ⟨rfl, hr, hb, hk⟩
     have D3 := hid (D2.out.take hr hb hk)
     clear hr hb hk
     refine hKK.out _ _ (trivial) (fun hH3 => ?_)
     clear hKK KK
     try simp only [Act.put, lsA, ls0, ls1]
     refine mvA 6 (v := ?hv36) rfl ?hy36 ?hr36
     case hy36 => (intro w hSw; (try dsimp only at hSw); go_simp; (try with_reducible rfl))
     try simp only [Act.put, lsA, ls0, ls1]
     refine mvR 7 rfl (fun KK hKK => ?_)
     go_simp
     have D4 := hid (D3.out.alloc (.cells #[.string s, .int .i64 p] 73))
     have NW := hid (cell_two_new y3 (.string s) (.int .i64 p) 73)
     generalize y3.heap.size = bn at NW ⊢
     generalize y3.alloc (.cells #[.string s, .int .i64 p] 73) = y4 at D4 NW ⊢
     refine hKK.out _ _ (trivial) (fun hH4 => ?_)
     clear hKK KK
     try simp only [Act.put, lsA, ls0, ls1]
     refine mvR 8 rfl (fun KK hKK => ?_)
     refine step_recU rfl _ _ rfl rfl bn rfl (s, p) NW.out D4.out HLN.out ?_
     intro A2 c2 y5 hd
     obtain ⟨m2, hm2⟩ : ∃ m, (us ++ [(s, p)]).length = m := ⟨_, rfl⟩
     rw [hm2] at hd ⊢
     have HM := hid hm2
     clear hm2
     have D5 := hid hd
     clear hd NW
     refine hKK.out _ _ (trivial) (fun hH5 => ?_)
     clear hKK KK
     try simp only [Act.put, lsA, ls0, ls1]
     refine mvA 9 (v := ?hv37) rfl ?hy37 ?hr37
     case hy37 => (intro w hSw; (try dsimp only at hSw); go_simp; (try with_reducible rfl))
     try simp only [Act.put, lsA, ls0, ls1]
     refine mvR 10 rfl (fun KK hKK => ?_)
     have x0 := D5.out.lbk.cell (i := 0) rfl
     have x1 := D5.out.lbk.free 0
     go_simp
     have D6 := hid (D5.out.store1 (.slice A2 m2 c2) (n8_sl _ _ _))
     clear x0 x1
     generalize World.setCell y5 ⟨lb, 0, none⟩ _ = y6 at D6 ⊢
     refine hKK.out _ _ (trivial) (fun hH6 => ?_)
     clear hKK KK
     try simp only [Act.put, lsA, ls0, ls1]
     refine wpAnyH_done (by kernel_rfl) ?_ _
     obtain ⟨AR, cR, hxr, hsr⟩ := D6.out.rd
     have x1 := hxr.cell (i := 1) rfl
     go_wp2
     go_roundw
     case rel => exact ⟨k + 1, us ++ [(s, p)], z2, A2, c2, by omega, by go_num, PN, hid (by rw [HM.out]; exact D6.out)⟩
     case measure => simp [intOf]; omega
    refine mvD rfl (fun KK hKK => ?_) AllReadyH.nil
    go_simp
    (with_reducible refine (HI.out _ D1.out.rd).mono ?_)
    rintro e0 y2 ⟨rfl, hr, hb, hk⟩
    have D2 := hid (D1.out.take hr hb hk)
    clear hr hb hk
    refine hKK.out _ _ (trivial) (fun hH2 => ?_)
    clear hKK KK
    try simp only [Act.put, lsA, ls0, ls1]
    refine mvA 6 (v := ?hv38) rfl ?hy38 ?hr38
    case hy38 => (intro w hSw; (try dsimp only at hSw); go_simp; (try with_reducible rfl))
    try simp only [Act.put, lsA, ls0, ls1]
    refine mvT [1, 7] ?_
    refine mvD rfl (fun KK hKK => ?_) ?_
    ·have x0 := D2.out.lbk.cell (i := 0) rfl
     go_simp
     have D3 := D2
     clear x0
     refine hKK.out _ _ (trivial) (fun hH3 => ?_)
     clear hKK KK
     try simp only [Act.put, lsA, ls0, ls1]
     refine mvR 7 rfl (fun KK hKK => ?_)
     go_simp
     have D4 := hid (D3.out.alloc (.cells #[.string s, .int .i64 p] 73))
     have NW := hid (cell_two_new y2 (.string s) (.int .i64 p) 73)
     generalize y2.heap.size = bn at NW ⊢
     generalize y2.alloc (.cells #[.string s, .int .i64 p] 73) = y4 at D4 NW ⊢
     refine hKK.out _ _ (trivial) (fun hH4 => ?_)
     clear hKK KK
     try simp only [Act.put, lsA, ls0, ls1]
     refine mvR 8 rfl (fun KK hKK => ?_)
     refine step_recU rfl _ _ rfl rfl bn rfl (s, p) NW.out D4.out HLN.out ?_
     intro A2 c2 y5 hd
     obtain ⟨m2, hm2⟩ : ∃ m, (us ++ [(s, p)]).length = m := ⟨_, rfl⟩
     rw [hm2] at hd ⊢
     have HM := hid hm2
     clear hm2
     have D5 := hid hd
     clear hd NW
     refine hKK.out _ _ (trivial) (fun hH5 => ?_)
     clear hKK KK
     try simp only [Act.put, lsA, ls0, ls1]
     refine mvA 9 (v := ?hv39) rfl ?hy39 ?hr39
     case hy39 => (intro w hSw; (try dsimp only at hSw); go_simp; (try with_reducible rfl))
     try simp only [Act.put, lsA, ls0, ls1]
     refine mvR 10 rfl (fun KK hKK => ?_)
     have x0 := D5.out.lbk.cell (i := 0) rfl
     have x1 := D5.out.lbk.free 0
     go_simp
     have D6 := hid (D5.out.store1 (.slice A2 m2 c2) (n8_sl _ _ _))
     clear x0 x1
     generalize World.setCell y5 ⟨lb, 0, none⟩ _ = y6 at D6 ⊢
     refine hKK.out _ _ (trivial) (fun hH6 => ?_)
     clear hKK KK
     try simp only [Act.put, lsA, ls0, ls1]
     refine wpAnyH_done (by kernel_rfl) ?_ _
     obtain ⟨AR, cR, hxr, hsr⟩ := D6.out.rd
     have x1 := hxr.cell (i := 1) rfl
     go_wp2
     go_roundw
     case rel => exact ⟨k + 1, us ++ [(s, p)], z2, A2, c2, by omega, by go_num, PN, hid (by rw [HM.out]; exact D6.out)⟩
     case measure => simp [intOf]; omega
    refine mvD rfl (fun KK hKK => ?_) AllReadyH.nil
    go_simp
    have D3 := hid (D2.out.alloc (.cells #[.string s, .int .i64 p] 73))
    have NW := hid (cell_two_new y2 (.string s) (.int .i64 p) 73)
    generalize y2.heap.size = bn at NW ⊢
    generalize y2.alloc (.cells #[.string s, .int .i64 p] 73) = y3 at D3 NW ⊢
    refine hKK.out _ _ (trivial) (fun hH3 => ?_)
    clear hKK KK
    try simp only [Act.put, lsA, ls0, ls1]
    refine mvR 1 rfl (fun KK hKK => ?_)
    have x0 := D3.out.lbk.cell (i := 0) rfl
    go_simp
    have D4 := D3
    clear x0
    refine hKK.out _ _ (trivial) (fun hH4 => ?_)
    clear hKK KK
    try simp only [Act.put, lsA, ls0, ls1]
    refine mvR 8 rfl (fun KK hKK => ?_)
    refine step_recU rfl _ _ rfl rfl bn rfl (s, p) NW.out D4.out HLN.out ?_
    intro A2 c2 y5 hd
    obtain ⟨m2, hm2⟩ : ∃ m, (us ++ [(s, p)]).length = m := ⟨_, rfl⟩
    rw [hm2] at hd ⊢
    have HM := hid hm2
    clear hm2
    have D5 := hid hd
    clear hd NW
    refine hKK.out _ _ (trivial) (fun hH5 => ?_)
    clear hKK KK
    try simp only [Act.put, lsA, ls0, ls1]
    refine mvA 9 (v := ?hv40) rfl ?hy40 ?hr40
    case hy40 => (intro w hSw; (try dsimp only at hSw); go_simp; (try with_reducible rfl))
    try simp only [Act.put, lsA, ls0, ls1]
    refine mvR 10 rfl (fun KK hKK => ?_)
    have x0 := D5.out.lbk.cell (i := 0) rfl
    have x1 := D5.out.lbk.free 0
    go_simp
    have D6 := hid (D5.out.store1 (.slice A2 m2 c2) (n8_sl _ _ _))
    clear x0 x1
    generalize World.setCell y5 ⟨lb, 0, none⟩ _ = y6 at D6 ⊢
    refine hKK.out _ _ (trivial) (fun hH6 => ?_)
    clear hKK KK
    try simp only [Act.put, lsA, ls0, ls1]
    refine wpAnyH_done (by kernel_rfl) ?_ _
    obtain ⟨AR, cR, hxr, hsr⟩ := D6.out.rd
    have x1 := hxr.cell (i := 1) rfl
    go_wp2
    go_roundw
    case rel => exact ⟨k + 1, us ++ [(s, p)], z2, A2, c2, by omega, by go_num, PN, hid (by rw [HM.out]; exact D6.out)⟩
    case measure => simp [intOf]; omega
  ·have hltz : ¬ (k : Int) < (n1 : Int) := by omega
   obtain rfl : k = n1 := by omega
   have HE := hid (Cd.prg_end PG.out)
   have hrl := PG.out.rl
   clear PG hk
   have HX2 := hid (show dcL zs f = (if f1 = true then none else dc2 us rs) by rw [HX.out, Int.toNat_natCast, HE.out]; rfl)
   clear HE HX HNX
   obtain ⟨n2, zs2, f2, e2, hb2, hc2, hz2, hff⟩ := cntk_nat rs f1
   have HT2 := hid (fun y (hr : Rd y rb rs f1) => count131 rb rs f1 y hr (Nat.le_trans hrl hl1))
   have HX3 := hid (show dcL zs f = if f2 = true then none else (Cd.lst dK n2 zs2).bind fun k => dc3 us k.1 k.2 by
    rw [HX2.out]
    cases f1 with
    | true => rw [if_pos rfl, if_pos (hff rfl)]
    | false =>
     rw [if_neg (by decide)]
     unfold dc2
     rw [e2]
     simp only [Int.toNat_natCast])
   rw [e2] at HT2
   dsimp only at HT2
   have hl2 : zs2.length ≤ 800000 := Nat.le_trans hz2 (Nat.le_trans hrl hl1)
   have hlz2 : zs2.length ≤ zs.length := Nat.le_trans hz2 (Nat.le_trans hrl hz1)
   have HNX := hid (fun (h0 : Cd.lst dK n2 zs2 = none) => show dcL zs f = none by rw [HX3.out, h0]; cases f2 <;> rfl)
   clear e2 HX2
   go_wp2_with (first
    | (go_at_call 209; (with_reducible refine (HT2.out _ DD.out.rd).mono ?_); rintro e w3 ⟨rfl, hr, hb, hk⟩; have DE := hid (DD.out.take hr hb hk); clear hr hb hk)
    | fail)
   clear DD HT2
   go_loopw [29] (fun s wr => ∃ (k : Nat) (ks : List (Int × Int)) (rs2 : List Int) (AQ : Option Addr) (cQ : Nat), k ≤ n2 ∧ s = .int .i64 (k : Int) ∧ Hid (Cd.Prg dK n2 zs2 k ks rs2) ∧ Hid (DS w rb lb (.slice A us.length c) (.slice AQ ks.length cQ) (.slice A us.length c) us.length (flat us.length (rowU (fU us))) (.slice AQ ks.length cQ) ks.length (flat ks.length (rowK (fK ks))) rs2 f2 wr)) (fun s _ => n2 - (intOf s).toNat)
   case atStart => exact ⟨0, [], zs2, none, 0, Nat.zero_le _, rfl, hid Cd.prg_zero, DE⟩
   case round =>
    clear DE
    obtain ⟨k, ks, rs, AQ, cQ, hk, rfl, PG, DD⟩ := hrel
    by_cases hlt : k < n2
    ·have hltz : (k : Int) < (n2 : Int) := by omega
     have hk0 : (0 : Int) ≤ (k : Int) := by omega
     have hf : f2 = false := by
      cases f2 with
      | false => rfl
      | true => exact absurd (hc2 rfl) (by omega)
     subst hf
     have hlr := Nat.le_trans PG.out.rl hl2
     have hl3 := gtkI_len rs false
     generalize hg1 : gtkI rs false = t at hl3
     obtain ⟨s, z1, g1⟩ := t
     dsimp only at hl3
     have hl4 := gtkI_len z1 g1
     generalize hg2 : gtkI z1 g1 = t at hl4
     obtain ⟨p, z2, g2⟩ := t
     dsimp only at hl4
     have hdu := dK_tk hg1 hg2
     have HS := hid (fun y (hr : Rd y rb rs false) => by have := take_int rb rs false y hr hlr; rw [gtk_int, hg1] at this; exact this)
     have HI := hid (fun y (hr : Rd y rb z1 g1) => by have := take_int rb z1 g1 y hr (Nat.le_trans hl3 hlr); rw [gtk_int, hg2] at this; exact this)
     have HLN := hid (show ks.length ≤ 800000 by rw [PG.out.sz]; omega)
     clear hg1 hg2
     cases g2 with
     | true =>
      have HNO := hid (HNX.out (Cd.prg_none PG.out hlt (hdu.2 rfl)))
      have HZ2 := hid (show z2.length ≤ zs.length by have := PG.out.rl; omega)
      clear PG hdu HNX
      go_upto_region 10 with (fail)
      refine wp_region_held_drew (S := (fun _ => True)) (by kernel_rfl) (trivial) (fun hH0 => ?_)
      have D0 := hid DD.out.drew
      generalize World.drew wr = y0 at D0 ⊢
      refine mvA 0 (v := ?hv1) rfl ?hy1 ?hr1
      case hy1 => (intro w hSw; (try dsimp only at hSw); go_simp; (try with_reducible rfl))
      try simp only [Act.put, lsA, ls0, ls1]
      refine mvA 2 (v := ?hv2) rfl ?hy2 ?hr2
      case hy2 => (intro w hSw; (try dsimp only at hSw); go_simp; (try with_reducible rfl))
      try simp only [Act.put, lsA, ls0, ls1]
      refine mvA 4 (v := ?hv3) rfl ?hy3 ?hr3
      case hy3 => (intro w hSw; (try dsimp only at hSw); go_simp; (try with_reducible rfl))
      try simp only [Act.put, lsA, ls0, ls1]
      refine mvT [1, 3] ?_
      refine mvD rfl (fun KK hKK => ?_) ?_
      ·have x0 := D0.out.lbk.cell (i := 1) rfl
       go_simp
       have D1 := D0
       clear x0
       refine hKK.out _ _ (trivial) (fun hH1 => ?_)
       clear hKK KK
       try simp only [Act.put, lsA, ls0, ls1]
       refine mvR 3 rfl (fun KK hKK => ?_)
       go_simp
       (with_reducible refine (HS.out _ D1.out.rd).mono ?_)
       rintro e0 y2 ⟨rfl, hr, hb, hk⟩
       have D2 := hid (D1.out.take hr hb hk)
       clear hr hb hk
       refine hKK.out _ _ (trivial) (fun hH2 => ?_)
       clear hKK KK
       try simp only [Act.put, lsA, ls0, ls1]
       refine mvR 5 rfl (fun KK hKK => ?_)
       go_simp
       (with_reducible refine (HI.out _ D2.out.rd).mono ?_)
       rintro e0 y3 ⟨rfl, hr, hb, hk⟩
       have D3 := hid (D2.out.take hr hb hk)
       clear hr hb hk
       refine hKK.out _ _ (trivial) (fun hH3 => ?_)
       clear hKK KK
       try simp only [Act.put, lsA, ls0, ls1]
       refine mvA 6 (v := ?hv4) rfl ?hy4 ?hr4
       case hy4 => (intro w hSw; (try dsimp only at hSw); go_simp; (try with_reducible rfl))
       try simp only [Act.put, lsA, ls0, ls1]
       refine mvR 7 rfl (fun KK hKK => ?_)
       go_simp
       have D4 := hid (D3.out.alloc (.cells #[.int .i64 s, .int .i64 p] 131))
       have NW := hid (cell_two_new y3 (.int .i64 s) (.int .i64 p) 131)
       generalize y3.heap.size = bn at NW ⊢
       generalize y3.alloc (.cells #[.int .i64 s, .int .i64 p] 131) = y4 at D4 NW ⊢
       refine hKK.out _ _ (trivial) (fun hH4 => ?_)
       clear hKK KK
       try simp only [Act.put, lsA, ls0, ls1]
       refine mvR 8 rfl (fun KK hKK => ?_)
       refine step_recK rfl _ _ rfl rfl bn rfl (s, p) NW.out D4.out HLN.out ?_
       intro A2 c2 y5 hd
       obtain ⟨m2, hm2⟩ : ∃ m, (ks ++ [(s, p)]).length = m := ⟨_, rfl⟩
       rw [hm2] at hd ⊢
       have HM := hid hm2
       clear hm2
       have D5 := hid hd
       clear hd NW
       refine hKK.out _ _ (trivial) (fun hH5 => ?_)
       clear hKK KK
       try simp only [Act.put, lsA, ls0, ls1]
       refine mvA 9 (v := ?hv5) rfl ?hy5 ?hr5
       case hy5 => (intro w hSw; (try dsimp only at hSw); go_simp; (try with_reducible rfl))
       try simp only [Act.put, lsA, ls0, ls1]
       refine mvR 10 rfl (fun KK hKK => ?_)
       have x0 := D5.out.lbk.cell (i := 1) rfl
       have x1 := D5.out.lbk.free 1
       go_simp
       have D6 := hid (D5.out.store2 (.slice A2 m2 c2) (n8_sl _ _ _))
       clear x0 x1
       generalize World.setCell y5 ⟨lb, 1, none⟩ _ = y6 at D6 ⊢
       refine hKK.out _ _ (trivial) (fun hH6 => ?_)
       clear hKK KK
       try simp only [Act.put, lsA, ls0, ls1]
       refine wpAnyH_done (by kernel_rfl) ?_ _
       obtain ⟨AR, cR, hxr, hsr⟩ := D6.out.rd
       have x1 := hxr.cell (i := 1) rfl
       go_wp2_with (first
        | (refine store_mid_as rfl 28 _ _ rfl w.heap.size 0 (#[.slice none 0 0, .slice none 0 0, .int .i64 0, .int .i64 0, .int .i64 0, .int .i64 0, .int .i64 0, .int .i64 0, .int .i64 0] : Array Value) rfl rfl (Blk.there (n := 9) D6.out.ar (Nat.le_refl 9)) size27 (by simp [Value.oneCell']) ?_; intro wz ez; have EZ := hid ez; clear ez)
        | fail)
       (try simp only [Exit.inBlock, Exit.then])
       refine bodyPost_ret (results_cell_mid rfl _ _ w.heap.size [.slice none 0 0, .slice none 0 0, .int .i64 0, .int .i64 0, .int .i64 0, .int .i64 0, .int .i64 0, .int .i64 0, .int .i64 0] 28 _ rfl (by rw [EZ.out]; exact Blk.setAll D6.out.ar _ rfl) Tryz.underlying28 rfl size27) rfl ?_
       rw [EZ.out]
       exact dl_fail HNO.out (D6.out.rd.set_all D6.out.ar (Nat.ne_of_lt HR.out) (lvk_no8 []) _ _) HZ2.out (below_setAll (Nat.le_of_lt HR.out) _ _ _ D6.out.bel) (D6.out.kp.new_all (Nat.le_refl _) _ _)
      refine mvD rfl (fun KK hKK => ?_) AllReadyH.nil
      go_simp
      (with_reducible refine (HS.out _ D0.out.rd).mono ?_)
      rintro e0 y1 ⟨rfl, hr, hb, hk⟩
      have D1 := hid (D0.out.take hr hb hk)
      clear hr hb hk
      refine hKK.out _ _ (trivial) (fun hH1 => ?_)
      clear hKK KK
      try simp only [Act.put, lsA, ls0, ls1]
      refine mvT [1, 5] ?_
      refine mvD rfl (fun KK hKK => ?_) ?_
      ·have x0 := D1.out.lbk.cell (i := 1) rfl
       go_simp
       have D2 := D1
       clear x0
       refine hKK.out _ _ (trivial) (fun hH2 => ?_)
       clear hKK KK
       try simp only [Act.put, lsA, ls0, ls1]
       refine mvR 5 rfl (fun KK hKK => ?_)
       go_simp
       (with_reducible refine (HI.out _ D2.out.rd).mono ?_)
       rintro e0 y3 ⟨rfl, hr, hb, hk⟩
       have D3 := hid (D2.out.take hr hb hk)
       clear hr hb hk
       refine hKK.out _ _ (trivial) (fun hH3 => ?_)
       clear hKK KK
       try simp only [Act.put, lsA, ls0, ls1]
       refine mvA 6 (v := ?hv6) rfl ?hy6 ?hr6
       case hy6 => (intro w hSw; (try dsimp only at hSw); go_simp; (try with_reducible rfl))
       try simp only [Act.put, lsA, ls0, ls1]
       refine mvR 7 rfl (fun KK hKK => ?_)
       go_simp
       have D4 := hid (D3.out.alloc (.cells #[.int .i64 s, .int .i64 p] 131))
       have NW := hid (cell_two_new y3 (.int .i64 s) (.int .i64 p) 131)
       generalize y3.heap.size = bn at NW ⊢
       generalize y3.alloc (.cells #[.int .i64 s, .int .i64 p] 131) = y4 at D4 NW ⊢
       refine hKK.out _ _ (trivial) (fun hH4 => ?_)
       clear hKK KK
       try simp only [Act.put, lsA, ls0, ls1]
       refine mvR 8 rfl (fun KK hKK => ?_)
       refine step_recK rfl _ _ rfl rfl bn rfl (s, p) NW.out D4.out HLN.out ?_
       intro A2 c2 y5 hd
       obtain ⟨m2, hm2⟩ : ∃ m, (ks ++ [(s, p)]).length = m := ⟨_, rfl⟩
       rw [hm2] at hd ⊢
       have HM := hid hm2
       clear hm2
       have D5 := hid hd
       clear hd NW
       refine hKK.out _ _ (trivial) (fun hH5 => ?_)
       clear hKK KK
       try simp only [Act.put, lsA, ls0, ls1]
       refine mvA 9 (v := ?hv7) rfl ?hy7 ?hr7
       case hy7 => (intro w hSw; (try dsimp only at hSw); go_simp; (try with_reducible rfl))
       try simp only [Act.put, lsA, ls0, ls1]
       refine mvR 10 rfl (fun KK hKK => ?_)
       have x0 := D5.out.lbk.cell (i := 1) rfl
       have x1 := D5.out.lbk.free 1
       go_simp
       have D6 := hid (D5.out.store2 (.slice A2 m2 c2) (n8_sl _ _ _))
       clear x0 x1
       generalize World.setCell y5 ⟨lb, 1, none⟩ _ = y6 at D6 ⊢
       refine hKK.out _ _ (trivial) (fun hH6 => ?_)
       clear hKK KK
       try simp only [Act.put, lsA, ls0, ls1]
       refine wpAnyH_done (by kernel_rfl) ?_ _
       obtain ⟨AR, cR, hxr, hsr⟩ := D6.out.rd
       have x1 := hxr.cell (i := 1) rfl
       go_wp2_with (first
        | (refine store_mid_as rfl 28 _ _ rfl w.heap.size 0 (#[.slice none 0 0, .slice none 0 0, .int .i64 0, .int .i64 0, .int .i64 0, .int .i64 0, .int .i64 0, .int .i64 0, .int .i64 0] : Array Value) rfl rfl (Blk.there (n := 9) D6.out.ar (Nat.le_refl 9)) size27 (by simp [Value.oneCell']) ?_; intro wz ez; have EZ := hid ez; clear ez)
        | fail)
       (try simp only [Exit.inBlock, Exit.then])
       refine bodyPost_ret (results_cell_mid rfl _ _ w.heap.size [.slice none 0 0, .slice none 0 0, .int .i64 0, .int .i64 0, .int .i64 0, .int .i64 0, .int .i64 0, .int .i64 0, .int .i64 0] 28 _ rfl (by rw [EZ.out]; exact Blk.setAll D6.out.ar _ rfl) Tryz.underlying28 rfl size27) rfl ?_
       rw [EZ.out]
       exact dl_fail HNO.out (D6.out.rd.set_all D6.out.ar (Nat.ne_of_lt HR.out) (lvk_no8 []) _ _) HZ2.out (below_setAll (Nat.le_of_lt HR.out) _ _ _ D6.out.bel) (D6.out.kp.new_all (Nat.le_refl _) _ _)
      refine mvD rfl (fun KK hKK => ?_) AllReadyH.nil
      go_simp
      (with_reducible refine (HI.out _ D1.out.rd).mono ?_)
      rintro e0 y2 ⟨rfl, hr, hb, hk⟩
      have D2 := hid (D1.out.take hr hb hk)
      clear hr hb hk
      refine hKK.out _ _ (trivial) (fun hH2 => ?_)
      clear hKK KK
      try simp only [Act.put, lsA, ls0, ls1]
      refine mvA 6 (v := ?hv8) rfl ?hy8 ?hr8
      case hy8 => (intro w hSw; (try dsimp only at hSw); go_simp; (try with_reducible rfl))
      try simp only [Act.put, lsA, ls0, ls1]
      refine mvT [1, 7] ?_
      refine mvD rfl (fun KK hKK => ?_) ?_
      ·have x0 := D2.out.lbk.cell (i := 1) rfl
       go_simp
       have D3 := D2
       clear x0
       refine hKK.out _ _ (trivial) (fun hH3 => ?_)
       clear hKK KK
       try simp only [Act.put, lsA, ls0, ls1]
       refine mvR 7 rfl (fun KK hKK => ?_)
       go_simp
       have D4 := hid (D3.out.alloc (.cells #[.int .i64 s, .int .i64 p] 131))
       have NW := hid (cell_two_new y2 (.int .i64 s) (.int .i64 p) 131)
       generalize y2.heap.size = bn at NW ⊢
       generalize y2.alloc (.cells #[.int .i64 s, .int .i64 p] 131) = y4 at D4 NW ⊢
       refine hKK.out _ _ (trivial) (fun hH4 => ?_)
       clear hKK KK
       try simp only [Act.put, lsA, ls0, ls1]
       refine mvR 8 rfl (fun KK hKK => ?_)
       refine step_recK rfl _ _ rfl rfl bn rfl (s, p) NW.out D4.out HLN.out ?_
       intro A2 c2 y5 hd
       obtain ⟨m2, hm2⟩ : ∃ m, (ks ++ [(s, p)]).length = m := ⟨_, rfl⟩
       rw [hm2] at hd ⊢
       have HM := hid hm2
       clear hm2
       have D5 := hid hd
       clear hd NW
       refine hKK.out _ _ (trivial) (fun hH5 => ?_)
       clear hKK KK
       try simp only [Act.put, lsA, ls0, ls1]
       refine mvA 9 (v := ?hv9) rfl ?hy9 ?hr9
       case hy9 => (intro w hSw; (try dsimp only at hSw); go_simp; (try with_reducible rfl))
       try simp only [Act.put, lsA, ls0, ls1]
       refine mvR 10 rfl (fun KK hKK => ?_)
       have x0 := D5.out.lbk.cell (i := 1) rfl
       have x1 := D5.out.lbk.free 1
       go_simp
       have D6 := hid (D5.out.store2 (.slice A2 m2 c2) (n8_sl _ _ _))
       clear x0 x1
       generalize World.setCell y5 ⟨lb, 1, none⟩ _ = y6 at D6 ⊢
       refine hKK.out _ _ (trivial) (fun hH6 => ?_)
       clear hKK KK
       try simp only [Act.put, lsA, ls0, ls1]
       refine wpAnyH_done (by kernel_rfl) ?_ _
       obtain ⟨AR, cR, hxr, hsr⟩ := D6.out.rd
       have x1 := hxr.cell (i := 1) rfl
       go_wp2_with (first
        | (refine store_mid_as rfl 28 _ _ rfl w.heap.size 0 (#[.slice none 0 0, .slice none 0 0, .int .i64 0, .int .i64 0, .int .i64 0, .int .i64 0, .int .i64 0, .int .i64 0, .int .i64 0] : Array Value) rfl rfl (Blk.there (n := 9) D6.out.ar (Nat.le_refl 9)) size27 (by simp [Value.oneCell']) ?_; intro wz ez; have EZ := hid ez; clear ez)
        | fail)
       (try simp only [Exit.inBlock, Exit.then])
       refine bodyPost_ret (results_cell_mid rfl _ _ w.heap.size [.slice none 0 0, .slice none 0 0, .int .i64 0, .int .i64 0, .int .i64 0, .int .i64 0, .int .i64 0, .int .i64 0, .int .i64 0] 28 _ rfl (by rw [EZ.out]; exact Blk.setAll D6.out.ar _ rfl) Tryz.underlying28 rfl size27) rfl ?_
       rw [EZ.out]
       exact dl_fail HNO.out (D6.out.rd.set_all D6.out.ar (Nat.ne_of_lt HR.out) (lvk_no8 []) _ _) HZ2.out (below_setAll (Nat.le_of_lt HR.out) _ _ _ D6.out.bel) (D6.out.kp.new_all (Nat.le_refl _) _ _)
      refine mvD rfl (fun KK hKK => ?_) AllReadyH.nil
      go_simp
      have D3 := hid (D2.out.alloc (.cells #[.int .i64 s, .int .i64 p] 131))
      have NW := hid (cell_two_new y2 (.int .i64 s) (.int .i64 p) 131)
      generalize y2.heap.size = bn at NW ⊢
      generalize y2.alloc (.cells #[.int .i64 s, .int .i64 p] 131) = y3 at D3 NW ⊢
      refine hKK.out _ _ (trivial) (fun hH3 => ?_)
      clear hKK KK
      try simp only [Act.put, lsA, ls0, ls1]
      refine mvR 1 rfl (fun KK hKK => ?_)
      have x0 := D3.out.lbk.cell (i := 1) rfl
      go_simp
      have D4 := D3
      clear x0
      refine hKK.out _ _ (trivial) (fun hH4 => ?_)
      clear hKK KK
      try simp only [Act.put, lsA, ls0, ls1]
      refine mvR 8 rfl (fun KK hKK => ?_)
      refine step_recK rfl _ _ rfl rfl bn rfl (s, p) NW.out D4.out HLN.out ?_
      intro A2 c2 y5 hd
      obtain ⟨m2, hm2⟩ : ∃ m, (ks ++ [(s, p)]).length = m := ⟨_, rfl⟩
      rw [hm2] at hd ⊢
      have HM := hid hm2
      clear hm2
      have D5 := hid hd
      clear hd NW
      refine hKK.out _ _ (trivial) (fun hH5 => ?_)
      clear hKK KK
      try simp only [Act.put, lsA, ls0, ls1]
      refine mvA 9 (v := ?hv10) rfl ?hy10 ?hr10
      case hy10 => (intro w hSw; (try dsimp only at hSw); go_simp; (try with_reducible rfl))
      try simp only [Act.put, lsA, ls0, ls1]
      refine mvR 10 rfl (fun KK hKK => ?_)
      have x0 := D5.out.lbk.cell (i := 1) rfl
      have x1 := D5.out.lbk.free 1
      go_simp
      have D6 := hid (D5.out.store2 (.slice A2 m2 c2) (n8_sl _ _ _))
      clear x0 x1
      generalize World.setCell y5 ⟨lb, 1, none⟩ _ = y6 at D6 ⊢
      refine hKK.out _ _ (trivial) (fun hH6 => ?_)
      clear hKK KK
      try simp only [Act.put, lsA, ls0, ls1]
      refine wpAnyH_done (by kernel_rfl) ?_ _
      obtain ⟨AR, cR, hxr, hsr⟩ := D6.out.rd
      have x1 := hxr.cell (i := 1) rfl
      go_wp2_with (first
       | (refine store_mid_as rfl 28 _ _ rfl w.heap.size 0 (#[.slice none 0 0, .slice none 0 0, .int .i64 0, .int .i64 0, .int .i64 0, .int .i64 0, .int .i64 0, .int .i64 0, .int .i64 0] : Array Value) rfl rfl (Blk.there (n := 9) D6.out.ar (Nat.le_refl 9)) size27 (by simp [Value.oneCell']) ?_; intro wz ez; have EZ := hid ez; clear ez)
       | fail)
      (try simp only [Exit.inBlock, Exit.then])
      refine bodyPost_ret (results_cell_mid rfl _ _ w.heap.size [.slice none 0 0, .slice none 0 0, .int .i64 0, .int .i64 0, .int .i64 0, .int .i64 0, .int .i64 0, .int .i64 0, .int .i64 0] 28 _ rfl (by rw [EZ.out]; exact Blk.setAll D6.out.ar _ rfl) Tryz.underlying28 rfl size27) rfl ?_
      rw [EZ.out]
      exact dl_fail HNO.out (D6.out.rd.set_all D6.out.ar (Nat.ne_of_lt HR.out) (lvk_no8 []) _ _) HZ2.out (below_setAll (Nat.le_of_lt HR.out) _ _ _ D6.out.bel) (D6.out.kp.new_all (Nat.le_refl _) _ _)
     | false =>
      have PN := hid (Cd.prg_some PG.out hlt (hdu.1 rfl) (Nat.le_trans hl4 hl3))
      clear PG hdu HNX
      go_upto_region 10 with (fail)
      refine wp_region_held_drew (S := (fun _ => True)) (by kernel_rfl) (trivial) (fun hH0 => ?_)
      have D0 := hid DD.out.drew
      generalize World.drew wr = y0 at D0 ⊢
      refine mvA 0 (v := ?hv11) rfl ?hy11 ?hr11
      case hy11 => (intro w hSw; (try dsimp only at hSw); go_simp; (try with_reducible rfl))
      try simp only [Act.put, lsA, ls0, ls1]
      refine mvA 2 (v := ?hv12) rfl ?hy12 ?hr12
      case hy12 => (intro w hSw; (try dsimp only at hSw); go_simp; (try with_reducible rfl))
      try simp only [Act.put, lsA, ls0, ls1]
      refine mvA 4 (v := ?hv13) rfl ?hy13 ?hr13
      case hy13 => (intro w hSw; (try dsimp only at hSw); go_simp; (try with_reducible rfl))
      try simp only [Act.put, lsA, ls0, ls1]
      refine mvT [1, 3] ?_
      refine mvD rfl (fun KK hKK => ?_) ?_
      ·have x0 := D0.out.lbk.cell (i := 1) rfl
       go_simp
       have D1 := D0
       clear x0
       refine hKK.out _ _ (trivial) (fun hH1 => ?_)
       clear hKK KK
       try simp only [Act.put, lsA, ls0, ls1]
       refine mvR 3 rfl (fun KK hKK => ?_)
       go_simp
       (with_reducible refine (HS.out _ D1.out.rd).mono ?_)
       rintro e0 y2 ⟨rfl, hr, hb, hk⟩
       have D2 := hid (D1.out.take hr hb hk)
       clear hr hb hk
       refine hKK.out _ _ (trivial) (fun hH2 => ?_)
       clear hKK KK
       try simp only [Act.put, lsA, ls0, ls1]
       refine mvR 5 rfl (fun KK hKK => ?_)
       go_simp
       (with_reducible refine (HI.out _ D2.out.rd).mono ?_)
       rintro e0 y3 ⟨rfl, hr, hb, hk⟩
       have D3 := hid (D2.out.take hr hb hk)
       clear hr hb hk
       refine hKK.out _ _ (trivial) (fun hH3 => ?_)
       clear hKK KK
       try simp only [Act.put, lsA, ls0, ls1]
       refine mvA 6 (v := ?hv14) rfl ?hy14 ?hr14
       case hy14 => (intro w hSw; (try dsimp only at hSw); go_simp; (try with_reducible rfl))
       try simp only [Act.put, lsA, ls0, ls1]
       refine mvR 7 rfl (fun KK hKK => ?_)
       go_simp
       have D4 := hid (D3.out.alloc (.cells #[.int .i64 s, .int .i64 p] 131))
       have NW := hid (cell_two_new y3 (.int .i64 s) (.int .i64 p) 131)
       generalize y3.heap.size = bn at NW ⊢
       generalize y3.alloc (.cells #[.int .i64 s, .int .i64 p] 131) = y4 at D4 NW ⊢
       refine hKK.out _ _ (trivial) (fun hH4 => ?_)
       clear hKK KK
       try simp only [Act.put, lsA, ls0, ls1]
       refine mvR 8 rfl (fun KK hKK => ?_)
       refine step_recK rfl _ _ rfl rfl bn rfl (s, p) NW.out D4.out HLN.out ?_
       intro A2 c2 y5 hd
       obtain ⟨m2, hm2⟩ : ∃ m, (ks ++ [(s, p)]).length = m := ⟨_, rfl⟩
       rw [hm2] at hd ⊢
       have HM := hid hm2
       clear hm2
       have D5 := hid hd
       clear hd NW
       refine hKK.out _ _ (trivial) (fun hH5 => ?_)
       clear hKK KK
       try simp only [Act.put, lsA, ls0, ls1]
       refine mvA 9 (v := ?hv15) rfl ?hy15 ?hr15
       case hy15 => (intro w hSw; (try dsimp only at hSw); go_simp; (try with_reducible rfl))
       try simp only [Act.put, lsA, ls0, ls1]
       refine mvR 10 rfl (fun KK hKK => ?_)
       have x0 := D5.out.lbk.cell (i := 1) rfl
       have x1 := D5.out.lbk.free 1
       go_simp
       have D6 := hid (D5.out.store2 (.slice A2 m2 c2) (n8_sl _ _ _))
       clear x0 x1
       generalize World.setCell y5 ⟨lb, 1, none⟩ _ = y6 at D6 ⊢
       refine hKK.out _ _ (trivial) (fun hH6 => ?_)
       clear hKK KK
       try simp only [Act.put, lsA, ls0, ls1]
       refine wpAnyH_done (by kernel_rfl) ?_ _
       obtain ⟨AR, cR, hxr, hsr⟩ := D6.out.rd
       have x1 := hxr.cell (i := 1) rfl
       go_wp2
       go_roundw
       case rel => exact ⟨k + 1, ks ++ [(s, p)], z2, A2, c2, by omega, by go_num, PN, hid (by rw [HM.out]; exact D6.out)⟩
       case measure => simp [intOf]; omega
      refine mvD rfl (fun KK hKK => ?_) AllReadyH.nil
      go_simp
      (with_reducible refine (HS.out _ D0.out.rd).mono ?_)
      rintro e0 y1 ⟨rfl, hr, hb, hk⟩
      have D1 := hid (D0.out.take hr hb hk)
      clear hr hb hk
      refine hKK.out _ _ (trivial) (fun hH1 => ?_)
      clear hKK KK
      try simp only [Act.put, lsA, ls0, ls1]
      refine mvT [1, 5] ?_
      refine mvD rfl (fun KK hKK => ?_) ?_
      ·have x0 := D1.out.lbk.cell (i := 1) rfl
       go_simp
       have D2 := D1
       clear x0
       refine hKK.out _ _ (trivial) (fun hH2 => ?_)
       clear hKK KK
       try simp only [Act.put, lsA, ls0, ls1]
       refine mvR 5 rfl (fun KK hKK => ?_)
       go_simp
       (with_reducible refine (HI.out _ D2.out.rd).mono ?_)
       rintro e0 y3 ⟨rfl, hr, hb, hk⟩
       have D3 := hid (D2.out.take hr hb hk)
       clear hr hb hk
       refine hKK.out _ _ (trivial) (fun hH3 => ?_)
       clear hKK KK
       try simp only [Act.put, lsA, ls0, ls1]
       refine mvA 6 (v := ?hv16) rfl ?hy16 ?hr16
       case hy16 => (intro w hSw; (try dsimp only at hSw); go_simp; (try with_reducible rfl))
       try simp only [Act.put, lsA, ls0, ls1]
       refine mvR 7 rfl (fun KK hKK => ?_)
       go_simp
       have D4 := hid (D3.out.alloc (.cells #[.int .i64 s, .int .i64 p] 131))
       have NW := hid (cell_two_new y3 (.int .i64 s) (.int .i64 p) 131)
       generalize y3.heap.size = bn at NW ⊢
       generalize y3.alloc (.cells #[.int .i64 s, .int .i64 p] 131) = y4 at D4 NW ⊢
       refine hKK.out _ _ (trivial) (fun hH4 => ?_)
       clear hKK KK
       try simp only [Act.put, lsA, ls0, ls1]
       refine mvR 8 rfl (fun KK hKK => ?_)
       refine step_recK rfl _ _ rfl rfl bn rfl (s, p) NW.out D4.out HLN.out ?_
       intro A2 c2 y5 hd
       obtain ⟨m2, hm2⟩ : ∃ m, (ks ++ [(s, p)]).length = m := ⟨_, rfl⟩
       rw [hm2] at hd ⊢
       have HM := hid hm2
       clear hm2
       have D5 := hid hd
       clear hd NW
       refine hKK.out _ _ (trivial) (fun hH5 => ?_)
       clear hKK KK
       try simp only [Act.put, lsA, ls0, ls1]
       refine mvA 9 (v := ?hv17) rfl ?hy17 ?hr17
       case hy17 => (intro w hSw; (try dsimp only at hSw); go_simp; (try with_reducible rfl))
       try simp only [Act.put, lsA, ls0, ls1]
       refine mvR 10 rfl (fun KK hKK => ?_)
       have x0 := D5.out.lbk.cell (i := 1) rfl
       have x1 := D5.out.lbk.free 1
       go_simp
       have D6 := hid (D5.out.store2 (.slice A2 m2 c2) (n8_sl _ _ _))
       clear x0 x1
       generalize World.setCell y5 ⟨lb, 1, none⟩ _ = y6 at D6 ⊢
       refine hKK.out _ _ (trivial) (fun hH6 => ?_)
       clear hKK KK
       try simp only [Act.put, lsA, ls0, ls1]
       refine wpAnyH_done (by kernel_rfl) ?_ _
       obtain ⟨AR, cR, hxr, hsr⟩ := D6.out.rd
       have x1 := hxr.cell (i := 1) rfl
       go_wp2
       go_roundw
       case rel => exact ⟨k + 1, ks ++ [(s, p)], z2, A2, c2, by omega, by go_num, PN, hid (by rw [HM.out]; exact D6.out)⟩
       case measure => simp [intOf]; omega
      refine mvD rfl (fun KK hKK => ?_) AllReadyH.nil
      go_simp
      (with_reducible refine (HI.out _ D1.out.rd).mono ?_)
      rintro e0 y2 ⟨rfl, hr, hb, hk⟩
      have D2 := hid (D1.out.take hr hb hk)
      clear hr hb hk
      refine hKK.out _ _ (trivial) (fun hH2 => ?_)
      clear hKK KK
      try simp only [Act.put, lsA, ls0, ls1]
      refine mvA 6 (v := ?hv18) rfl ?hy18 ?hr18
      case hy18 => (intro w hSw; (try dsimp only at hSw); go_simp; (try with_reducible rfl))
      try simp only [Act.put, lsA, ls0, ls1]
      refine mvT [1, 7] ?_
      refine mvD rfl (fun KK hKK => ?_) ?_
      ·have x0 := D2.out.lbk.cell (i := 1) rfl
       go_simp
       have D3 := D2
       clear x0
       refine hKK.out _ _ (trivial) (fun hH3 => ?_)
       clear hKK KK
       try simp only [Act.put, lsA, ls0, ls1]
       refine mvR 7 rfl (fun KK hKK => ?_)
       go_simp
       have D4 := hid (D3.out.alloc (.cells #[.int .i64 s, .int .i64 p] 131))
       have NW := hid (cell_two_new y2 (.int .i64 s) (.int .i64 p) 131)
       generalize y2.heap.size = bn at NW ⊢
       generalize y2.alloc (.cells #[.int .i64 s, .int .i64 p] 131) = y4 at D4 NW ⊢
       refine hKK.out _ _ (trivial) (fun hH4 => ?_)
       clear hKK KK
       try simp only [Act.put, lsA, ls0, ls1]
       refine mvR 8 rfl (fun KK hKK => ?_)
       refine step_recK rfl _ _ rfl rfl bn rfl (s, p) NW.out D4.out HLN.out ?_
       intro A2 c2 y5 hd
       obtain ⟨m2, hm2⟩ : ∃ m, (ks ++ [(s, p)]).length = m := ⟨_, rfl⟩
       rw [hm2] at hd ⊢
       have HM := hid hm2
       clear hm2
       have D5 := hid hd
       clear hd NW
       refine hKK.out _ _ (trivial) (fun hH5 => ?_)
       clear hKK KK
       try simp only [Act.put, lsA, ls0, ls1]
       refine mvA 9 (v := ?hv19) rfl ?hy19 ?hr19
       case hy19 => (intro w hSw; (try dsimp only at hSw); go_simp; (try with_reducible rfl))
       try simp only [Act.put, lsA, ls0, ls1]
       refine mvR 10 rfl (fun KK hKK => ?_)
       have x0 := D5.out.lbk.cell (i := 1) rfl
       have x1 := D5.out.lbk.free 1
       go_simp
       have D6 := hid (D5.out.store2 (.slice A2 m2 c2) (n8_sl _ _ _))
       clear x0 x1
       generalize World.setCell y5 ⟨lb, 1, none⟩ _ = y6 at D6 ⊢
       refine hKK.out _ _ (trivial) (fun hH6 => ?_)
       clear hKK KK
       try simp only [Act.put, lsA, ls0, ls1]
       refine wpAnyH_done (by kernel_rfl) ?_ _
       obtain ⟨AR, cR, hxr, hsr⟩ := D6.out.rd
       have x1 := hxr.cell (i := 1) rfl
       go_wp2
       go_roundw
       case rel => exact ⟨k + 1, ks ++ [(s, p)], z2, A2, c2, by omega, by go_num, PN, hid (by rw [HM.out]; exact D6.out)⟩
       case measure => simp [intOf]; omega
      refine mvD rfl (fun KK hKK => ?_) AllReadyH.nil
      go_simp
      have D3 := hid (D2.out.alloc (.cells #[.int .i64 s, .int .i64 p] 131))
      have NW := hid (cell_two_new y2 (.int .i64 s) (.int .i64 p) 131)
      generalize y2.heap.size = bn at NW ⊢
      generalize y2.alloc (.cells #[.int .i64 s, .int .i64 p] 131) = y3 at D3 NW ⊢
      refine hKK.out _ _ (trivial) (fun hH3 => ?_)
      clear hKK KK
      try simp only [Act.put, lsA, ls0, ls1]
      refine mvR 1 rfl (fun KK hKK => ?_)
      have x0 := D3.out.lbk.cell (i := 1) rfl
      go_simp
      have D4 := D3
      clear x0
      refine hKK.out _ _ (trivial) (fun hH4 => ?_)
      clear hKK KK
      try simp only [Act.put, lsA, ls0, ls1]
      refine mvR 8 rfl (fun KK hKK => ?_)
      refine step_recK rfl _ _ rfl rfl bn rfl (s, p) NW.out D4.out HLN.out ?_
      intro A2 c2 y5 hd
      obtain ⟨m2, hm2⟩ : ∃ m, (ks ++ [(s, p)]).length = m := ⟨_, rfl⟩
      rw [hm2] at hd ⊢
      have HM := hid hm2
      clear hm2
      have D5 := hid hd
      clear hd NW
      refine hKK.out _ _ (trivial) (fun hH5 => ?_)
      clear hKK KK
      try simp only [Act.put, lsA, ls0, ls1]
      refine mvA 9 (v := ?hv20) rfl ?hy20 ?hr20
      case hy20 => (intro w hSw; (try dsimp only at hSw); go_simp; (try with_reducible rfl))
      try simp only [Act.put, lsA, ls0, ls1]
      refine mvR 10 rfl (fun KK hKK => ?_)
      have x0 := D5.out.lbk.cell (i := 1) rfl
      have x1 := D5.out.lbk.free 1
      go_simp
      have D6 := hid (D5.out.store2 (.slice A2 m2 c2) (n8_sl _ _ _))
      clear x0 x1
      generalize World.setCell y5 ⟨lb, 1, none⟩ _ = y6 at D6 ⊢
      refine hKK.out _ _ (trivial) (fun hH6 => ?_)
      clear hKK KK
      try simp only [Act.put, lsA, ls0, ls1]
      refine wpAnyH_done (by kernel_rfl) ?_ _
      obtain ⟨AR, cR, hxr, hsr⟩ := D6.out.rd
      have x1 := hxr.cell (i := 1) rfl
      go_wp2
      go_roundw
      case rel => exact ⟨k + 1, ks ++ [(s, p)], z2, A2, c2, by omega, by go_num, PN, hid (by rw [HM.out]; exact D6.out)⟩
      case measure => simp [intOf]; omega
    ·have hltz : ¬ (k : Int) < (n2 : Int) := by omega
     obtain rfl : k = n2 := by omega
     have HE := hid (Cd.prg_end PG.out)
     have hrl := PG.out.rl
     clear PG hk
     have HX4 := hid (show dcL zs f = (if f2 = true then none else dc3 us ks rs) by rw [HX3.out, HE.out]; rfl)
     clear HE HX3 HNX
     have hl3 : rs.length ≤ 800000 := Nat.le_trans hrl hl2
     have hlz3 : rs.length ≤ zs.length := Nat.le_trans hrl hlz2
     have PB := hid (blk_new wr [.pointer (some ⟨lb, 2, none⟩), .pointer (some ⟨lb, 3, none⟩), .pointer (some ⟨lb, 4, none⟩), .pointer (some ⟨lb, 5, none⟩), .pointer (some ⟨lb, 6, none⟩), .pointer (some ⟨lb, 7, none⟩), .pointer (some ⟨lb, 8, none⟩)] 182)
     have DP := hid (DD.out.alloc (.cells #[.pointer (some ⟨lb, 2, none⟩), .pointer (some ⟨lb, 3, none⟩), .pointer (some ⟨lb, 4, none⟩), .pointer (some ⟨lb, 5, none⟩), .pointer (some ⟨lb, 6, none⟩), .pointer (some ⟨lb, 7, none⟩), .pointer (some ⟨lb, 8, none⟩)] 182))
     have PN := hid (show ¬ wr.heap.size = rb from Nat.ne_of_gt DD.out.rd.lt)
     have PL := hid (show ¬ wr.heap.size = lb from Nat.ne_of_gt DD.out.lbk.lt)
     have L4 := hid DP.out.lbk
     have R4 := hid DP.out.rd
     have A4 := hid DP.out.ar
     have BB4 := hid DP.out.bel
     have K4 := hid DP.out.kp
     have U4 := hid DP.out.r1
     have V4 := hid DP.out.r2
     clear DP DD
     go_wp2
     generalize wr.heap.size = pb at PB PN PL ⊢
     go_loopw [56] (fun s wr => ∃ k : Nat, k ≤ 7 ∧ s = .int .i64 (k : Int) ∧ Hid (Blk wr lb (lvg (.slice A us.length c) (.slice AQ ks.length cQ) (takes rs f2 k).1) 28) ∧ Hid (Rd wr rb (takes rs f2 k).2.1 (takes rs f2 k).2.2) ∧ Hid (Blk wr pb [.pointer (some ⟨lb, 2, none⟩), .pointer (some ⟨lb, 3, none⟩), .pointer (some ⟨lb, 4, none⟩), .pointer (some ⟨lb, 5, none⟩), .pointer (some ⟨lb, 6, none⟩), .pointer (some ⟨lb, 7, none⟩), .pointer (some ⟨lb, 8, none⟩)] 182) ∧ Hid (Blk wr w.heap.size [.slice none 0 0, .slice none 0 0, .int .i64 0, .int .i64 0, .int .i64 0, .int .i64 0, .int .i64 0, .int .i64 0, .int .i64 0] 28) ∧ Hid (Below rb w wr) ∧ Hid (Kp rb w wr) ∧ Hid (wr.ownsRow (lb + 1) 73 2 (.slice A us.length c) us.length (flat us.length (rowU (fU us)))) ∧ Hid (wr.ownsRow (lb + 1) 131 2 (.slice AQ ks.length cQ) ks.length (flat ks.length (rowK (fK ks))))) (fun s _ => 7 - (intOf s).toNat)
     case atStart => exact ⟨0, Nat.zero_le _, rfl, L4, R4, PB, A4, BB4, K4, U4, V4⟩
     case round =>
      clear L4 R4 PB A4 BB4 K4 U4 V4
      obtain ⟨k, hk, rfl, LK, RK, PK, ZK, BK, KK, UK, VK⟩ := hrel
      by_cases hlt : k < 7
      ·have hltz : (k : Int) < 7 := by omega
       have hk0 : (0 : Int) ≤ (k : Int) := by omega
       have x0 := PK.out.cell (pts_at lb k hlt)
       have HT := hid (take_int rb (takes rs f2 k).2.1 (takes rs f2 k).2.2 wr RK.out (Nat.le_trans (takes_rest _ _ _) hl3))
       rw [gtk_int] at HT
       have HLn := hid (takes_len rs f2 k)
       have HS := hid (show takes rs f2 (k + 1) = ((takes rs f2 k).1 ++ [(gtkI (takes rs f2 k).2.1 (takes rs f2 k).2.2).1], (gtkI (takes rs f2 k).2.1 (takes rs f2 k).2.2).2) from rfl)
       generalize takes rs f2 k = t at LK RK HT HLn HS
       obtain ⟨vs, zk, fk⟩ := t
       dsimp only at LK RK HT HLn HS
       generalize gtkI zk fk = g at HT HS
       obtain ⟨v, zn, fn⟩ := g
       dsimp only at HT HS
       go_wp2_with (first
        | (go_at_call 69; (with_reducible refine HT.out.mono ?_); rintro e w4 ⟨rfl, hr, hb, hk⟩; have R5 := hid hr; have L5 := hid (LK.out.kp (Nat.ne_of_gt LR.out) hk); have A5 := hid (ZK.out.kp (Nat.ne_of_gt HR.out) hk); have P5 := hid (PK.out.kp PN.out hk); have K5 := hid (KK.out.trans hk); have B5 := hid (BK.out.trans hb); have U5 := hid (row_kp UK.out hk (Nat.lt_succ_of_lt LR.out)); have V5 := hid (row_kp VK.out hk (Nat.lt_succ_of_lt LR.out)); clear hr hb hk x0; have y0 := L5.out.cell (i := 2 + k) (by rw [← HLn.out]; exact lvg_at _ _ vs (by rw [HLn.out]; exact hlt)); have z0 := L5.out.free (2 + k))
        | fail)
       go_roundw
       case rel => exact ⟨k + 1, by omega, by go_num, hid (by rw [HS.out]; show Blk _ lb (lvg _ _ (vs ++ [v])) 28; rw [← lvg_set _ _ vs v (by rw [HLn.out]; exact hlt), HLn.out]; exact L5.out.set (2 + k) (.int .i64 v)), hid (by rw [HS.out]; exact R5.out.set_blk L5.out (Nat.ne_of_lt LR.out) (lvg_no8 (n8_sl _ _ _) (n8_sl _ _ _) vs) (2 + k) _), hid (P5.out.other ⟨lb, 2 + k, none⟩ _ PL.out), hid (A5.out.other ⟨lb, 2 + k, none⟩ _ (Nat.ne_of_lt LW.out)), hid (B5.out.setCell (p := ⟨lb, 2 + k, none⟩) (Nat.le_of_lt LR.out) _), hid (K5.out.new_set (Nat.le_of_lt LW.out) _ _), hid (row_kp U5.out ((Kp.refl lb _).set (2 + k) _) (Nat.lt_succ_self lb)), hid (row_kp V5.out ((Kp.refl lb _).set (2 + k) _) (Nat.lt_succ_self lb))⟩
       case measure => simp [intOf]; omega
      ·have hltz : ¬ (k : Int) < 7 := by omega
       have hke : k = 7 := by omega
       subst hke
       have HLn := hid (takes_len rs f2 7)
       have HZk := hid (Nat.le_trans (takes_rest rs f2 7) hlz3)
       generalize ht : takes rs f2 7 = t at LK RK HLn HZk
       obtain ⟨vs, zk, fk⟩ := t
       dsimp only at LK RK HLn HZk
       have HT7 := hid ht
       clear ht
       have HEND := hid (dl_end HX4.out HT7.out)
       have HN9 := hid (lvg_len (.slice A us.length c) (.slice AQ ks.length cQ) vs HLn.out)
       have HSZ : Hid ((lvg (.slice A us.length c) (.slice AQ ks.length cQ) vs).toArray.size = 9) := hid (by rw [List.size_toArray]; exact HN9.out)
       have HTH : Hid (World.there wr w.heap.size 0 (lvg (.slice A us.length c) (.slice AQ ks.length cQ) vs).toArray.size) := hid (by rw [HSZ.out]; exact ZK.out.there (Nat.le_refl 9))
       have HI9 : Hid ((Tryz.prog.info? 28).map (·.size) = some (lvg (.slice A us.length c) (.slice AQ ks.length cQ) vs).toArray.size) := hid (by rw [HSZ.out]; exact size27)
       go_wp2_with (first
        | (refine wpList_load_mid rfl 28 _ rfl lb 0 rfl (lvg (.slice A us.length c) (.slice AQ ks.length cQ) vs) _ LK.out.range Tryz.underlying28 rfl (by rw [HN9.out]; exact size27) ?_)
        | (refine store_mid_as rfl 28 _ _ rfl w.heap.size 0 (lvg (.slice A us.length c) (.slice AQ ks.length cQ) vs).toArray rfl rfl HTH.out HI9.out (lvg_one rfl rfl vs) ?_; intro wz ez; have EZ := hid ez; clear ez)
        | fail)
       (try simp only [Exit.inBlock, Exit.then])
       refine bodyPost_ret (results_cell_mid rfl _ _ w.heap.size (lvg (.slice A us.length c) (.slice AQ ks.length cQ) vs) 28 _ rfl (by rw [EZ.out]; exact ZK.out.setAll _ HN9.out) Tryz.underlying28 rfl (by rw [HN9.out]; exact size27)) rfl ?_
       rw [EZ.out]
       refine ⟨⟨us, ks, vs.getD 0 0, vs.getD 1 0, vs.getD 2 0, vs.getD 3 0, vs.getD 4 0, vs.getD 5 0, vs.getD 6 0⟩, A, c, AQ, cQ, zk, fk, by rw [lvg_all HLn.out], RK.out.set_all ZK.out (Nat.ne_of_lt HR.out) (lvk_no8 []) _ _, HZk.out, below_setAll (Nat.le_of_lt HR.out) _ _ _ BK.out, KK.out.new_all (Nat.le_refl _) _ _, HEND.out.imp id (fun ⟨e1, e2⟩ => ⟨e1, e2, own_low (row_kp UK.out (kp_all _ _ _ _) (Nat.lt_succ_of_lt LW.out)) (Nat.le_succ_of_le (Nat.le_of_lt LW.out)), own_low (row_kp VK.out (kp_all _ _ _ _) (Nat.lt_succ_of_lt LW.out)) (Nat.le_succ_of_le (Nat.le_of_lt LW.out))⟩)⟩
end Go.Proofs.YtablocpcgknmaaaGreatDoor
