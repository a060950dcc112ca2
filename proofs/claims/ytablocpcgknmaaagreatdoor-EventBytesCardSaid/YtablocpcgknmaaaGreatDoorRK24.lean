/- Encoding of levels: the walk. Bounds: at most 200 of each, names of at most 1000 bytes. No condition. -/
import Derived.Test.YtablocpcgknmaaaGreatDoorRK14
import Derived.Test.YtablocpcgknmaaaGreatDoorRPe
namespace Go.Proofs.YtablocpcgknmaaaGreatDoor
open Go.Lib (hid)
open Go Go.RowKit
set_option linter.unusedVariables false
set_option linter.unusedSimpArgs false
set_option maxRecDepth 100000

/-- An append of bytes to a row of one's own; another block stands. -/
theorem app_bytes2 {w : World} {ops : Array Oper} {rest : List Oper} {o : Oper} {a : Act} {Q : Exit → Act → World → Prop} (hgd : o.guard = none) (s x : Operand)
  (ho : o.op = .call { callee := .builtin .append, args := #[s, x], argTypes := #[56, 56] }) {B : Nat}
  (v : Value) (xs : List Int) (hs : a.eval s = v) (hown : Cd.Own w B v xs) (hB : B ≤ w.heap.size)
  (A : Option Addr) (len cap : Nat) (z : List Int) (hx : a.eval x = .slice A len cap) (hS : Cd.Sl w A len cap z) (hn : xs.length + len ≤ 1000000)
  {t : Nat} {cs : List Value} {T : TypeId} (hT : Blk w t cs T) (hne : ∀ g, v.ownBlock = some g → g < t)
  (h : ∀ v' w', Cd.Own w' B v' (xs ++ z) → Below B w w' → Blk w' t cs T → wpList Tryz.prog ops Q rest (a.put o.dst v') w') : wpList Tryz.prog ops Q (o :: rest) a w := by
 obtain ⟨i0, hi0, hz0, hz1, hz2⟩ := info_parts Cd.info5
 cases A with
 | none =>
  obtain rfl := hS.nl rfl
  obtain rfl : len = 0 := by have := hS.le; omega
  obtain rfl : z = [] := List.eq_nil_of_length_eq_zero hS.sz
  refine wpList_append_own_none hgd _ _ 56 ho B 5 i0 1 Tryz.underlying56 hi0 v _ _ hs hown hx ?_
  refine h v w ?_ (Below.refl _ _) hT
  rw [List.append_nil]; exact hown
 | some ad =>
  refine wpList_append_own _ hgd _ _ 56 ho B 5 i0 (.int .u8 0) 1 1 Tryz.underlying56 hi0 hz0 hz1 hz2 rfl (by decide) v _ _ hs hown ad len cap (z.map (Value.int .u8)) hx (by rw [List.length_map, hS.sz, Nat.mul_one]) ?_ (Cd.one8 _) (by unfold maxLen; omega) (by omega) hB ?_
  ·intro j u hu
   rw [List.getElem?_map] at hu
   have hj : j < z.length := by
    rcases Nat.lt_or_ge j z.length with h | h
    ·exact h
    ·rw [List.getElem?_eq_none h] at hu; cases hu
   obtain ⟨b, off, e, hlt, hc⟩ := hS.cell (by rw [← hS.sz]; omega)
   injection e with e
   subst e
   rw [Addr.add_lit, hc j (by rw [← hS.sz]; exact hj), ← hu, List.getD_eq_getElem?_getD, List.getElem?_eq_getElem hj]
   rfl
  ·intro v' w' hown' hg _
   refine h v' w' ?_ ((Below.refl B w).grown hg hB (fun k hk => (hown.lt k hk).1)) ⟨(hg.block t hT.lt (fun e => Nat.lt_irrefl t (hne t e.symm))).trans hT.heap⟩
   show w'.ownsRow B 5 1 v' (xs ++ z).length ((xs ++ z).map (Value.int .u8))
   rw [List.map_append, List.length_append, hS.sz]
   exact hown'
theorem own_low {w : World} {B B' : Nat} {e : TypeId} {sz n : Nat} {v : Value} {xs : List Value} (h : w.ownsRow B e sz v n xs) (hB : B' ≤ B) : w.ownsRow B' e sz v n xs := by
 rcases h with ⟨h1, ⟨hv, h2⟩ | ⟨g, cap, cur, hv, hg, h3⟩⟩
 ·exact ⟨h1, .inl ⟨hv, h2⟩⟩
 ·exact ⟨h1, .inr ⟨g, cap, cur, hv, Nat.le_trans hB hg, h3⟩⟩
set_option maxHeartbeats 32000000 in
theorem encode62 (us : List (ByteArray × Int)) (ks : List (Int × Int)) (d x3 x4 x5 x6 x7 x8 : Int) (uA : Option Addr) (uC : Nat) (kA : Option Addr) (kC : Nat) (w : World) (h : IsL w ⟨us, ks, d, x3, x4, x5, x6, x7, x8⟩ uA uC kA kC) (hs : SmL us ks) : Calls Tryz.prog 118 #[.agg #[.slice uA us.length uC, .slice kA ks.length kC, .int .i64 d, .int .i64 x3, .int .i64 x4, .int .i64 x5, .int .i64 x6, .int .i64 x7, .int .i64 x8]] w (SlP w (encL us ks (nmL d x3 x4 x5 x6 x7 x8))) := by
 unfold SlP
 have hlu := hs.lu
 have hlk := hs.lk
 have HFU := hid (show ∀ p ∈ us, p.1.size ≤ 1000 ∧ i64B p.2 from fun p hp => ⟨hs.nm p hp, (h.fu p hp).2⟩)
 have HFK := hid h.fk
 have HFN := hid (show ∀ p ∈ nmL d x3 x4 x5 x6 x7 x8, i64B p by
  have q := h.nm
  intro p hp
  simp only [nmL, List.mem_cons, List.not_mem_nil, or_false] at hp
  rcases hp with rfl | rfl | rfl | rfl | rfl | rfl | rfl
  ·exact q.1
  ·exact q.2.1
  ·exact q.2.2.1
  ·exact q.2.2.2.1
  ·exact q.2.2.2.2.1
  ·exact q.2.2.2.2.2.1
  ·exact q.2.2.2.2.2.2)
 have BA := hid ((Below.refl w.heap.size w).alloc (Nat.le_refl _) (.cells #[.slice uA us.length uC, .slice kA ks.length kC, .int .i64 d, .int .i64 x3, .int .i64 x4, .int .i64 x5, .int .i64 x6, .int .i64 x7, .int .i64 x8] 28))
 have XA := hid (blk_new w [.slice uA us.length uC, .slice kA ks.length kC, .int .i64 d, .int .i64 x3, .int .i64 x4, .int .i64 x5, .int .i64 x6, .int .i64 x7, .int .i64 x8] 28)
 have HU := hid h.us
 have HK := hid h.ks
 have HN := hid (fun y => numbers50 us ks d x3 x4 x5 x6 x7 x8 uA uC kA kC y)
 have HEN := hid (encL_bd HFU.out HFK.out HFN.out hlu hlk)
 have HXA := hid (X_all us ks (nmL d x3 x4 x5 x6 x7 x8) rfl)
 dsimp only at HU HK HFK
 clear h hs
 generalize encL us ks (nmL d x3 x4 x5 x6 x7 x8) = r at HEN HXA ⊢
 generalize hW : w.alloc (.cells #[.slice uA us.length uC, .slice kA ks.length kC, .int .i64 d, .int .i64 x3, .int .i64 x4, .int .i64 x5, .int .i64 x6, .int .i64 x7, .int .i64 x8] 28) = W0 at BA XA
 have c0 := XA.out.cell (i := 0) rfl
 have XL := hid XA.out.lt
 go_enter Tryz.func118, Tryz.ntmps118
 go_upto_region 3 with (first
  | (go_at_call 115; (with_reducible refine (pI us.length (len64 (by omega)) _).mono ?_); rintro e y1 ⟨D1, d1, rfl, hs, ho, hb⟩; have O1 := hid ho; have R1 := hid hb; clear hs ho hb; have z0 := (XA.out.below R1.out).cell (i := 0) rfl)
  | (fail))
 try rw [hW]
 clear z0 c0
 go_loopw [17, 3] (fun s v wr => ∃ (k : Nat) (A : Option Addr) (c : Nat), k ≤ us.length ∧ s = .int .i64 (k : Int) ∧ v = .slice A (X1 us k).length c ∧ Hid (Cd.Own wr W0.heap.size (.slice A (X1 us k).length c) (X1 us k)) ∧ Hid (Below W0.heap.size W0 wr)) (fun s _ _ => us.length - (intOf s).toNat)
 case atStart => exact ⟨0, D1, d1, Nat.zero_le _, rfl, by unfold X1; rw [List.take_zero, show encU [] = [] from rfl, List.append_nil], hid (by unfold X1; rw [List.take_zero, show encU [] = [] from rfl, List.append_nil]; exact O1.out), R1⟩
 case round =>
  clear O1 R1
  obtain ⟨k, A, c, hk, rfl, rfl, OW, BR⟩ := hrel
  have BW := hid (BA.out.trans (BR.out.mono BA.out.size))
  by_cases hlt : k < us.length
  ·skip
   have hltz : (k : Int) < (us.length : Int) := by omega
   have hk0 : (0 : Int) ≤ (k : Int) := by omega
   obtain ⟨b1, o1, rfl, hb1, hr1⟩ := (HU.out.below BW.out).get hlt
   have HXn := hid (X1_succ hlt)
   have HXB := hid (X1_len HFU.out hlu k)
   have hmem := HFU.out (fU us k) (by rw [fU_at hlt]; exact List.getElem_mem hlt)
   have RG := hid (show World.rangeAt wr b1 (o1 + k * 2) (rowU (fU us) k) from hr1)
   unfold rowU at RG
   have HNE := hid (fun g hg => (OW.out.lt g hg).2)
   generalize fU us k = p at RG HXn hmem
   obtain ⟨u, m⟩ := p
   dsimp only at RG HXn hmem
   have HFu := hid hmem.1
   have HFm := hid hmem.2
   generalize hxx : X1 us k = xs at OW HXn HXB HNE
   clear hr1 hmem
   go_wp2_with (first
    | (refine wpList_load_mid rfl 73 _ rfl b1 (o1 + k * 2) rfl [.string u, .int .i64 m] _ RG.out Tryz.underlying73 rfl size60 ?_)
    | (refine store_as rfl 73 _ _ rfl [.string ⟨#[]⟩, .int .i64 0] [.string u, .int .i64 m] rfl rfl rfl size60 (by simp [Value.oneCell']) ?_; intro w3 hx hb; have T3 := hid hx; have O3 := hid (own_below OW.out hb); have R3 := hid (BR.out.trans (hb.mono BR.out.size)); clear hx hb; have t0 := T3.out.cell (i := 0) rfl)
    | (go_at_call 114; (with_reducible refine (pT u HFu.out _).mono ?_); rintro e y4 ⟨D4, d4, rfl, hs, ho, hb⟩; have S4 := hid hs; have O4 := hid (own_below O3.out hb); have R4 := hid (R3.out.trans (hb.mono R3.out.size)); clear t0; have T4 := hid (T3.out.below hb); clear hs ho hb)
    | (at_builtin; (with_reducible refine app_bytes2 rfl (.tmp 21) (.tmp 24) ?_ _ (xs) ?_ O4.out R4.out.size D4 _ d4 (Cd.ent u) ?_ S4.out ?_ T4.out HNE.out ?_); (rfl); (rfl); (rfl); (have q1 := HXB.out; have q2 := (ent_bd2 HFu.out).2; (try simp only [List.length_append]); omega); intro v5 w5 ho hb ht; obtain ⟨A5, c5, rfl⟩ := Cd.own_shape ho; have OW5 := hid ho; have BR5 := hid (R4.out.trans hb); have Q5 := hid hb; have T5 := hid ht; clear ho hb ht; have t1 := T5.out.cell (i := 1) rfl; generalize hx2 : xs ++ Cd.ent u = xs2 at OW5 ⊢; have HX2 := hid hx2; have HL2 := hid (show xs2.length = xs.length + (Cd.ent u).length by rw [← hx2, List.length_append]); clear hx2)
    | (go_at_call 115; (with_reducible refine (pI m HFm.out _).mono ?_); rintro e y6 ⟨D6, d6, rfl, hs, ho, hb⟩; have S6 := hid hs; have O6 := hid (own_below OW5.out hb); have R6 := hid (BR5.out.trans (hb.mono BR5.out.size)); clear t1; clear hs ho hb)
    | (at_builtin; (with_reducible refine Cd.app_bytes rfl (.tmp 26) (.tmp 29) ?_ _ (xs2) ?_ O6.out R6.out.size D6 _ d6 (eI m) ?_ S6.out ?_ ?_); (rfl); (rfl); (rfl); (have q1 := HXB.out; have q2 := (show xs2.length + (eI m).length ≤ 900000 by have r0 := HL2.out; have r1 := (ent_bd2 HFu.out).2; have r2 := (eI_bd HFm.out).2; have r3 := HXB.out; omega); (try simp only [List.length_append]); omega); intro v7 w7 ho hb; obtain ⟨A7, c7, rfl⟩ := Cd.own_shape ho; have OW7 := hid ho; have BR7 := hid (R6.out.trans hb); have Q7 := hid hb; clear ho hb; generalize hx3 : xs2 ++ eI m = xs3 at OW7 ⊢; have HX3 := hid hx3; clear hx3)
    | fail)
   go_roundw
   case rel => exact ⟨k + 1, A7, c7, by omega, by go_num, by rw [HXn.out, HX2.out, HX3.out], hid (by rw [HXn.out, HX2.out, HX3.out]; exact OW7.out), BR7⟩
   case measure => simp [intOf]; omega
  ·have hltz : ¬ (k : Int) < (us.length : Int) := by omega
   have hke : k = us.length := by omega
   subst hke
   have HPX := hid (X1_len HFU.out hlu us.length)
   generalize hPX : X1 us us.length = PX at OW HPX HXA
   have z1 := (XA.out.at_ BR.out XL.out).cell (i := 1) rfl
   clear hk hlt
   have HXB := HPX
   go_wp2_with (first
    | (go_at_call 115; (with_reducible refine (pI ks.length (len64 (by omega)) _).mono ?_); rintro e y8 ⟨D8, d8, rfl, hs, ho, hb⟩; have S8 := hid hs; have O8 := hid (own_below OW.out hb); have R8 := hid (BR.out.trans (hb.mono BR.out.size)); clear hs ho hb)
    | (at_builtin; (with_reducible refine Cd.app_bytes rfl (.tmp 32) (.tmp 36) ?_ _ (PX) ?_ O8.out R8.out.size D8 _ d8 (eI ks.length) ?_ S8.out ?_ ?_); (rfl); (rfl); (rfl); (have q1 := HXB.out; have q2 := (eI_bd (len64 (show ks.length ≤ 1000000 by omega))).2; (try simp only [List.length_append]); omega); intro v9 w9 ho hb; obtain ⟨A9, c9, rfl⟩ := Cd.own_shape ho; have OW9 := hid ho; have BR9 := hid (R8.out.trans hb); have Q9 := hid hb; clear ho hb; generalize hx9 : PX ++ eI ks.length = xs9 at OW9 ⊢; have HX9 := hid hx9; clear hx9; have z2 := (XA.out.at_ BR9.out XL.out).cell (i := 1) rfl)
    | fail)
   clear z1
   go_loopw [41, 3] (fun s v wr => ∃ (k : Nat) (A : Option Addr) (c : Nat), k ≤ ks.length ∧ s = .int .i64 (k : Int) ∧ v = .slice A (X2 PX ks k).length c ∧ Hid (Cd.Own wr W0.heap.size (.slice A (X2 PX ks k).length c) (X2 PX ks k)) ∧ Hid (Below W0.heap.size W0 wr)) (fun s _ _ => ks.length - (intOf s).toNat)
   case atStart => exact ⟨0, A9, c9, Nat.zero_le _, rfl, by unfold X2; rw [List.take_zero, show encK [] = [] from rfl, List.append_nil, HX9.out], hid (by unfold X2; rw [List.take_zero, show encK [] = [] from rfl, List.append_nil, HX9.out]; exact OW9.out), BR9⟩
   case round =>
    clear OW BR BW hPX HXB S8 O8 R8 OW9 BR9 Q9 HX9
    clear hltz
    obtain ⟨k, A, c, hk, rfl, rfl, OW, BR⟩ := hrel
    have BW := hid (BA.out.trans (BR.out.mono BA.out.size))
    by_cases hlt : k < ks.length
    ·skip
     have hltz : (k : Int) < (ks.length : Int) := by omega
     have hk0 : (0 : Int) ≤ (k : Int) := by omega
     obtain ⟨b1, o1, rfl, hb1, hr1⟩ := (HK.out.below BW.out).get hlt
     have HXn := hid (X2_succ (xs := PX) hlt)
     have HXB := hid (X2_len HPX.out HFK.out hlk k)
     have hmem := HFK.out (fK ks k) (by rw [fK_at hlt]; exact List.getElem_mem hlt)
     have RG := hid (show World.rangeAt wr b1 (o1 + k * 2) (rowK (fK ks) k) from hr1)
     unfold rowK at RG
     have HNE := hid (fun g hg => (OW.out.lt g hg).2)
     generalize fK ks k = p at RG HXn hmem
     obtain ⟨u, m⟩ := p
     dsimp only at RG HXn hmem
     have HFu := hid hmem.1
     have HFm := hid hmem.2
     generalize hxx : X2 PX ks k = xs at OW HXn HXB HNE
     clear hr1 hmem
     go_wp2_with (first
      | (refine wpList_load_mid rfl 131 _ rfl b1 (o1 + k * 2) rfl [.int .i64 u, .int .i64 m] _ RG.out Tryz.underlying131 rfl size88 ?_)
      | (refine store_as rfl 131 _ _ rfl [.int .i64 0, .int .i64 0] [.int .i64 u, .int .i64 m] rfl rfl rfl size88 (by simp [Value.oneCell']) ?_; intro w3 hx hb; have T3 := hid hx; have O3 := hid (own_below OW.out hb); have R3 := hid (BR.out.trans (hb.mono BR.out.size)); clear hx hb; have t0 := T3.out.cell (i := 0) rfl)
      | (go_at_call 115; (with_reducible refine (pI u HFu.out _).mono ?_); rintro e y4 ⟨D4, d4, rfl, hs, ho, hb⟩; have S4 := hid hs; have O4 := hid (own_below O3.out hb); have R4 := hid (R3.out.trans (hb.mono R3.out.size)); clear t0; have T4 := hid (T3.out.below hb); clear hs ho hb)
      | (at_builtin; (with_reducible refine app_bytes2 rfl (.tmp 45) (.tmp 48) ?_ _ (xs) ?_ O4.out R4.out.size D4 _ d4 (eI u) ?_ S4.out ?_ T4.out HNE.out ?_); (rfl); (rfl); (rfl); (have q1 := HXB.out; have q2 := (eI_bd HFu.out).2; (try simp only [List.length_append]); omega); intro v5 w5 ho hb ht; obtain ⟨A5, c5, rfl⟩ := Cd.own_shape ho; have OW5 := hid ho; have BR5 := hid (R4.out.trans hb); have Q5 := hid hb; have T5 := hid ht; clear ho hb ht; have t1 := T5.out.cell (i := 1) rfl; generalize hx2 : xs ++ eI u = xs2 at OW5 ⊢; have HX2 := hid hx2; have HL2 := hid (show xs2.length = xs.length + (eI u).length by rw [← hx2, List.length_append]); clear hx2)
      | (go_at_call 115; (with_reducible refine (pI m HFm.out _).mono ?_); rintro e y6 ⟨D6, d6, rfl, hs, ho, hb⟩; have S6 := hid hs; have O6 := hid (own_below OW5.out hb); have R6 := hid (BR5.out.trans (hb.mono BR5.out.size)); clear t1; clear hs ho hb)
      | (at_builtin; (with_reducible refine Cd.app_bytes rfl (.tmp 50) (.tmp 53) ?_ _ (xs2) ?_ O6.out R6.out.size D6 _ d6 (eI m) ?_ S6.out ?_ ?_); (rfl); (rfl); (rfl); (have q1 := HXB.out; have q2 := (show xs2.length + (eI m).length ≤ 900000 by have r0 := HL2.out; have r1 := (eI_bd HFu.out).2; have r2 := (eI_bd HFm.out).2; have r3 := HXB.out; omega); (try simp only [List.length_append]); omega); intro v7 w7 ho hb; obtain ⟨A7, c7, rfl⟩ := Cd.own_shape ho; have OW7 := hid ho; have BR7 := hid (R6.out.trans hb); have Q7 := hid hb; clear ho hb; generalize hx3 : xs2 ++ eI m = xs3 at OW7 ⊢; have HX3 := hid hx3; clear hx3)
      | fail)
     go_roundw
     case rel => exact ⟨k + 1, A7, c7, by omega, by go_num, by rw [HXn.out, HX2.out, HX3.out], hid (by rw [HXn.out, HX2.out, HX3.out]; exact OW7.out), BR7⟩
     case measure => simp [intOf]; omega
    ·have hltz : ¬ (k : Int) < (ks.length : Int) := by omega
     have hke : k = ks.length := by omega
     subst hke
     have HPY := hid (X2_len HPX.out HFK.out hlk ks.length)
     generalize hPY : X2 PX ks ks.length = PY at OW HPY HXA
     have XW := hid (XA.out.at_ BR.out XL.out)
     clear hk hlt
     go_wp2_with (first
      | (refine wpList_load_mid rfl 28 _ rfl w.heap.size 0 rfl [.slice uA us.length uC, .slice kA ks.length kC, .int .i64 d, .int .i64 x3, .int .i64 x4, .int .i64 x5, .int .i64 x6, .int .i64 x7, .int .i64 x8] _ XW.out.range Tryz.underlying28 rfl size27 ?_)
      | (go_at_call 184; (with_reducible refine (HN.out _).mono ?_); rintro e y5 ⟨rfl, hb⟩; have O10 := hid (own_below OW.out hb); have R10 := hid (BR.out.trans (hb.mono BR.out.size)); clear hb)
      | fail)
     go_loopw [58, 3] (fun s v wr => ∃ (k : Nat) (A : Option Addr) (c : Nat), k ≤ 7 ∧ s = .int .i64 (k : Int) ∧ v = .slice A (X3 PY (nmL d x3 x4 x5 x6 x7 x8) k).length c ∧ Hid (Cd.Own wr W0.heap.size (.slice A (X3 PY (nmL d x3 x4 x5 x6 x7 x8) k).length c) (X3 PY (nmL d x3 x4 x5 x6 x7 x8) k)) ∧ Hid (Below W0.heap.size W0 wr)) (fun s _ _ => 7 - (intOf s).toNat)
     case atStart => exact ⟨0, A, c, Nat.zero_le _, rfl, by unfold X3; rw [List.take_zero, show encN [] = [] from rfl, List.append_nil], hid (by unfold X3; rw [List.take_zero, show encN [] = [] from rfl, List.append_nil]; exact O10.out), R10⟩
     case round =>
      clear OW BR BW hPY O10 R10 XW
      clear hltz
      obtain ⟨k, A, c, hk, rfl, rfl, OW, BR⟩ := hrel
      by_cases hlt : k < 7
      ·have hltz : (k : Int) < 7 := by omega
       have hk0 : (0 : Int) ≤ (k : Int) := by omega
       have ix := ix63 d x3 x4 x5 x6 x7 x8 k hlt
       have HXn := hid (X3_succ (xs := PY) (us := nmL d x3 x4 x5 x6 x7 x8) hlt)
       have HXB := hid (X3_len HPY.out HFN.out rfl k)
       have hfm : i64B ((nmL d x3 x4 x5 x6 x7 x8).getD k 0) := HFN.out _ (by rw [List.getD_eq_getElem?_getD, List.getElem?_eq_getElem (show k < (nmL d x3 x4 x5 x6 x7 x8).length from hlt)]; exact List.getElem_mem _)
       rw [show [d, x3, x4, x5, x6, x7, x8] = nmL d x3 x4 x5 x6 x7 x8 from rfl] at ix
       generalize (nmL d x3 x4 x5 x6 x7 x8).getD k 0 = m at ix HXn hfm
       have HFm := hid hfm
       clear hfm
       generalize hxx : X3 PY (nmL d x3 x4 x5 x6 x7 x8) k = xs at OW HXn HXB
       go_wp2_with (first
        | (go_at_call 115; (with_reducible refine (pI m HFm.out _).mono ?_); rintro e y11 ⟨D11, d11, rfl, hs, ho, hb⟩; have S11 := hid hs; have O11 := hid (own_below OW.out hb); have R11 := hid (BR.out.trans (hb.mono BR.out.size)); clear hs ho hb)
        | (at_builtin; (with_reducible refine Cd.app_bytes rfl (.tmp 61) (.tmp 63) ?_ _ (xs) ?_ O11.out R11.out.size D11 _ d11 (eI m) ?_ S11.out ?_ ?_); (rfl); (rfl); (rfl); (have q1 := HXB.out; have q2 := (eI_bd HFm.out).2; (try simp only [List.length_append]); omega); intro v12 w12 ho hb; obtain ⟨A12, c12, rfl⟩ := Cd.own_shape ho; have OW12 := hid ho; have BR12 := hid (R11.out.trans hb); have Q12 := hid hb; clear ho hb; generalize hx3 : xs ++ eI m = xs3 at OW12 ⊢; have HX3 := hid hx3; clear hx3)
        | fail)
       go_roundw
       case rel => exact ⟨k + 1, A12, c12, by omega, by go_num, by rw [HXn.out, HX3.out], hid (by rw [HXn.out, HX3.out]; exact OW12.out), BR12⟩
       case measure => simp [intOf]; omega
      ·have hltz : ¬ (k : Int) < 7 := by omega
       have hke : k = 7 := by omega
       subst hke
       generalize X3 PY (nmL d x3 x4 x5 x6 x7 x8) 7 = xs at OW HXA
       have e := HXA.out
       subst e
       go_wp2
       go_ret
       exact ⟨A, c, rfl, own_sl OW.out HEN.out rfl, own_low OW.out BA.out.size, BA.out.trans (BR.out.mono BA.out.size)⟩
end Go.Proofs.YtablocpcgknmaaaGreatDoor
