/- Encoding of a content. Bounds: SmE. No condition. -/
import Derived.Test.YtablocpcgknmaaaGreatDoorRK24
namespace Go.Proofs.YtablocpcgknmaaaGreatDoor
open Go.Lib (hid)
open Go Go.RowKit
set_option linter.unusedVariables false
set_option linter.unusedSimpArgs false
set_option maxRecDepth 100000

/-- A small content. -/
structure SmE (C : Cn) : Prop where
 tx : C.tx.size ≤ 1000
 via : C.via.size ≤ 1000
 al : C.al.length ≤ 200
 al2 : ∀ s ∈ C.al, s.size ≤ 1000
 dn : C.dn.length ≤ 200
 dn2 : ∀ s ∈ C.dn, s.size ≤ 1000
 lv : SmL C.us C.ks
def encC (C : Cn) : List Int := (((((((Cd.ent C.tx ++ eI C.n) ++ eI C.tg) ++ [if C.th then (1 : Int) else 0]) ++ Cd.ent C.via) ++ (eI C.al.length ++ Cd.ents C.al)) ++ (eI C.dn.length ++ Cd.ents C.dn)) ++ encL C.us C.ks (nmL C.d C.x3 C.x4 C.x5 C.x6 C.x7 C.x8))
theorem nm_bd {d x3 x4 x5 x6 x7 x8 : Int} (q : i64B d ∧ i64B x3 ∧ i64B x4 ∧ i64B x5 ∧ i64B x6 ∧ i64B x7 ∧ i64B x8) : ∀ p ∈ nmL d x3 x4 x5 x6 x7 x8, i64B p := by
 intro p hp
 simp only [nmL, List.mem_cons, List.not_mem_nil, or_false] at hp
 rcases hp with rfl | rfl | rfl | rfl | rfl | rfl | rfl
 ·exact q.1
 ·exact q.2.1
 ·exact q.2.2.1
 ·exact q.2.2.2.1
 ·exact q.2.2.2.2.1
 ·exact q.2.2.2.2.2.1
 ·exact q.2.2.2.2.2.2
theorem encL_len {us : List (ByteArray × Int)} {ks : List (Int × Int)} {ns : List Int} (hu : ∀ p ∈ us, p.1.size ≤ 1000 ∧ i64B p.2) (hk : ∀ p ∈ ks, i64B p.1 ∧ i64B p.2) (hn : ∀ p ∈ ns, i64B p) (lu : us.length ≤ 200) (lk : ks.length ≤ 200) (ln : ns.length = 7) : (encL us ks ns).length ≤ 209100 := by
 rw [← X_all us ks ns ln]
 exact X3_len (X2_len (X1_len hu lu _) hk lk _) hn ln _
theorem ents_len {l : List ByteArray} (h : ∀ s ∈ l, s.size ≤ 1000) : (Cd.ents l).length ≤ 1011 * l.length := by
 induction l with
 | nil => simp [Cd.ents]
 | cons s r ih =>
  have h1 := ih (fun q hq => h q (List.mem_cons_of_mem _ hq))
  have h2 := (ent_bd2 (h s List.mem_cons_self)).2
  rw [Cd.ents_cons, List.length_append, List.length_cons]
  omega
theorem pTs_len {l : List ByteArray} (hl : l.length ≤ 200) (h : ∀ s ∈ l, s.size ≤ 1000) : (eI l.length ++ Cd.ents l).length ≤ 202300 := by
 have h1 := ents_len h
 have h2 := (eI_bd (len64 (show l.length ≤ 1000000 by omega))).2
 rw [List.length_append]
 omega
theorem pTs_bd {l : List ByteArray} (hl : l.length ≤ 200) (h : ∀ s ∈ l, s.size ≤ 1000) : ∀ z ∈ eI l.length ++ Cd.ents l, 0 ≤ z ∧ z ≤ 255 := by
 intro z hz
 rcases List.mem_append.1 hz with hz | hz
 ·exact (eI_bd (len64 (show l.length ≤ 1000000 by omega))).1 z hz
 ·exact Cd.ents_bd (fun s hs => show Cd.Small s by have := h s hs; unfold Cd.Small; omega) z hz
theorem Txs.ts {w : World} {A : Option Addr} {n c : Nat} {zs : List ByteArray} (h : Txs w A n c zs) (hs : ∀ s ∈ zs, s.size ≤ 1000) : Cd.Ts w A n c zs := by
 refine ⟨h.len, fun s hz => show Cd.Small s by have := hs s hz; unfold Cd.Small; omega, h.cap, fun e => (h.rws.nil e).2, fun h0 => ?_⟩
 rcases h.rws.at_ with h1 | ⟨b, off, e, hlt, hc⟩
 ·omega
 ·exact ⟨b, off, e, hlt, fun i hi => by have := hc i hi 0 _ rfl; rw [Nat.mul_one, Nat.add_zero] at this; exact this⟩
theorem pTs {A : Option Addr} {c : Nat} (l : List ByteArray) (hl : l.length ≤ 200) (h : ∀ s ∈ l, s.size ≤ 1000) (w : World) (ht : Txs w A l.length c l) : Calls Tryz.prog 117 #[.slice none 0 0, .slice A l.length c] w (SlP w (eI l.length ++ Cd.ents l)) := by
 refine (Cd.putTexts_any none 0 0 [] A l.length c l (by omega) (by omega) (by have := ents_len h; omega) w (Cd.Sl.empty w none 0 (fun _ => rfl)) (ht.ts h)).mono ?_
 rintro e w' ⟨A', c', rfl, ho, hb⟩
 exact ⟨A', c', rfl, own_sl ho (pTs_bd hl h) rfl, ho, hb⟩
theorem encC_bd {w : World} {C : Cn} {a : Ads} (hc : IsC w C a) (hs : SmE C) : ∀ z ∈ encC C, 0 ≤ z ∧ z ≤ 255 := by
 intro z hz
 unfold encC at hz
 simp only [List.mem_append, or_assoc] at hz
 rcases hz with hz | hz | hz | hz | hz | hz | hz | hz | hz | hz
 ·exact (ent_bd2 hs.tx).1 z hz
 ·exact (eI_bd hc.n).1 z hz
 ·exact (eI_bd hc.tg).1 z hz
 ·cases C.th <;> simp at hz <;> omega
 ·exact (ent_bd2 hs.via).1 z hz
 ·exact pTs_bd hs.al hs.al2 z (List.mem_append_left _ hz)
 ·exact pTs_bd hs.al hs.al2 z (List.mem_append_right _ hz)
 ·exact pTs_bd hs.dn hs.dn2 z (List.mem_append_left _ hz)
 ·exact pTs_bd hs.dn hs.dn2 z (List.mem_append_right _ hz)
 ·exact encL_bd (fun p hp => ⟨hs.lv.nm p hp, (hc.lv.fu p hp).2⟩) hc.lv.fk (nm_bd hc.lv.nm) hs.lv.lu hs.lv.lk z hz
set_option maxHeartbeats 16000000 in
theorem encode29 (C : Cn) (a : Ads) (w : World) (hc : IsC w C a) (hs : SmE C) : Calls Tryz.prog 50 #[.agg (ccs C a).toArray] w (SlP w (encC C)) := by
 unfold SlP
 have HEN := hid (encC_bd hc hs)
 obtain ⟨tx, n, tg, th, via, al, dn, us, ks, d, x3, x4, x5, x6, x7, x8⟩ := C
 obtain ⟨aA, aC, dA, dC, uA, uC, kA, kC⟩ := a
 have HR := hid (show encC ⟨tx, n, tg, th, via, al, dn, us, ks, d, x3, x4, x5, x6, x7, x8⟩ = (((((((Cd.ent tx ++ eI n) ++ eI tg) ++ [if th then (1 : Int) else 0]) ++ Cd.ent via) ++ (eI al.length ++ Cd.ents al)) ++ (eI dn.length ++ Cd.ents dn)) ++ encL us ks (nmL d x3 x4 x5 x6 x7 x8)) from rfl)
 generalize encC ⟨tx, n, tg, th, via, al, dn, us, ks, d, x3, x4, x5, x6, x7, x8⟩ = r at HR HEN ⊢
 have BA := hid ((Below.refl w.heap.size w).alloc (Nat.le_refl _) (.cells #[.string tx, .int .i64 n, .int .i64 tg, .bool th, .string via, .slice aA al.length aC, .slice dA dn.length dC, .slice uA us.length uC, .slice kA ks.length kC, .int .i64 d, .int .i64 x3, .int .i64 x4, .int .i64 x5, .int .i64 x6, .int .i64 x7, .int .i64 x8] 30))
 have XA := hid (blk_new w [.string tx, .int .i64 n, .int .i64 tg, .bool th, .string via, .slice aA al.length aC, .slice dA dn.length dC, .slice uA us.length uC, .slice kA ks.length kC, .int .i64 d, .int .i64 x3, .int .i64 x4, .int .i64 x5, .int .i64 x6, .int .i64 x7, .int .i64 x8] 30)
 generalize hW : w.alloc (.cells #[.string tx, .int .i64 n, .int .i64 tg, .bool th, .string via, .slice aA al.length aC, .slice dA dn.length dC, .slice uA us.length uC, .slice kA ks.length kC, .int .i64 d, .int .i64 x3, .int .i64 x4, .int .i64 x5, .int .i64 x6, .int .i64 x7, .int .i64 x8] 30) = W0 at BA XA
 have H0 := hid (fun y (hb : Below W0.heap.size W0 y) => show Calls Tryz.prog 114 #[.slice none 0 0, .string tx] y (SlP y (Cd.ent tx)) from pT tx hs.tx y)
 have l0 : (Cd.ent tx).length ≤ 1011 := (ent_bd2 hs.tx).2
 have H1 := hid (fun y (hb : Below W0.heap.size W0 y) => show Calls Tryz.prog 115 #[.slice none 0 0, .int .i64 n] y (SlP y (eI n)) from pI n hc.n y)
 have l1 : (eI n).length ≤ 11 := (eI_bd hc.n).2
 have H2 := hid (fun y (hb : Below W0.heap.size W0 y) => show Calls Tryz.prog 115 #[.slice none 0 0, .int .i64 tg] y (SlP y (eI tg)) from pI tg hc.tg y)
 have l2 : (eI tg).length ≤ 11 := (eI_bd hc.tg).2
 have H3 := hid (fun y (hb : Below W0.heap.size W0 y) => show Calls Tryz.prog 116 #[.slice none 0 0, .bool th] y (SlP y ([if th then (1 : Int) else 0])) from pB th y)
 have l3 : ([if th then (1 : Int) else 0]).length ≤ 1 := by simp
 have H4 := hid (fun y (hb : Below W0.heap.size W0 y) => show Calls Tryz.prog 114 #[.slice none 0 0, .string via] y (SlP y (Cd.ent via)) from pT via hs.via y)
 have l4 : (Cd.ent via).length ≤ 1011 := (ent_bd2 hs.via).2
 have H5 := hid (fun y (hb : Below W0.heap.size W0 y) => show Calls Tryz.prog 117 #[.slice none 0 0, .slice aA al.length aC] y (SlP y ((eI al.length ++ Cd.ents al))) from pTs al hs.al hs.al2 y ((hc.al.below BA.out).below hb))
 have l5 : ((eI al.length ++ Cd.ents al)).length ≤ 202300 := pTs_len hs.al hs.al2
 have H6 := hid (fun y (hb : Below W0.heap.size W0 y) => show Calls Tryz.prog 117 #[.slice none 0 0, .slice dA dn.length dC] y (SlP y ((eI dn.length ++ Cd.ents dn))) from pTs dn hs.dn hs.dn2 y ((hc.dn.below BA.out).below hb))
 have l6 : ((eI dn.length ++ Cd.ents dn)).length ≤ 202300 := pTs_len hs.dn hs.dn2
 have H7 := hid (fun y (hb : Below W0.heap.size W0 y) => show Calls Tryz.prog 118 #[.agg #[.slice uA us.length uC, .slice kA ks.length kC, .int .i64 d, .int .i64 x3, .int .i64 x4, .int .i64 x5, .int .i64 x6, .int .i64 x7, .int .i64 x8]] y (SlP y (encL us ks (nmL d x3 x4 x5 x6 x7 x8))) from encode62 us ks d x3 x4 x5 x6 x7 x8 uA uC kA kC y ((hc.lv.below BA.out).below hb) hs.lv)
 have l7 : (encL us ks (nmL d x3 x4 x5 x6 x7 x8)).length ≤ 209100 := encL_len (fun p hp => ⟨hs.lv.nm p hp, (hc.lv.fu p hp).2⟩) hc.lv.fk (nm_bd hc.lv.nm) hs.lv.lu hs.lv.lk rfl
 generalize Cd.ent tx = p0 at H0 HR l0
 generalize eI n = p1 at H1 HR l1
 generalize eI tg = p2 at H2 HR l2
 generalize [if th then (1 : Int) else 0] = p3 at H3 HR l3
 generalize Cd.ent via = p4 at H4 HR l4
 generalize (eI al.length ++ Cd.ents al) = p5 at H5 HR l5
 generalize (eI dn.length ++ Cd.ents dn) = p6 at H6 HR l6
 generalize encL us ks (nmL d x3 x4 x5 x6 x7 x8) = p7 at H7 HR l7
 have XL := hid XA.out.lt
 have c0 := XA.out.cell (i := 0) rfl
 clear hc hs
 show Calls Tryz.prog 50 #[.agg #[.string tx, .int .i64 n, .int .i64 tg, .bool th, .string via, .slice aA al.length aC, .slice dA dn.length dC, .slice uA us.length uC, .slice kA ks.length kC, .int .i64 d, .int .i64 x3, .int .i64 x4, .int .i64 x5, .int .i64 x6, .int .i64 x7, .int .i64 x8]] w _
 go_enter Tryz.func50, Tryz.ntmps50
 go_wp2_with (first
  | (go_at_call 114; (with_reducible refine (H0.out _ (Below.refl _ _)).mono ?_); rintro e y0 ⟨D0, d0, rfl, hs, ho, hb⟩; have OW0 := hid ho; have BR0 := hid hb; clear hs ho hb c0; have c1 := (XA.out.at_ BR0.out XL.out).cell (i := 1) rfl)
  | (go_at_call 115; (with_reducible refine (H1.out _ BR0.out).mono ?_); rintro e y1 ⟨D1, d1, rfl, hs, ho, hb⟩; have S1 := hid hs; have O1 := hid (own_below OW0.out hb); have R1 := hid (BR0.out.trans (hb.mono BR0.out.size)); clear hs ho hb c1)
  | (at_builtin; (with_reducible refine Cd.app_bytes rfl (.tmp 7) (.tmp 10) ?_ _ p0 ?_ O1.out R1.out.size D1 _ d1 p1 ?_ S1.out ?_ ?_); (rfl); (rfl); (rfl); (omega); intro v1 w1 ho hb; obtain ⟨A1, a1, rfl⟩ := Cd.own_shape ho; have OW1 := hid ho; have BR1 := hid (R1.out.trans hb); clear ho hb; generalize hx : p0 ++ p1 = xs1 at OW1 ⊢; have HX1 := hid hx; have M1 := hid (show xs1.length = p0.length + p1.length by rw [← hx]; exact List.length_append); clear hx; have c2 := (XA.out.at_ BR1.out XL.out).cell (i := 2) rfl)
  | (go_at_call 115; (with_reducible refine (H2.out _ BR1.out).mono ?_); rintro e y2 ⟨D2, d2, rfl, hs, ho, hb⟩; have S2 := hid hs; have O2 := hid (own_below OW1.out hb); have R2 := hid (BR1.out.trans (hb.mono BR1.out.size)); clear hs ho hb c2)
  | (at_builtin; (with_reducible refine Cd.app_bytes rfl (.tmp 12) (.tmp 15) ?_ _ xs1 ?_ O2.out R2.out.size D2 _ d2 p2 ?_ S2.out ?_ ?_); (rfl); (rfl); (rfl); (have u1 := M1.out; omega); intro v2 w2 ho hb; obtain ⟨A2, a2, rfl⟩ := Cd.own_shape ho; have OW2 := hid ho; have BR2 := hid (R2.out.trans hb); clear ho hb; generalize hx : xs1 ++ p2 = xs2 at OW2 ⊢; have HX2 := hid hx; have M2 := hid (show xs2.length = xs1.length + p2.length by rw [← hx]; exact List.length_append); clear hx; have c3 := (XA.out.at_ BR2.out XL.out).cell (i := 3) rfl)
  | (go_at_call 116; (with_reducible refine (H3.out _ BR2.out).mono ?_); rintro e y3 ⟨D3, d3, rfl, hs, ho, hb⟩; have S3 := hid hs; have O3 := hid (own_below OW2.out hb); have R3 := hid (BR2.out.trans (hb.mono BR2.out.size)); clear hs ho hb c3)
  | (at_builtin; (with_reducible refine Cd.app_bytes rfl (.tmp 17) (.tmp 20) ?_ _ xs2 ?_ O3.out R3.out.size D3 _ d3 p3 ?_ S3.out ?_ ?_); (rfl); (rfl); (rfl); (have u1 := M1.out; have u2 := M2.out; omega); intro v3 w3 ho hb; obtain ⟨A3, a3, rfl⟩ := Cd.own_shape ho; have OW3 := hid ho; have BR3 := hid (R3.out.trans hb); clear ho hb; generalize hx : xs2 ++ p3 = xs3 at OW3 ⊢; have HX3 := hid hx; have M3 := hid (show xs3.length = xs2.length + p3.length by rw [← hx]; exact List.length_append); clear hx; have c4 := (XA.out.at_ BR3.out XL.out).cell (i := 4) rfl)
  | (go_at_call 114; (with_reducible refine (H4.out _ BR3.out).mono ?_); rintro e y4 ⟨D4, d4, rfl, hs, ho, hb⟩; have S4 := hid hs; have O4 := hid (own_below OW3.out hb); have R4 := hid (BR3.out.trans (hb.mono BR3.out.size)); clear hs ho hb c4)
  | (at_builtin; (with_reducible refine Cd.app_bytes rfl (.tmp 22) (.tmp 25) ?_ _ xs3 ?_ O4.out R4.out.size D4 _ d4 p4 ?_ S4.out ?_ ?_); (rfl); (rfl); (rfl); (have u1 := M1.out; have u2 := M2.out; have u3 := M3.out; omega); intro v4 w4 ho hb; obtain ⟨A4, a4, rfl⟩ := Cd.own_shape ho; have OW4 := hid ho; have BR4 := hid (R4.out.trans hb); clear ho hb; generalize hx : xs3 ++ p4 = xs4 at OW4 ⊢; have HX4 := hid hx; have M4 := hid (show xs4.length = xs3.length + p4.length by rw [← hx]; exact List.length_append); clear hx; have c5 := (XA.out.at_ BR4.out XL.out).cell (i := 5) rfl)
  | (go_at_call 117; (with_reducible refine (H5.out _ BR4.out).mono ?_); rintro e y5 ⟨D5, d5, rfl, hs, ho, hb⟩; have S5 := hid hs; have O5 := hid (own_below OW4.out hb); have R5 := hid (BR4.out.trans (hb.mono BR4.out.size)); clear hs ho hb c5)
  | (at_builtin; (with_reducible refine Cd.app_bytes rfl (.tmp 27) (.tmp 30) ?_ _ xs4 ?_ O5.out R5.out.size D5 _ d5 p5 ?_ S5.out ?_ ?_); (rfl); (rfl); (rfl); (have u1 := M1.out; have u2 := M2.out; have u3 := M3.out; have u4 := M4.out; omega); intro v5 w5 ho hb; obtain ⟨A5, a5, rfl⟩ := Cd.own_shape ho; have OW5 := hid ho; have BR5 := hid (R5.out.trans hb); clear ho hb; generalize hx : xs4 ++ p5 = xs5 at OW5 ⊢; have HX5 := hid hx; have M5 := hid (show xs5.length = xs4.length + p5.length by rw [← hx]; exact List.length_append); clear hx; have c6 := (XA.out.at_ BR5.out XL.out).cell (i := 6) rfl)
  | (go_at_call 117; (with_reducible refine (H6.out _ BR5.out).mono ?_); rintro e y6 ⟨D6, d6, rfl, hs, ho, hb⟩; have S6 := hid hs; have O6 := hid (own_below OW5.out hb); have R6 := hid (BR5.out.trans (hb.mono BR5.out.size)); clear hs ho hb c6)
  | (at_builtin; (with_reducible refine Cd.app_bytes rfl (.tmp 32) (.tmp 35) ?_ _ xs5 ?_ O6.out R6.out.size D6 _ d6 p6 ?_ S6.out ?_ ?_); (rfl); (rfl); (rfl); (have u1 := M1.out; have u2 := M2.out; have u3 := M3.out; have u4 := M4.out; have u5 := M5.out; omega); intro v6 w6 ho hb; obtain ⟨A6, a6, rfl⟩ := Cd.own_shape ho; have OW6 := hid ho; have BR6 := hid (R6.out.trans hb); clear ho hb; generalize hx : xs5 ++ p6 = xs6 at OW6 ⊢; have HX6 := hid hx; have M6 := hid (show xs6.length = xs5.length + p6.length by rw [← hx]; exact List.length_append); clear hx; have XW := hid (XA.out.at_ BR6.out XL.out))
  | (go_at_call 118; (with_reducible refine (H7.out _ BR6.out).mono ?_); rintro e y7 ⟨D7, d7, rfl, hs, ho, hb⟩; have S7 := hid hs; have O7 := hid (own_below OW6.out hb); have R7 := hid (BR6.out.trans (hb.mono BR6.out.size)); clear hs ho hb)
  | (at_builtin; (with_reducible refine Cd.app_bytes rfl (.tmp 37) (.tmp 40) ?_ _ xs6 ?_ O7.out R7.out.size D7 _ d7 p7 ?_ S7.out ?_ ?_); (rfl); (rfl); (rfl); (have u1 := M1.out; have u2 := M2.out; have u3 := M3.out; have u4 := M4.out; have u5 := M5.out; have u6 := M6.out; omega); intro v7 w7 ho hb; obtain ⟨A7, a7, rfl⟩ := Cd.own_shape ho; have OW7 := hid ho; have BR7 := hid (R7.out.trans hb); clear ho hb; generalize hx : xs6 ++ p7 = xs7 at OW7 ⊢; have HX7 := hid hx; have M7 := hid (show xs7.length = xs6.length + p7.length by rw [← hx]; exact List.length_append); clear hx)
  | (refine wpList_load_mid rfl 28 _ rfl w.heap.size 7 rfl [.slice uA us.length uC, .slice kA ks.length kC, .int .i64 d, .int .i64 x3, .int .i64 x4, .int .i64 x5, .int .i64 x6, .int .i64 x7, .int .i64 x8] _ (XW.out.mid 7 9) Tryz.underlying28 rfl size27 ?_)
  | fail)
 go_ret
 have e : r = xs7 := HR.out.trans (by rw [HX1.out, HX2.out, HX3.out, HX4.out, HX5.out, HX6.out, HX7.out])
 subst e
 exact ⟨A7, a7, rfl, own_sl OW7.out HEN.out rfl, own_low OW7.out BA.out.size, BA.out.trans (BR7.out.mono BA.out.size)⟩
end Go.Proofs.YtablocpcgknmaaaGreatDoor
