/- The reference's encoding of a content. Bounds: SmE. No condition. -/
import Derived.Test.YtablocpcgknmaaaGreatDoorRK25
namespace Go.Proofs.YtablocpcgknmaaaGreatDoor
open Go.Lib (hid)
open Go Go.RowKit
set_option linter.unusedVariables false
set_option linter.unusedSimpArgs false
set_option maxRecDepth 100000

/-- A function gave these bytes. -/
def SlR (w : World) (zs : List Int) (e : Ending) (w' : World) : Prop := ∃ A c, e = .returned (.slice A zs.length c) ∧ Cd.Sl w' A zs.length c zs ∧ Below w.heap.size w w'
theorem app_bd {xs ys : List Int} (h1 : ∀ z ∈ xs, 0 ≤ z ∧ z ≤ 255) (h2 : ∀ z ∈ ys, 0 ≤ z ∧ z ≤ 255) : ∀ z ∈ xs ++ ys, 0 ≤ z ∧ z ≤ 255 := fun z hz => (List.mem_append.1 hz).elim (h1 z) (h2 z)
theorem rI (n : Int) (hn : i64B n) (w : World) (A : Option Addr) (c : Nat) (zs : List Int) (h : Cd.Sl w A zs.length c zs) (hl : zs.length ≤ 790000) : Calls Tryz.prog 79 #[.slice A zs.length c, .int .i64 n] w (SlP w (zs ++ eI n)) := by
 refine (Cd.rputInt_any A zs.length c zs n ((Cd.C.in64_iff n).2 hn) (by omega) w h).mono ?_
 rintro e w' ⟨A', c', rfl, ho, hb⟩
 exact ⟨A', c', rfl, own_sl ho (app_bd h.bd (eI_bd hn).1) rfl, ho, hb⟩
theorem rT (s : ByteArray) (hs : s.size ≤ 1000) (w : World) (A : Option Addr) (c : Nat) (zs : List Int) (h : Cd.Sl w A zs.length c zs) (hl : zs.length ≤ 790000) : Calls Tryz.prog 80 #[.slice A zs.length c, .string s] w (SlP w (zs ++ Cd.ent s)) := by
 refine (Cd.rputText_any A zs.length c zs s (show Cd.Small s by unfold Cd.Small; omega) (by omega) w h).mono ?_
 rintro e w' ⟨A', c', rfl, ho, hb⟩
 exact ⟨A', c', rfl, own_sl ho (app_bd h.bd (ent_bd2 hs).1) rfl, ho, hb⟩
theorem rT0 (s : ByteArray) (hs : s.size ≤ 1000) (w : World) : Calls Tryz.prog 80 #[.slice none 0 0, .string s] w (SlP w (Cd.ent s)) := rT s hs w none 0 [] (Cd.Sl.empty w none 0 (fun _ => rfl)) (by decide)
theorem rB (b : Bool) (w : World) (A : Option Addr) (c : Nat) (zs : List Int) (h : Cd.Sl w A zs.length c zs) (hl : zs.length ≤ 790000) : Calls Tryz.prog 81 #[.slice A zs.length c, .bool b] w (SlP w (zs ++ [if b then (1 : Int) else 0])) := by
 refine (Cd.rputBool_any A zs.length c zs b (by omega) w h).mono ?_
 rintro e w' ⟨A', c', rfl, ho, hb⟩
 exact ⟨A', c', rfl, own_sl ho (app_bd h.bd (by cases b <;> simp)) rfl, ho, hb⟩
theorem rTs {A2 : Option Addr} {c2 : Nat} (l : List ByteArray) (hl2 : l.length ≤ 200) (h2 : ∀ s ∈ l, s.size ≤ 1000) (w : World) (A : Option Addr) (c : Nat) (zs : List Int) (h : Cd.Sl w A zs.length c zs) (hl : zs.length ≤ 290000) (ht : Txs w A2 l.length c2 l) : Calls Tryz.prog 121 #[.slice A zs.length c, .slice A2 l.length c2] w (SlP w (zs ++ (eI l.length ++ Cd.ents l))) := by
 refine (Cd.rputTexts_any A zs.length c zs A2 l.length c2 l (by omega) (by omega) (by have := ents_len h2; omega) w h (ht.ts h2)).mono ?_
 rintro e w' ⟨A', c', rfl, ho, hb⟩
 have e : zs ++ Cd.C.enc (Cd.C.zig (l.length : Int)) ++ Cd.ents l = zs ++ (eI l.length ++ Cd.ents l) := List.append_assoc _ _ _
 rw [e] at ho ⊢
 exact ⟨A', c', rfl, own_sl ho (app_bd h.bd (pTs_bd hl2 h2)) rfl, ho, hb⟩
set_option maxHeartbeats 4000000 in
theorem rest77 (us : List (ByteArray × Int)) (ks : List (Int × Int)) (d x3 x4 x5 x6 x7 x8 : Int) (uA : Option Addr) (uC : Nat) (kA : Option Addr) (kC : Nat) (w : World) : Calls Tryz.prog 122 #[.agg #[.slice uA us.length uC, .slice kA ks.length kC, .int .i64 d, .int .i64 x3, .int .i64 x4, .int .i64 x5, .int .i64 x6, .int .i64 x7, .int .i64 x8]] w fun e w' => ∃ b, e = .returned (.slice (some ⟨b, 0, none⟩) 7 7) ∧ Blk w' b [.int .i64 d, .int .i64 x3, .int .i64 x4, .int .i64 x5, .int .i64 x6, .int .i64 x7, .int .i64 x8] 3 ∧ Below w.heap.size w w' := by
 have BA := hid (((Below.refl w.heap.size w).alloc (Nat.le_refl _) (.cells #[.slice uA us.length uC, .slice kA ks.length kC, .int .i64 d, .int .i64 x3, .int .i64 x4, .int .i64 x5, .int .i64 x6, .int .i64 x7, .int .i64 x8] 28)).alloc (by simp) (.cells #[.int .i64 d, .int .i64 x3, .int .i64 x4, .int .i64 x5, .int .i64 x6, .int .i64 x7, .int .i64 x8] 3))
 have X0 := hid (blk_new w [.slice uA us.length uC, .slice kA ks.length kC, .int .i64 d, .int .i64 x3, .int .i64 x4, .int .i64 x5, .int .i64 x6, .int .i64 x7, .int .i64 x8] 28)
 have Y0 := hid (blk_new2 w (.cells #[.slice uA us.length uC, .slice kA ks.length kC, .int .i64 d, .int .i64 x3, .int .i64 x4, .int .i64 x5, .int .i64 x6, .int .i64 x7, .int .i64 x8] 28) [.int .i64 d, .int .i64 x3, .int .i64 x4, .int .i64 x5, .int .i64 x6, .int .i64 x7, .int .i64 x8] 3)
 have c2 := X0.out.cell (i := 2) rfl
 have c3 := X0.out.cell (i := 3) rfl
 have c4 := X0.out.cell (i := 4) rfl
 have c5 := X0.out.cell (i := 5) rfl
 have c6 := X0.out.cell (i := 6) rfl
 have c7 := X0.out.cell (i := 7) rfl
 have c8 := X0.out.cell (i := 8) rfl
 go_enter Tryz.func122, Tryz.ntmps122
 go_wp2
 go_ret
 exact ⟨_, rfl, Y0.out, BA.out⟩
def Y1 (xs : List Int) (us : List (ByteArray × Int)) (k : Nat) : List Int := (xs ++ eI us.length) ++ encU (us.take k)
theorem Y1_succ {xs : List Int} {us : List (ByteArray × Int)} {k : Nat} (h : k < us.length) : Y1 xs us (k + 1) = (Y1 xs us k ++ Cd.ent (fU us k).1) ++ eI (fU us k).2 := by
 unfold Y1; rw [encU_succ h]; simp only [List.append_assoc]
theorem Y1_len {xs : List Int} {us : List (ByteArray × Int)} (hx : xs.length ≤ 410000) (h : ∀ p ∈ us, p.1.size ≤ 1000 ∧ i64B p.2) (hl : us.length ≤ 200) (k : Nat) : (Y1 xs us k).length ≤ 614500 := by
 unfold Y1
 have h1 := (encU_len (us := us.take k) (fun p hp => h p (List.mem_of_mem_take hp))).2
 have h2 := (eI_bd (len64 (show us.length ≤ 1000000 by omega))).2
 have h3 : (us.take k).length ≤ us.length := List.length_take_le' k us
 simp only [List.length_append]; omega
theorem Y2_len {xs : List Int} {ks : List (Int × Int)} (hx : xs.length ≤ 614500) (h : ∀ p ∈ ks, i64B p.1 ∧ i64B p.2) (hl : ks.length ≤ 200) (k : Nat) : (X2 xs ks k).length ≤ 619000 := by
 unfold X2
 have h1 := (encK_len (us := ks.take k) (fun p hp => h p (List.mem_of_mem_take hp))).2
 have h2 := (eI_bd (len64 (show ks.length ≤ 1000000 by omega))).2
 have h3 : (ks.take k).length ≤ ks.length := List.length_take_le' k ks
 simp only [List.length_append]; omega
theorem Y3_len {xs : List Int} {ns : List Int} (hx : xs.length ≤ 619000) (h : ∀ p ∈ ns, i64B p) (hl : ns.length = 7) (k : Nat) : (X3 xs ns k).length ≤ 619100 := by
 unfold X3
 have h1 := (encN_len (us := ns.take k) (fun p hp => h p (List.mem_of_mem_take hp))).2
 have h3 : (ns.take k).length ≤ ns.length := List.length_take_le' k ns
 simp only [List.length_append]; omega
theorem Y_all (xs : List Int) (us : List (ByteArray × Int)) (ks : List (Int × Int)) (ns : List Int) (h : ns.length = 7) : X3 (X2 (Y1 xs us us.length) ks ks.length) ns 7 = xs ++ encL us ks ns := by
 unfold X3 X2 Y1 encL
 rw [← h, List.take_length, List.take_length, List.take_length]
 simp only [List.append_assoc]
set_option maxHeartbeats 32000000 in
theorem rencode31 (C : Cn) (a : Ads) (w : World) (hc : IsC w C a) (hs : SmE C) : Calls Tryz.prog 52 #[.agg (ccs C a).toArray] w (SlR w (encC C)) := by
 unfold SlR
 have HEN := hid (encC_bd hc hs)
 obtain ⟨tx, n, tg, th, via, al, dn, us, ks, d, x3, x4, x5, x6, x7, x8⟩ := C
 obtain ⟨aA, aC, dA, dC, uA, uC, kA, kC⟩ := a
 have HR := hid (show encC ⟨tx, n, tg, th, via, al, dn, us, ks, d, x3, x4, x5, x6, x7, x8⟩ = (((((((Cd.ent tx ++ eI n) ++ eI tg) ++ [if th then (1 : Int) else 0]) ++ Cd.ent via) ++ (eI al.length ++ Cd.ents al)) ++ (eI dn.length ++ Cd.ents dn)) ++ encL us ks (nmL d x3 x4 x5 x6 x7 x8)) from rfl)
 generalize encC ⟨tx, n, tg, th, via, al, dn, us, ks, d, x3, x4, x5, x6, x7, x8⟩ = r at HR HEN ⊢
 have BA := hid ((Below.refl w.heap.size w).alloc (Nat.le_refl _) (.cells #[.string tx, .int .i64 n, .int .i64 tg, .bool th, .string via, .slice aA al.length aC, .slice dA dn.length dC, .slice uA us.length uC, .slice kA ks.length kC, .int .i64 d, .int .i64 x3, .int .i64 x4, .int .i64 x5, .int .i64 x6, .int .i64 x7, .int .i64 x8] 30))
 have XA := hid (blk_new w [.string tx, .int .i64 n, .int .i64 tg, .bool th, .string via, .slice aA al.length aC, .slice dA dn.length dC, .slice uA us.length uC, .slice kA ks.length kC, .int .i64 d, .int .i64 x3, .int .i64 x4, .int .i64 x5, .int .i64 x6, .int .i64 x7, .int .i64 x8] 30)
 generalize hW : w.alloc (.cells #[.string tx, .int .i64 n, .int .i64 tg, .bool th, .string via, .slice aA al.length aC, .slice dA dn.length dC, .slice uA us.length uC, .slice kA ks.length kC, .int .i64 d, .int .i64 x3, .int .i64 x4, .int .i64 x5, .int .i64 x6, .int .i64 x7, .int .i64 x8] 30) = W0 at BA XA
 have H0 := hid (fun y => show Calls Tryz.prog 80 #[.slice none 0 0, .string tx] y (SlP y (Cd.ent tx)) from rT0 tx hs.tx y)
 have l0 : (Cd.ent tx).length ≤ 1011 := (ent_bd2 hs.tx).2
 have H1 := hid (fun y A c zs (hS : Cd.Sl y A zs.length c zs) (hl : zs.length ≤ 790000) (hb : Below W0.heap.size W0 y) => show Calls Tryz.prog 79 #[.slice A zs.length c, .int .i64 n] y (SlP y (zs ++ eI n)) from rI n hc.n y A c zs hS hl)
 have l1 : (eI n).length ≤ 11 := (eI_bd hc.n).2
 have H2 := hid (fun y A c zs (hS : Cd.Sl y A zs.length c zs) (hl : zs.length ≤ 790000) (hb : Below W0.heap.size W0 y) => show Calls Tryz.prog 79 #[.slice A zs.length c, .int .i64 tg] y (SlP y (zs ++ eI tg)) from rI tg hc.tg y A c zs hS hl)
 have l2 : (eI tg).length ≤ 11 := (eI_bd hc.tg).2
 have H3 := hid (fun y A c zs (hS : Cd.Sl y A zs.length c zs) (hl : zs.length ≤ 790000) (hb : Below W0.heap.size W0 y) => show Calls Tryz.prog 81 #[.slice A zs.length c, .bool th] y (SlP y (zs ++ [if th then (1 : Int) else 0])) from rB th y A c zs hS hl)
 have l3 : ([if th then (1 : Int) else 0]).length ≤ 1 := by simp
 have H4 := hid (fun y A c zs (hS : Cd.Sl y A zs.length c zs) (hl : zs.length ≤ 790000) (hb : Below W0.heap.size W0 y) => show Calls Tryz.prog 80 #[.slice A zs.length c, .string via] y (SlP y (zs ++ Cd.ent via)) from rT via hs.via y A c zs hS hl)
 have l4 : (Cd.ent via).length ≤ 1011 := (ent_bd2 hs.via).2
 have H5 := hid (fun y A c zs (hS : Cd.Sl y A zs.length c zs) (hl : zs.length ≤ 290000) (hb : Below W0.heap.size W0 y) => show Calls Tryz.prog 121 #[.slice A zs.length c, .slice aA al.length aC] y (SlP y (zs ++ (eI al.length ++ Cd.ents al))) from rTs al hs.al hs.al2 y A c zs hS hl ((hc.al.below BA.out).below hb))
 have l5 : ((eI al.length ++ Cd.ents al)).length ≤ 202300 := pTs_len hs.al hs.al2
 have H6 := hid (fun y A c zs (hS : Cd.Sl y A zs.length c zs) (hl : zs.length ≤ 290000) (hb : Below W0.heap.size W0 y) => show Calls Tryz.prog 121 #[.slice A zs.length c, .slice dA dn.length dC] y (SlP y (zs ++ (eI dn.length ++ Cd.ents dn))) from rTs dn hs.dn hs.dn2 y A c zs hS hl ((hc.dn.below BA.out).below hb))
 have l6 : ((eI dn.length ++ Cd.ents dn)).length ≤ 202300 := pTs_len hs.dn hs.dn2
 generalize Cd.ent tx = p0 at H0 HR l0
 generalize eI n = p1 at H1 HR l1
 generalize eI tg = p2 at H2 HR l2
 generalize [if th then (1 : Int) else 0] = p3 at H3 HR l3
 generalize Cd.ent via = p4 at H4 HR l4
 generalize (eI al.length ++ Cd.ents al) = p5 at H5 HR l5
 generalize (eI dn.length ++ Cd.ents dn) = p6 at H6 HR l6
 have XL := hid XA.out.lt
 have c0 := XA.out.cell (i := 0) rfl
 have hlu := hs.lv.lu
 have hlk := hs.lv.lk
 have HFU := hid (show ∀ p ∈ us, p.1.size ≤ 1000 ∧ i64B p.2 from fun p hp => ⟨hs.lv.nm p hp, (hc.lv.fu p hp).2⟩)
 have HFK := hid hc.lv.fk
 have HFN := hid (nm_bd hc.lv.nm)
 have HU := hid hc.lv.us
 have HK := hid hc.lv.ks
 have HN := hid (fun y => rest77 us ks d x3 x4 x5 x6 x7 x8 uA uC kA kC y)
 dsimp only at hlu hlk HFK HFN HU HK
 clear hc hs
 show Calls Tryz.prog 52 #[.agg #[.string tx, .int .i64 n, .int .i64 tg, .bool th, .string via, .slice aA al.length aC, .slice dA dn.length dC, .slice uA us.length uC, .slice kA ks.length kC, .int .i64 d, .int .i64 x3, .int .i64 x4, .int .i64 x5, .int .i64 x6, .int .i64 x7, .int .i64 x8]] w _
 go_enter Tryz.func52, Tryz.ntmps52
 go_upto_region 11 with (first
  | (go_at_call 80; (with_reducible refine (H0.out _).mono ?_); rintro e y0 ⟨A0, a0, rfl, hs, ho, hb⟩; have S0 := hid hs; have BR0 := hid hb; clear hs ho hb c0; have c1 := (XA.out.at_ BR0.out XL.out).cell (i := 1) rfl)
  | (go_at_call 79; (with_reducible refine (H1.out _ A0 a0 p0 S0.out ?_ BR0.out).mono ?_); (omega); rintro e y1 ⟨A1, a1, rfl, hs, ho, hb⟩; have BR1 := hid (BR0.out.trans (hb.mono BR0.out.size)); clear ho hb c1; generalize hx : p0 ++ p1 = xs1 at hs ⊢; have S1 := hid hs; have HX1 := hid hx; have M1 := hid (show xs1.length = p0.length + p1.length by rw [← hx]; exact List.length_append); clear hx hs; have c2 := (XA.out.at_ BR1.out XL.out).cell (i := 2) rfl)
  | (go_at_call 79; (with_reducible refine (H2.out _ A1 a1 xs1 S1.out ?_ BR1.out).mono ?_); (have u1 := M1.out; omega); rintro e y2 ⟨A2, a2, rfl, hs, ho, hb⟩; have BR2 := hid (BR1.out.trans (hb.mono BR1.out.size)); clear ho hb c2; generalize hx : xs1 ++ p2 = xs2 at hs ⊢; have S2 := hid hs; have HX2 := hid hx; have M2 := hid (show xs2.length = xs1.length + p2.length by rw [← hx]; exact List.length_append); clear hx hs; have c3 := (XA.out.at_ BR2.out XL.out).cell (i := 3) rfl)
  | (go_at_call 81; (with_reducible refine (H3.out _ A2 a2 xs2 S2.out ?_ BR2.out).mono ?_); (have u1 := M1.out; have u2 := M2.out; omega); rintro e y3 ⟨A3, a3, rfl, hs, ho, hb⟩; have BR3 := hid (BR2.out.trans (hb.mono BR2.out.size)); clear ho hb c3; generalize hx : xs2 ++ p3 = xs3 at hs ⊢; have S3 := hid hs; have HX3 := hid hx; have M3 := hid (show xs3.length = xs2.length + p3.length by rw [← hx]; exact List.length_append); clear hx hs; have c4 := (XA.out.at_ BR3.out XL.out).cell (i := 4) rfl)
  | (go_at_call 80; (with_reducible refine (H4.out _ A3 a3 xs3 S3.out ?_ BR3.out).mono ?_); (have u1 := M1.out; have u2 := M2.out; have u3 := M3.out; omega); rintro e y4 ⟨A4, a4, rfl, hs, ho, hb⟩; have BR4 := hid (BR3.out.trans (hb.mono BR3.out.size)); clear ho hb c4; generalize hx : xs3 ++ p4 = xs4 at hs ⊢; have S4 := hid hs; have HX4 := hid hx; have M4 := hid (show xs4.length = xs3.length + p4.length by rw [← hx]; exact List.length_append); clear hx hs; have c5 := (XA.out.at_ BR4.out XL.out).cell (i := 5) rfl)
  | (go_at_call 121; (with_reducible refine (H5.out _ A4 a4 xs4 S4.out ?_ BR4.out).mono ?_); (have u1 := M1.out; have u2 := M2.out; have u3 := M3.out; have u4 := M4.out; omega); rintro e y5 ⟨A5, a5, rfl, hs, ho, hb⟩; have BR5 := hid (BR4.out.trans (hb.mono BR4.out.size)); clear ho hb c5; generalize hx : xs4 ++ p5 = xs5 at hs ⊢; have S5 := hid hs; have HX5 := hid hx; have M5 := hid (show xs5.length = xs4.length + p5.length by rw [← hx]; exact List.length_append); clear hx hs; have c6 := (XA.out.at_ BR5.out XL.out).cell (i := 6) rfl)
  | (go_at_call 121; (with_reducible refine (H6.out _ A5 a5 xs5 S5.out ?_ BR5.out).mono ?_); (have u1 := M1.out; have u2 := M2.out; have u3 := M3.out; have u4 := M4.out; have u5 := M5.out; omega); rintro e y6 ⟨A6, a6, rfl, hs, ho, hb⟩; have BR6 := hid (BR5.out.trans (hb.mono BR5.out.size)); clear ho hb c6; generalize hx : xs5 ++ p6 = xs6 at hs ⊢; have S6 := hid hs; have HX6 := hid hx; have M6 := hid (show xs6.length = xs5.length + p6.length by rw [← hx]; exact List.length_append); clear hx hs; have XW := hid (XA.out.at_ BR6.out XL.out); have HL6 := hid (show xs6.length ≤ 410000 by (have u1 := M1.out; have u2 := M2.out; have u3 := M3.out; have u4 := M4.out; have u5 := M5.out; have u6 := M6.out; omega)))
  | (refine wpList_load_mid rfl 28 _ rfl w.heap.size 7 rfl [.slice uA us.length uC, .slice kA ks.length kC, .int .i64 d, .int .i64 x3, .int .i64 x4, .int .i64 x5, .int .i64 x6, .int .i64 x7, .int .i64 x8] _ (XW.out.mid 7 9) Tryz.underlying28 rfl size27 ?_)
  | (refine store_as rfl 28 _ _ rfl [.slice none 0 0, .slice none 0 0, .int .i64 0, .int .i64 0, .int .i64 0, .int .i64 0, .int .i64 0, .int .i64 0, .int .i64 0] [.slice uA us.length uC, .slice kA ks.length kC, .int .i64 d, .int .i64 x3, .int .i64 x4, .int .i64 x5, .int .i64 x6, .int .i64 x7, .int .i64 x8] rfl rfl rfl size27 (by simp [Value.oneCell']) ?_; intro w8 hx hb; have L8 := hid hx; have BR8 := hid (BR6.out.trans (hb.mono BR6.out.size)); have S8 := hid (S6.out.below hb); clear hx hb; have z8 := L8.out.cell (i := 0) rfl)
  | (go_at_call 79; (with_reducible refine (rI us.length (len64 (by omega)) _ A6 a6 xs6 S8.out ?_).mono ?_); (have u0 := HL6.out; omega); rintro e y9 ⟨A9, a9, rfl, hs, ho, hb⟩; have B9 := hid hb; have S9 := hid hs; clear ho hb hs z8; have z9 := (L8.out.below B9.out).cell (i := 0) rfl)
  | (fail))
 have HE6 : Hid (r = xs6 ++ encL us ks (nmL d x3 x4 x5 x6 x7 x8)) := hid (HR.out.trans (by rw [HX1.out, HX2.out, HX3.out, HX4.out, HX5.out, HX6.out]))
 have HXA := hid ((Y_all xs6 us ks (nmL d x3 x4 x5 x6 x7 x8) rfl).trans HE6.out.symm)
 have BW8 := hid (BA.out.trans (BR8.out.mono BA.out.size))
 clear z9 H0 H1 H2 H3 H4 H5 H6 S0 S1 S2 S3 S4 S5 S6 S8 HX1 HX2 HX3 HX4 HX5 HX6 M1 M2 M3 M4 M5 M6 HR HE6 BR0 BR1 BR2 BR3 BR4 BR5 BR6 XW
 clear l0 l1 l2 l3 l4 l5 l6 hW XA XL BR8 BA
 go_loopw [5, 3] (fun s v wr => ∃ (k : Nat) (A : Option Addr) (c : Nat), k ≤ us.length ∧ s = .int .i64 (k : Int) ∧ v = .slice A (Y1 xs6 us k).length c ∧ Hid (Cd.Sl wr A (Y1 xs6 us k).length c (Y1 xs6 us k)) ∧ Hid (Below w8.heap.size w8 wr)) (fun s _ _ => us.length - (intOf s).toNat)
 case atStart => exact ⟨0, A9, a9, Nat.zero_le _, rfl, by unfold Y1; rw [List.take_zero, show encU [] = [] from rfl, List.append_nil, List.length_append], hid (by unfold Y1; rw [List.take_zero, show encU [] = [] from rfl, List.append_nil]; exact S9.out), B9⟩
 case round =>
  clear S9 B9
  obtain ⟨k, A, c, hk, rfl, rfl, SW, BR⟩ := hrel
  have BW := hid (BW8.out.trans (BR.out.mono BW8.out.size))
  by_cases hlt : k < us.length
  ·skip
   have hltz : (k : Int) < (us.length : Int) := by omega
   have hk0 : (0 : Int) ≤ (k : Int) := by omega
   obtain ⟨b1, o1, rfl, hb1, hr1⟩ := (HU.out.below BW.out).get hlt
   have HB1 := hid hb1
   have HXn := hid (Y1_succ (xs := xs6) hlt)
   have HXB := hid (Y1_len HL6.out HFU.out hlu k)
   have hmem := HFU.out (fU us k) (by rw [fU_at hlt]; exact List.getElem_mem hlt)
   have RG := hid (show World.rangeAt wr b1 (o1 + k * 2) (rowU (fU us) k) from hr1)
   unfold rowU at RG
   generalize fU us k = p at RG HXn hmem
   obtain ⟨u, m⟩ := p
   dsimp only at RG HXn hmem
   have HFu := hid hmem.1
   have HFm := hid hmem.2
   have z0 := (L8.out.below BR.out).cell (i := 0) rfl
   have x0 : wr.cell? ⟨b1, o1 + k * 2, none⟩ = some (.string u) := RG.out 0 _ rfl
   generalize hxx : Y1 xs6 us k = xs at SW HXn HXB
   clear hr1 hmem hb1
   go_wp2_with (first
    | (go_at_call 80; (with_reducible refine (rT u HFu.out _ A c xs SW.out ?_).mono ?_); (have u0 := HXB.out; omega); rintro e y4 ⟨A4, a4, rfl, hs, ho, hb⟩; have B4 := hid (BR.out.trans (hb.mono BR.out.size)); have RG4 := hid (rg_below RG.out HB1.out hb); generalize hx : xs ++ Cd.ent u = xs2 at hs ⊢; have S4 := hid hs; have HX2 := hid hx; have HL2 := hid (show xs2.length = xs.length + (Cd.ent u).length by rw [← hx]; exact List.length_append); clear hx hs ho hb x0 z0; have z0 := (L8.out.below B4.out).cell (i := 0) rfl; have x1 : y4.cell? ⟨b1, o1 + k * 2 + 1, none⟩ = _ := RG4.out 1 _ rfl)
    | (go_at_call 79; (with_reducible refine (rI m HFm.out _ A4 a4 xs2 S4.out ?_).mono ?_); (have u0 := HXB.out; have u1 := HL2.out; have u2 := (ent_bd2 HFu.out).2; omega); rintro e y5 ⟨A5, a5, rfl, hs, ho, hb⟩; have B5 := hid (B4.out.trans (hb.mono B4.out.size)); generalize hx : xs2 ++ eI m = xs3 at hs ⊢; have S5 := hid hs; have HX3 := hid hx; clear hx hs ho hb z0)
    | fail)
   go_roundw
   case rel => exact ⟨k + 1, A5, a5, by omega, by go_num, by rw [HXn.out, HX2.out, HX3.out], hid (by rw [HXn.out, HX2.out, HX3.out]; exact S5.out), B5⟩
   case measure => simp [intOf]; omega
  ·have hltz : ¬ (k : Int) < (us.length : Int) := by omega
   have hke : k = us.length := by omega
   subst hke
   have HPX := hid (Y1_len HL6.out HFU.out hlu us.length)
   generalize hPX : Y1 xs6 us us.length = PX at SW HPX HXA
   have z0 := (L8.out.below BR.out).cell (i := 0) rfl
   have z1 := (L8.out.below BR.out).cell (i := 1) rfl
   clear hk hlt
   go_upto_region 17 with (first
    | (go_at_call 79; (with_reducible refine (rI ks.length (len64 (by omega)) _ A c PX SW.out ?_).mono ?_); (have u0 := HPX.out; omega); rintro e y9 ⟨A9, a9, rfl, hs, ho, hb⟩; have B9 := hid (BR.out.trans (hb.mono BR.out.size)); have S9 := hid hs; clear ho hb hs z0 z1)
    | (fail))
   clear hltz
   go_loopw [6, 3] (fun s v wr => ∃ (k : Nat) (A : Option Addr) (c : Nat), k ≤ ks.length ∧ s = .int .i64 (k : Int) ∧ v = .slice A (X2 PX ks k).length c ∧ Hid (Cd.Sl wr A (X2 PX ks k).length c (X2 PX ks k)) ∧ Hid (Below w8.heap.size w8 wr)) (fun s _ _ => ks.length - (intOf s).toNat)
   case atStart => exact ⟨0, A9, a9, Nat.zero_le _, rfl, by unfold X2; rw [List.take_zero, show encK [] = [] from rfl, List.append_nil, List.length_append], hid (by unfold X2; rw [List.take_zero, show encK [] = [] from rfl, List.append_nil]; exact S9.out), B9⟩
   case round =>
    clear S9 B9 SW BR BW hPX
    obtain ⟨k, A, c, hk, rfl, rfl, SW, BR⟩ := hrel
    have BW := hid (BW8.out.trans (BR.out.mono BW8.out.size))
    by_cases hlt : k < ks.length
    ·skip
     have hltz : (k : Int) < (ks.length : Int) := by omega
     have hk0 : (0 : Int) ≤ (k : Int) := by omega
     obtain ⟨b1, o1, rfl, hb1, hr1⟩ := (HK.out.below BW.out).get hlt
     have HB1 := hid hb1
     have HXn := hid (X2_succ (xs := PX) hlt)
     have HXB := hid (Y2_len HPX.out HFK.out hlk k)
     have hmem := HFK.out (fK ks k) (by rw [fK_at hlt]; exact List.getElem_mem hlt)
     have RG := hid (show World.rangeAt wr b1 (o1 + k * 2) (rowK (fK ks) k) from hr1)
     unfold rowK at RG
     generalize fK ks k = p at RG HXn hmem
     obtain ⟨u, m⟩ := p
     dsimp only at RG HXn hmem
     have HFu := hid hmem.1
     have HFm := hid hmem.2
     have z0 := (L8.out.below BR.out).cell (i := 1) rfl
     have x0 : wr.cell? ⟨b1, o1 + k * 2, none⟩ = some (.int .i64 u) := RG.out 0 _ rfl
     generalize hxx : X2 PX ks k = xs at SW HXn HXB
     clear hr1 hmem hb1
     go_wp2_with (first
      | (go_at_call 79; (with_reducible refine (rI u HFu.out _ A c xs SW.out ?_).mono ?_); (have u0 := HXB.out; omega); rintro e y4 ⟨A4, a4, rfl, hs, ho, hb⟩; have B4 := hid (BR.out.trans (hb.mono BR.out.size)); have RG4 := hid (rg_below RG.out HB1.out hb); generalize hx : xs ++ eI u = xs2 at hs ⊢; have S4 := hid hs; have HX2 := hid hx; have HL2 := hid (show xs2.length = xs.length + (eI u).length by rw [← hx]; exact List.length_append); clear hx hs ho hb x0 z0; have z0 := (L8.out.below B4.out).cell (i := 1) rfl; have x1 : y4.cell? ⟨b1, o1 + k * 2 + 1, none⟩ = _ := RG4.out 1 _ rfl)
      | (go_at_call 79; (with_reducible refine (rI m HFm.out _ A4 a4 xs2 S4.out ?_).mono ?_); (have u0 := HXB.out; have u1 := HL2.out; have u2 := (eI_bd HFu.out).2; omega); rintro e y5 ⟨A5, a5, rfl, hs, ho, hb⟩; have B5 := hid (B4.out.trans (hb.mono B4.out.size)); generalize hx : xs2 ++ eI m = xs3 at hs ⊢; have S5 := hid hs; have HX3 := hid hx; clear hx hs ho hb z0)
      | fail)
     go_roundw
     case rel => exact ⟨k + 1, A5, a5, by omega, by go_num, by rw [HXn.out, HX2.out, HX3.out], hid (by rw [HXn.out, HX2.out, HX3.out]; exact S5.out), B5⟩
     case measure => simp [intOf]; omega
    ·have hltz : ¬ (k : Int) < (ks.length : Int) := by omega
     have hke : k = ks.length := by omega
     subst hke
     have HPY := hid (Y2_len HPX.out HFK.out hlk ks.length)
     generalize hPY : X2 PX ks ks.length = PY at SW HPY HXA
     have LW := hid (L8.out.below BR.out)
     have z1 := LW.out.cell (i := 1) rfl
     clear hk hlt
     go_upto_region 23 with (first
      | (refine wpList_load_mid rfl 28 _ rfl _ 0 rfl [.slice uA us.length uC, .slice kA ks.length kC, .int .i64 d, .int .i64 x3, .int .i64 x4, .int .i64 x5, .int .i64 x6, .int .i64 x7, .int .i64 x8] _ LW.out.range Tryz.underlying28 rfl size27 ?_)
      | (go_at_call 122; (with_reducible refine (HN.out _).mono ?_); rintro e y5 ⟨bn, rfl, hk, hb⟩; have BN := hid hk; have S10 := hid (SW.out.below hb); have R10 := hid (BR.out.trans (hb.mono BR.out.size)); clear hb hk)
      | (fail))
     have BW5 := hid (BW8.out.trans (R10.out.mono BW8.out.size))
     clear z1
     go_loopw [8, 3] (fun s v wr => ∃ (k : Nat) (A : Option Addr) (c : Nat), k ≤ 7 ∧ s = .int .i64 (k : Int) ∧ v = .slice A (X3 PY (nmL d x3 x4 x5 x6 x7 x8) k).length c ∧ Hid (Cd.Sl wr A (X3 PY (nmL d x3 x4 x5 x6 x7 x8) k).length c (X3 PY (nmL d x3 x4 x5 x6 x7 x8) k)) ∧ Hid (Below y5.heap.size y5 wr)) (fun s _ _ => 7 - (intOf s).toNat)
     case atStart => exact ⟨0, A, c, Nat.zero_le _, rfl, by unfold X3; rw [List.take_zero, show encN [] = [] from rfl, List.append_nil], hid (by unfold X3; rw [List.take_zero, show encN [] = [] from rfl, List.append_nil]; exact S10.out), hid (Below.refl _ _)⟩
     case round =>
      clear SW BR BW hPY S10 R10 LW
      clear hltz
      obtain ⟨k, A, c, hk, rfl, rfl, SW, BR⟩ := hrel
      by_cases hlt : k < 7
      ·have hltz : (k : Int) < 7 := by omega
       have hk0 : (0 : Int) ≤ (k : Int) := by omega
       have HXn := hid (X3_succ (xs := PY) (us := nmL d x3 x4 x5 x6 x7 x8) hlt)
       have HXB := hid (Y3_len HPY.out HFN.out rfl k)
       have x0 : wr.cell? ⟨bn, k, none⟩ = some (.int .i64 ((nmL d x3 x4 x5 x6 x7 x8).getD k 0)) := (BN.out.below BR.out).cell (by
        match k, hlt with
        | 0, _ => rfl
        | 1, _ => rfl
        | 2, _ => rfl
        | 3, _ => rfl
        | 4, _ => rfl
        | 5, _ => rfl
        | 6, _ => rfl)
       have hfm : i64B ((nmL d x3 x4 x5 x6 x7 x8).getD k 0) := HFN.out _ (by rw [List.getD_eq_getElem?_getD, List.getElem?_eq_getElem (show k < (nmL d x3 x4 x5 x6 x7 x8).length from hlt)]; exact List.getElem_mem _)
       generalize (nmL d x3 x4 x5 x6 x7 x8).getD k 0 = m at x0 HXn hfm
       have HFm := hid hfm
       clear hfm
       generalize hxx : X3 PY (nmL d x3 x4 x5 x6 x7 x8) k = xs at SW HXn HXB
       go_wp2_with (first
        | (go_at_call 79; (with_reducible refine (rI m HFm.out _ A c xs SW.out ?_).mono ?_); (have u0 := HXB.out; omega); rintro e y6 ⟨A5, a5, rfl, hs, ho, hb⟩; have B5 := hid (BR.out.trans (hb.mono BR.out.size)); generalize hx : xs ++ eI m = xs3 at hs ⊢; have S5 := hid hs; have HX3 := hid hx; clear hx hs ho hb x0)
        | fail)
       go_roundw
       case rel => exact ⟨k + 1, A5, a5, by omega, by go_num, by rw [HXn.out, HX3.out], hid (by rw [HXn.out, HX3.out]; exact S5.out), B5⟩
       case measure => simp [intOf]; omega
      ·have hltz : ¬ (k : Int) < 7 := by omega
       have hke : k = 7 := by omega
       subst hke
       generalize X3 PY (nmL d x3 x4 x5 x6 x7 x8) 7 = xs at SW HXA
       have e := HXA.out
       subst e
       go_wp2
       go_ret
       exact ⟨A, c, rfl, SW.out, BW5.out.trans (BR.out.mono BW5.out.size)⟩
end Go.Proofs.YtablocpcgknmaaaGreatDoor
