/- Encode. No condition. -/
import Derived.Test.YtablocpcgknmaaaGreatDoorRPk
namespace Go.Proofs.YtablocpcgknmaaaGreatDoor
open Go.Lib (hid)
open Go Go.RowKit
set_option linter.unusedVariables false
set_option linter.unusedSimpArgs false
set_option maxRecDepth 100000

/-- An event whose encoding is not large. -/
structure SmZ (E : Ew) : Prop where
 rm : E.rm.size ≤ 1000
 sd : E.sd.size ≤ 1000
 ky : E.ky.size ≤ 1000
 sv : E.sv.size ≤ 1000
 pv : E.pv.length ≤ 100
 au : E.au.length ≤ 100
 c : SmE E.c
theorem SmZ.v {E : Ew} (h : SmZ E) : SmV E := ⟨h.pv, h.au, h.c.smc⟩
def ctT (E : Ew) : ByteArray := strOfNums (encC E.c)
/-- An event's bytes. -/
def encE (E : Ew) : List Int := ((((((((((((eI E.id ++ Cd.ent E.rm) ++ Cd.ent E.sd) ++ eI E.kd) ++ [if E.st then (1 : Int) else 0]) ++ Cd.ent E.ky) ++ eI E.tm) ++ eI E.dp) ++ encJ E.pv) ++ encJ E.au) ++ Cd.ent (ctT E)) ++ eI E.hs) ++ Cd.ent E.sv) ++ eI E.sm
theorem encC_620 {w : World} {C : Cn} {a : Ads} (hc : IsC w C a) (hs : SmE C) : (encC C).length ≤ 620000 := by
 unfold encC
 have l0 := (ent_bd2 hs.tx).2
 have l1 := (eI_bd hc.n).2
 have l2 := (eI_bd hc.tg).2
 have l4 := (ent_bd2 hs.via).2
 have l5 := pTs_len hs.al hs.al2
 have l6 := pTs_len hs.dn hs.dn2
 have l7 : (encL C.us C.ks (nmL C.d C.x3 C.x4 C.x5 C.x6 C.x7 C.x8)).length ≤ 209100 := encL_len (fun p hp => ⟨hs.lv.nm p hp, (hc.lv.fu p hp).2⟩) hc.lv.fk (nm_bd hc.lv.nm) hs.lv.lu hs.lv.lk rfl
 have l3 : ([if C.th then (1 : Int) else 0] : List Int).length = 1 := rfl
 rw [List.length_append] at l5 l6
 simp only [List.length_append]
 omega
theorem ent_big {s : ByteArray} (h : s.size ≤ 640000) : (∀ z ∈ Cd.ent s, 0 ≤ z ∧ z ≤ 255) ∧ (Cd.ent s).length ≤ s.size + 11 := by
 have h1 := Cd.ent_bd (show Cd.Small s by unfold Cd.Small; omega)
 have h2 := (eI_bd (len64 (show s.size ≤ 1000000 by omega))).2
 unfold eI at h2
 exact ⟨h1.1, by rw [h1.2]; omega⟩
theorem ctT_sz {w : World} {E : Ew} {a : Aw} (h : IsE w E a) (hs : SmZ E) : (ctT E).size ≤ 620000 := by
 unfold ctT
 rw [Cd.str_size]
 exact encC_620 h.c hs.c
theorem flag_bd (b : Bool) : (∀ z ∈ [if b then (1 : Int) else 0], 0 ≤ z ∧ z ≤ 255) := by cases b <;> simp
theorem encE_bd {w : World} {E : Ew} {a : Aw} (h : IsE w E a) (hs : SmZ E) : (∀ z ∈ encE E, 0 ≤ z ∧ z ≤ 255) ∧ (encE E).length ≤ 640000 := by
 have c1 := eI_bd h.id
 have c2 := ent_bd2 hs.rm
 have c3 := ent_bd2 hs.sd
 have c4 := eI_bd h.kd
 have c6 := ent_bd2 hs.ky
 have c7 := eI_bd h.tm
 have c8 := eI_bd h.dp
 have c9 := encJ_bd h.pv.fit hs.pv
 have c10 := encJ_bd h.au.fit hs.au
 have hc := ctT_sz h hs
 have c11 := ent_big (show (ctT E).size ≤ 640000 by omega)
 have c12 := eI_bd h.hs
 have c13 := ent_bd2 hs.sv
 have c14 := eI_bd h.sm
 unfold encE
 refine ⟨app_bd (app_bd (app_bd (app_bd (app_bd (app_bd (app_bd (app_bd (app_bd (app_bd (app_bd (app_bd (app_bd c1.1 c2.1) c3.1) c4.1) (flag_bd _)) c6.1) c7.1) c8.1) c9.1) c10.1) c11.1) c12.1) c13.1) c14.1, ?_⟩
 have c5 : ([if E.st then (1 : Int) else 0] : List Int).length = 1 := rfl
 simp only [List.length_append]
 omega
theorem encE_eq (E : Ew) (p1 p2 : Option Addr) (q1 q2 : Nat) : (((((((((((([] : List Int) ++ encA eI [E.id]) ++ encA Cd.ent [E.rm, E.sd]) ++ encA eI [E.kd]) ++ encA (fun b : Bool => [if b then (1 : Int) else 0]) [E.st]) ++ encA Cd.ent [E.ky]) ++ encA eI [E.tm, E.dp]) ++ encA (fun p : Option Addr × Nat × List Int => encJ p.2.2) [(p1, q1, E.pv), (p2, q2, E.au)]) ++ encA Cd.ent [ctT E]) ++ encA eI [E.hs]) ++ encA Cd.ent [E.sv]) ++ encA eI [E.sm]) = encE E := by
 unfold encE encA
 simp only [List.map_cons, List.map_nil, List.flatten_cons, List.flatten_nil, List.append_nil, List.nil_append, List.append_assoc]
theorem rX (s : ByteArray) (hs : s.size ≤ 640000) (w : World) (A : Option Addr) (c : Nat) (zs : List Int) (h : Cd.Sl w A zs.length c zs) (hl : zs.length ≤ 150000) : Calls Tryz.prog 80 #[.slice A zs.length c, .string s] w (SlP w (zs ++ Cd.ent s)) := by
 refine (Cd.rputText_any A zs.length c zs s (show Cd.Small s by unfold Cd.Small; omega) (by omega) w h).mono ?_
 rintro e w' ⟨A', c', rfl, ho, hb⟩
 exact ⟨A', c', rfl, own_sl ho (app_bd h.bd (ent_big hs).1) rfl, ho, hb⟩
theorem rJ (A2 : Option Addr) (c2 : Nat) (l : List Int) (w : World) (A : Option Addr) (c : Nat) (zs : List Int) (h : Cd.Sl w A zs.length c zs) (hl : zs.length ≤ 290000) (hi : Ins w A2 l.length c2 l) (hn : l.length ≤ 100) : Calls Tryz.prog 82 #[.slice A zs.length c, .slice A2 l.length c2] w (SlP w (zs ++ encJ l)) := by
 have hp := Cd.rputInts_any A zs.length c zs A2 l.length c2 l (by omega) (by omega) w h (is_ins hi)
 rw [show (zs ++ Cd.C.enc (Cd.C.zig (l.length : Int)) ++ Cd.encs l : List Int) = zs ++ encJ l by unfold encJ eI; rw [List.append_assoc]] at hp
 refine hp.mono ?_
 rintro e w' ⟨A', c', rfl, ho, hb⟩
 exact ⟨A', c', rfl, own_sl ho (app_bd h.bd (encJ_bd hi.fit hn).1) rfl, ho, hb⟩
theorem all1 {α : Type} {P : α → Prop} {x : α} (h : P x) : ∀ z ∈ [x], P z := fun z hz => by rw [List.mem_singleton] at hz; rw [hz]; exact h
theorem all2 {α : Type} {P : α → Prop} {x y : α} (h : P x) (h2 : P y) : ∀ z ∈ [x, y], P z := fun z hz => by
 rcases List.mem_cons.1 hz with hz | hz
 ·rw [hz]; exact h
 ·rw [List.mem_singleton] at hz; rw [hz]; exact h2
/-- Between two pieces of an encoding: the event's box, the writer. -/
structure WE (w : World) (E : Ew) (a : Aw) (A : Option Addr) (c : Nat) (zs : List Int) (y : World) : Prop where
 wr : Wr (w.heap.size + 1) A c zs y
 x : Blk y w.heap.size (ecs E a) 34
 bel : Below w.heap.size w y
theorem WE.lt {w : World} {E : Ew} {a : Aw} {A : Option Addr} {c : Nat} {zs : List Int} {y : World} (h : WE w E a A c zs y) : w.heap.size + 1 < y.heap.size := h.wr.1.lt
theorem WE.keep {w : World} {E : Ew} {a : Aw} {A : Option Addr} {c : Nat} {zs : List Int} {y : World} (h : WE w E a A c zs y) {y' : World} (hb : Below y.heap.size y y') : WE w E a A c zs y' :=
 ⟨⟨h.wr.1.below hb, Cd.own_below h.wr.2 hb⟩, h.x.below hb, h.bel.trans (hb.mono (Nat.le_of_lt h.x.lt))⟩
theorem WE.alloc {w : World} {E : Ew} {a : Aw} {A : Option Addr} {c : Nat} {zs : List Int} {y : World} (h : WE w E a A c zs y) (o : Obj) : WE w E a A c zs (y.alloc o) := h.keep ((Below.refl _ y).alloc (Nat.le_refl _) o)
theorem WE.put {w : World} {E : Ew} {a : Aw} {A : Option Addr} {c : Nat} {zs : List Int} {y : World} (h : WE w E a A c zs y) {y' : World} {A' : Option Addr} {c' : Nat} {zs' : List Int} (hw : Wr (w.heap.size + 1) A' c' zs' y') (hb : Below (w.heap.size + 1) y y') (hk : KT (w.heap.size + 1) y y') : WE w E a A' c' zs' y' :=
 ⟨hw, hk _ _ _ (by decide) (by omega) h.x, h.bel.trans (hb.mono (Nat.le_succ _))⟩
set_option maxHeartbeats 16000000 in
theorem encode37 (E : Ew) (a : Aw) (w : World) (h : IsE w E a) (hs : SmZ E) : Calls Tryz.prog 37 #[.agg (ecs E a).toArray] w (SlR w (encE E)) := by
 unfold SlR
 have HE := hid h
 have HS := hid hs
 have HCT := hid (fun y (hb : Below w.heap.size w y) => encode29 E.c a.c y (h.c.below hb) hs.c)
 unfold SlP at HCT
 have HTZ := hid (ctT_sz h hs)
 have HBD := hid (encE_bd h hs).1
 have HQ := hid (encE_eq E a.pA a.qA a.pC a.qC)
 obtain ⟨t, ht⟩ : ∃ t, ctT E = t := ⟨_, rfl⟩
 rw [ht] at HTZ HQ
 have HT := hid (show strOfNums (encC E.c) = t from ht)
 have HB1 := hid (show ∀ z ∈ [E.id], i64B z from all1 h.id)
 have HB2 := hid (show ∀ z ∈ [E.rm, E.sd], z.size ≤ 640000 from all2 (Nat.le_trans hs.rm (by decide)) (Nat.le_trans hs.sd (by decide)))
 have HB3 := hid (show ∀ z ∈ [E.kd], i64B z from all1 h.kd)
 have HB4 := hid (show ∀ z ∈ [E.ky], z.size ≤ 640000 from all1 (Nat.le_trans hs.ky (by decide)))
 have HB5 := hid (show ∀ z ∈ [E.tm, E.dp], i64B z from all2 h.tm h.dp)
 have HB6 := hid (show ∀ z ∈ [t], z.size ≤ 640000 from all1 (Nat.le_trans HTZ.out (by decide)))
 have HB7 := hid (show ∀ z ∈ [E.hs], i64B z from all1 h.hs)
 have HB8 := hid (show ∀ z ∈ [E.sv], z.size ≤ 640000 from all1 (Nat.le_trans hs.sv (by decide)))
 have HB9 := hid (show ∀ z ∈ [E.sm], i64B z from all1 h.sm)
 have HBJ := hid (fun (y : World) (hb : Below w.heap.size w y) => show ∀ p ∈ [(a.pA, a.pC, E.pv), (a.qA, a.qC, E.au)], (∀ y', Below (w.heap.size + 1) y y' → Ins y' p.1 p.2.2.length p.2.1 p.2.2) ∧ p.2.2.length ≤ 100 from all2 ⟨fun y' hb' => h.pv.below (hb.trans (hb'.mono (Nat.le_succ _))), hs.pv⟩ ⟨fun y' hb' => h.au.below (hb.trans (hb'.mono (Nat.le_succ _))), hs.au⟩)
 have HL1 := hid (show (encA eI [E.id]).length ≤ 22 by have := (eI_bd h.id).2; simp [encA]; omega)
 have HL2 := hid (show (encA Cd.ent [E.rm, E.sd]).length ≤ 2022 by have := (ent_bd2 hs.rm).2; have := (ent_bd2 hs.sd).2; simp [encA]; omega)
 have HL3 := hid (show (encA eI [E.kd]).length ≤ 22 by have := (eI_bd h.kd).2; simp [encA]; omega)
 have HL4 := hid (show (encA (fun b : Bool => [if b then (1 : Int) else 0]) [E.st]).length ≤ 22 by simp [encA])
 have HL5 := hid (show (encA Cd.ent [E.ky]).length ≤ 2022 by have := (ent_bd2 hs.ky).2; simp [encA]; omega)
 have HL6 := hid (show (encA eI [E.tm, E.dp]).length ≤ 22 by have := (eI_bd h.tm).2; have := (eI_bd h.dp).2; simp [encA]; omega)
 have HL7 := hid (show (encA (fun p : Option Addr × Nat × List Int => encJ p.2.2) [(a.pA, a.pC, E.pv), (a.qA, a.qC, E.au)]).length ≤ 2222 by have := (encJ_bd h.pv.fit hs.pv).2; have := (encJ_bd h.au.fit hs.au).2; simp [encA]; omega)
 have HL8 := hid (show (encA Cd.ent [t]).length ≤ 620011 by have h1 := HTZ.out; have := (ent_big (show t.size ≤ 640000 by omega)).2; simp [encA]; omega)
 have HL9 := hid (show (encA eI [E.hs]).length ≤ 22 by have := (eI_bd h.hs).2; simp [encA]; omega)
 have HL10 := hid (show (encA Cd.ent [E.sv]).length ≤ 2022 by have := (ent_bd2 hs.sv).2; simp [encA]; omega)
 have HL11 := hid (show (encA eI [E.sm]).length ≤ 22 by have := (eI_bd h.sm).2; simp [encA]; omega)
 have HZ0 := hid (show ([] : List Int).length ≤ 0 from Nat.le_refl _)
 generalize encE E = zF at HQ HBD ⊢
 have BA := hid (((Below.refl w.heap.size w).alloc (Nat.le_refl _) (.cells #[.int .i64 E.id, .string E.rm, .string E.sd, .int .i64 E.kd, .bool E.st, .string E.ky, .int .i64 E.tm, .int .i64 E.dp, .slice a.pA E.pv.length a.pC, .slice a.qA E.au.length a.qC, .string E.c.tx, .int .i64 E.c.n, .int .i64 E.c.tg, .bool E.c.th, .string E.c.via, .slice a.c.aA E.c.al.length a.c.aC, .slice a.c.dA E.c.dn.length a.c.dC, .slice a.c.uA E.c.us.length a.c.uC, .slice a.c.kA E.c.ks.length a.c.kC, .int .i64 E.c.d, .int .i64 E.c.x3, .int .i64 E.c.x4, .int .i64 E.c.x5, .int .i64 E.c.x6, .int .i64 E.c.x7, .int .i64 E.c.x8, .int .i64 E.hs, .string E.sv, .int .i64 E.sm] 34)).alloc (by simp) (.cells #[.slice none 0 0] 78))
 have D0 := hid (show WE w E a none 0 [] ((w.alloc (.cells #[.int .i64 E.id, .string E.rm, .string E.sd, .int .i64 E.kd, .bool E.st, .string E.ky, .int .i64 E.tm, .int .i64 E.dp, .slice a.pA E.pv.length a.pC, .slice a.qA E.au.length a.qC, .string E.c.tx, .int .i64 E.c.n, .int .i64 E.c.tg, .bool E.c.th, .string E.c.via, .slice a.c.aA E.c.al.length a.c.aC, .slice a.c.dA E.c.dn.length a.c.dC, .slice a.c.uA E.c.us.length a.c.uC, .slice a.c.kA E.c.ks.length a.c.kC, .int .i64 E.c.d, .int .i64 E.c.x3, .int .i64 E.c.x4, .int .i64 E.c.x5, .int .i64 E.c.x6, .int .i64 E.c.x7, .int .i64 E.c.x8, .int .i64 E.hs, .string E.sv, .int .i64 E.sm] 34)).alloc (.cells #[.slice none 0 0] 78)) from ⟨⟨blk_new2 w (.cells #[.int .i64 E.id, .string E.rm, .string E.sd, .int .i64 E.kd, .bool E.st, .string E.ky, .int .i64 E.tm, .int .i64 E.dp, .slice a.pA E.pv.length a.pC, .slice a.qA E.au.length a.qC, .string E.c.tx, .int .i64 E.c.n, .int .i64 E.c.tg, .bool E.c.th, .string E.c.via, .slice a.c.aA E.c.al.length a.c.aC, .slice a.c.dA E.c.dn.length a.c.dC, .slice a.c.uA E.c.us.length a.c.uC, .slice a.c.kA E.c.ks.length a.c.kC, .int .i64 E.c.d, .int .i64 E.c.x3, .int .i64 E.c.x4, .int .i64 E.c.x5, .int .i64 E.c.x6, .int .i64 E.c.x7, .int .i64 E.c.x8, .int .i64 E.hs, .string E.sv, .int .i64 E.sm] 34) [.slice none 0 0] 78, World.ownsRow_nil _ _ _ _⟩, (blk_new w [.int .i64 E.id, .string E.rm, .string E.sd, .int .i64 E.kd, .bool E.st, .string E.ky, .int .i64 E.tm, .int .i64 E.dp, .slice a.pA E.pv.length a.pC, .slice a.qA E.au.length a.qC, .string E.c.tx, .int .i64 E.c.n, .int .i64 E.c.tg, .bool E.c.th, .string E.c.via, .slice a.c.aA E.c.al.length a.c.aC, .slice a.c.dA E.c.dn.length a.c.dC, .slice a.c.uA E.c.us.length a.c.uC, .slice a.c.kA E.c.ks.length a.c.kC, .int .i64 E.c.d, .int .i64 E.c.x3, .int .i64 E.c.x4, .int .i64 E.c.x5, .int .i64 E.c.x6, .int .i64 E.c.x7, .int .i64 E.c.x8, .int .i64 E.hs, .string E.sv, .int .i64 E.sm] 34).alloc _, BA.out⟩)
 clear h hs ht
 show Calls Tryz.prog 37 #[.agg #[.int .i64 E.id, .string E.rm, .string E.sd, .int .i64 E.kd, .bool E.st, .string E.ky, .int .i64 E.tm, .int .i64 E.dp, .slice a.pA E.pv.length a.pC, .slice a.qA E.au.length a.qC, .string E.c.tx, .int .i64 E.c.n, .int .i64 E.c.tg, .bool E.c.th, .string E.c.via, .slice a.c.aA E.c.al.length a.c.aC, .slice a.c.dA E.c.dn.length a.c.dC, .slice a.c.uA E.c.us.length a.c.uC, .slice a.c.kA E.c.ks.length a.c.kC, .int .i64 E.c.d, .int .i64 E.c.x3, .int .i64 E.c.x4, .int .i64 E.c.x5, .int .i64 E.c.x6, .int .i64 E.c.x7, .int .i64 E.c.x8, .int .i64 E.hs, .string E.sv, .int .i64 E.sm]] w _
 generalize hW0 : (w.alloc (.cells #[.int .i64 E.id, .string E.rm, .string E.sd, .int .i64 E.kd, .bool E.st, .string E.ky, .int .i64 E.tm, .int .i64 E.dp, .slice a.pA E.pv.length a.pC, .slice a.qA E.au.length a.qC, .string E.c.tx, .int .i64 E.c.n, .int .i64 E.c.tg, .bool E.c.th, .string E.c.via, .slice a.c.aA E.c.al.length a.c.aC, .slice a.c.dA E.c.dn.length a.c.dC, .slice a.c.uA E.c.us.length a.c.uC, .slice a.c.kA E.c.ks.length a.c.kC, .int .i64 E.c.d, .int .i64 E.c.x3, .int .i64 E.c.x4, .int .i64 E.c.x5, .int .i64 E.c.x6, .int .i64 E.c.x7, .int .i64 E.c.x8, .int .i64 E.hs, .string E.sv, .int .i64 E.sm] 34)).alloc (.cells #[.slice none 0 0] 78) = y0 at BA D0
 go_enter Tryz.func37, Tryz.ntmps37
 go_upto_region 2 with (fail)
 have x0 := D0.out.x.cell (i := 0) rfl
 go_upto_region 3 with (first
  | (go_at_call 61; (have HM := (show Calls Tryz.prog 61 #[.func (.func 62) #[.pointer (some ⟨w.heap.size + 1, 0, none⟩)] #[], .slice (some ⟨y0.heap.size, 0, none⟩) 1 1] (y0.alloc (.cells #[.int .i64 E.id] 3)) (WrP (w.heap.size + 1) (([] : List Int) ++ encA eI [E.id]) (y0.alloc (.cells #[.int .i64 E.id] 3))) from putN (w.heap.size + 1) y0.heap.size none 0 ([] : List Int) [E.id] (y0.alloc (.cells #[.int .i64 E.id] 3)) (D0.out.alloc _).wr (blk_new y0 [.int .i64 E.id] 3) D0.out.lt (Nat.le_of_ble_eq_true rfl) HB1.out (by have h1 := HL1.out; have h2 := HZ0.out; omega))); unfold WrP at HM; (with_reducible refine HM.mono ?_); clear HM; rintro e y1 ⟨rfl, ⟨A1, c1, hw⟩, hb, hk⟩; obtain ⟨z1, hz1⟩ : ∃ z, z = ([] : List Int) ++ encA eI [E.id] := ⟨_, rfl⟩; have HZQ1 := hid hz1; have HZ1 := hid (show z1.length ≤ 22 by rw [hz1, List.length_append]; have h1 := HL1.out; have h2 := HZ0.out; omega); rw [← hz1] at hw; have D1 := hid ((D0.out.alloc _).put hw hb hk); clear hw hb hk hz1 x0)
  | fail)
 have x1 := D1.out.x.cell (i := 1) rfl
 have x2 := D1.out.x.cell (i := 2) rfl
 go_upto_region 4 with (first
  | (go_at_call 63; (have HM := (show Calls Tryz.prog 63 #[.func (.func 64) #[.pointer (some ⟨w.heap.size + 1, 0, none⟩)] #[], .slice (some ⟨y1.heap.size, 0, none⟩) 2 2] (y1.alloc (.cells #[.string E.rm, .string E.sd] 9)) (WrP (w.heap.size + 1) (z1 ++ encA Cd.ent [E.rm, E.sd]) (y1.alloc (.cells #[.string E.rm, .string E.sd] 9))) from putT (w.heap.size + 1) y1.heap.size A1 c1 z1 [E.rm, E.sd] (y1.alloc (.cells #[.string E.rm, .string E.sd] 9)) (D1.out.alloc _).wr (blk_new y1 [.string E.rm, .string E.sd] 9) D1.out.lt (Nat.le_of_ble_eq_true rfl) HB2.out (by have h1 := HL2.out; have h2 := HZ1.out; omega))); unfold WrP at HM; (with_reducible refine HM.mono ?_); clear HM; rintro e y2 ⟨rfl, ⟨A2, c2, hw⟩, hb, hk⟩; obtain ⟨z2, hz2⟩ : ∃ z, z = z1 ++ encA Cd.ent [E.rm, E.sd] := ⟨_, rfl⟩; have HZQ2 := hid hz2; have HZ2 := hid (show z2.length ≤ 2044 by rw [hz2, List.length_append]; have h1 := HL2.out; have h2 := HZ1.out; omega); rw [← hz2] at hw; have D2 := hid ((D1.out.alloc _).put hw hb hk); clear hw hb hk hz2 x1 x2)
  | fail)
 have x3 := D2.out.x.cell (i := 3) rfl
 go_upto_region 5 with (first
  | (go_at_call 61; (have HM := (show Calls Tryz.prog 61 #[.func (.func 62) #[.pointer (some ⟨w.heap.size + 1, 0, none⟩)] #[], .slice (some ⟨y2.heap.size, 0, none⟩) 1 1] (y2.alloc (.cells #[.int .i64 E.kd] 3)) (WrP (w.heap.size + 1) (z2 ++ encA eI [E.kd]) (y2.alloc (.cells #[.int .i64 E.kd] 3))) from putN (w.heap.size + 1) y2.heap.size A2 c2 z2 [E.kd] (y2.alloc (.cells #[.int .i64 E.kd] 3)) (D2.out.alloc _).wr (blk_new y2 [.int .i64 E.kd] 3) D2.out.lt (Nat.le_of_ble_eq_true rfl) HB3.out (by have h1 := HL3.out; have h2 := HZ2.out; omega))); unfold WrP at HM; (with_reducible refine HM.mono ?_); clear HM; rintro e y3 ⟨rfl, ⟨A3, c3, hw⟩, hb, hk⟩; obtain ⟨z3, hz3⟩ : ∃ z, z = z2 ++ encA eI [E.kd] := ⟨_, rfl⟩; have HZQ3 := hid hz3; have HZ3 := hid (show z3.length ≤ 2066 by rw [hz3, List.length_append]; have h1 := HL3.out; have h2 := HZ2.out; omega); rw [← hz3] at hw; have D3 := hid ((D2.out.alloc _).put hw hb hk); clear hw hb hk hz3 x3)
  | fail)
 have x4 := D3.out.x.cell (i := 4) rfl
 go_upto_region 6 with (first
  | (go_at_call 65; (have HM := (show Calls Tryz.prog 65 #[.func (.func 66) #[.pointer (some ⟨w.heap.size + 1, 0, none⟩)] #[], .slice (some ⟨y3.heap.size, 0, none⟩) 1 1] (y3.alloc (.cells #[.bool E.st] 4)) (WrP (w.heap.size + 1) (z3 ++ encA (fun b : Bool => [if b then (1 : Int) else 0]) [E.st]) (y3.alloc (.cells #[.bool E.st] 4))) from putB (w.heap.size + 1) y3.heap.size A3 c3 z3 [E.st] (y3.alloc (.cells #[.bool E.st] 4)) (D3.out.alloc _).wr (blk_new y3 [.bool E.st] 4) D3.out.lt (Nat.le_of_ble_eq_true rfl)  (by have h1 := HL4.out; have h2 := HZ3.out; omega))); unfold WrP at HM; (with_reducible refine HM.mono ?_); clear HM; rintro e y4 ⟨rfl, ⟨A4, c4, hw⟩, hb, hk⟩; obtain ⟨z4, hz4⟩ : ∃ z, z = z3 ++ encA (fun b : Bool => [if b then (1 : Int) else 0]) [E.st] := ⟨_, rfl⟩; have HZQ4 := hid hz4; have HZ4 := hid (show z4.length ≤ 2088 by rw [hz4, List.length_append]; have h1 := HL4.out; have h2 := HZ3.out; omega); rw [← hz4] at hw; have D4 := hid ((D3.out.alloc _).put hw hb hk); clear hw hb hk hz4 x4)
  | fail)
 have x5 := D4.out.x.cell (i := 5) rfl
 go_upto_region 7 with (first
  | (go_at_call 63; (have HM := (show Calls Tryz.prog 63 #[.func (.func 64) #[.pointer (some ⟨w.heap.size + 1, 0, none⟩)] #[], .slice (some ⟨y4.heap.size, 0, none⟩) 1 1] (y4.alloc (.cells #[.string E.ky] 9)) (WrP (w.heap.size + 1) (z4 ++ encA Cd.ent [E.ky]) (y4.alloc (.cells #[.string E.ky] 9))) from putT (w.heap.size + 1) y4.heap.size A4 c4 z4 [E.ky] (y4.alloc (.cells #[.string E.ky] 9)) (D4.out.alloc _).wr (blk_new y4 [.string E.ky] 9) D4.out.lt (Nat.le_of_ble_eq_true rfl) HB4.out (by have h1 := HL5.out; have h2 := HZ4.out; omega))); unfold WrP at HM; (with_reducible refine HM.mono ?_); clear HM; rintro e y5 ⟨rfl, ⟨A5, c5, hw⟩, hb, hk⟩; obtain ⟨z5, hz5⟩ : ∃ z, z = z4 ++ encA Cd.ent [E.ky] := ⟨_, rfl⟩; have HZQ5 := hid hz5; have HZ5 := hid (show z5.length ≤ 4110 by rw [hz5, List.length_append]; have h1 := HL5.out; have h2 := HZ4.out; omega); rw [← hz5] at hw; have D5 := hid ((D4.out.alloc _).put hw hb hk); clear hw hb hk hz5 x5)
  | fail)
 have x6 := D5.out.x.cell (i := 6) rfl
 have x7 := D5.out.x.cell (i := 7) rfl
 go_upto_region 8 with (first
  | (go_at_call 61; (have HM := (show Calls Tryz.prog 61 #[.func (.func 62) #[.pointer (some ⟨w.heap.size + 1, 0, none⟩)] #[], .slice (some ⟨y5.heap.size, 0, none⟩) 2 2] (y5.alloc (.cells #[.int .i64 E.tm, .int .i64 E.dp] 3)) (WrP (w.heap.size + 1) (z5 ++ encA eI [E.tm, E.dp]) (y5.alloc (.cells #[.int .i64 E.tm, .int .i64 E.dp] 3))) from putN (w.heap.size + 1) y5.heap.size A5 c5 z5 [E.tm, E.dp] (y5.alloc (.cells #[.int .i64 E.tm, .int .i64 E.dp] 3)) (D5.out.alloc _).wr (blk_new y5 [.int .i64 E.tm, .int .i64 E.dp] 3) D5.out.lt (Nat.le_of_ble_eq_true rfl) HB5.out (by have h1 := HL6.out; have h2 := HZ5.out; omega))); unfold WrP at HM; (with_reducible refine HM.mono ?_); clear HM; rintro e y6 ⟨rfl, ⟨A6, c6, hw⟩, hb, hk⟩; obtain ⟨z6, hz6⟩ : ∃ z, z = z5 ++ encA eI [E.tm, E.dp] := ⟨_, rfl⟩; have HZQ6 := hid hz6; have HZ6 := hid (show z6.length ≤ 4132 by rw [hz6, List.length_append]; have h1 := HL6.out; have h2 := HZ5.out; omega); rw [← hz6] at hw; have D6 := hid ((D5.out.alloc _).put hw hb hk); clear hw hb hk hz6 x6 x7)
  | fail)
 have x8 := D6.out.x.cell (i := 8) rfl
 have x9 := D6.out.x.cell (i := 9) rfl
 go_upto_region 9 with (first
  | (go_at_call 67; (have HM := (show Calls Tryz.prog 67 #[.func (.func 68) #[.pointer (some ⟨w.heap.size + 1, 0, none⟩)] #[], .slice (some ⟨y6.heap.size, 0, none⟩) 2 2] (y6.alloc (.cells #[.slice a.pA E.pv.length a.pC, .slice a.qA E.au.length a.qC] 23)) (WrP (w.heap.size + 1) (z6 ++ encA (fun p : Option Addr × Nat × List Int => encJ p.2.2) [(a.pA, a.pC, E.pv), (a.qA, a.qC, E.au)]) (y6.alloc (.cells #[.slice a.pA E.pv.length a.pC, .slice a.qA E.au.length a.qC] 23))) from putJ (w.heap.size + 1) y6.heap.size A6 c6 z6 [(a.pA, a.pC, E.pv), (a.qA, a.qC, E.au)] (y6.alloc (.cells #[.slice a.pA E.pv.length a.pC, .slice a.qA E.au.length a.qC] 23)) (D6.out.alloc _).wr (blk_new y6 [.slice a.pA E.pv.length a.pC, .slice a.qA E.au.length a.qC] 23) D6.out.lt (Nat.le_of_ble_eq_true rfl) (HBJ.out _ (D6.out.alloc _).bel) (by have h1 := HL7.out; have h2 := HZ6.out; omega))); unfold WrP at HM; (with_reducible refine HM.mono ?_); clear HM; rintro e y7 ⟨rfl, ⟨A7, c7, hw⟩, hb, hk⟩; obtain ⟨z7, hz7⟩ : ∃ z, z = z6 ++ encA (fun p : Option Addr × Nat × List Int => encJ p.2.2) [(a.pA, a.pC, E.pv), (a.qA, a.qC, E.au)] := ⟨_, rfl⟩; have HZQ7 := hid hz7; have HZ7 := hid (show z7.length ≤ 6354 by rw [hz7, List.length_append]; have h1 := HL7.out; have h2 := HZ6.out; omega); rw [← hz7] at hw; have D7 := hid ((D6.out.alloc _).put hw hb hk); clear hw hb hk hz7 x8 x9)
  | fail)
 go_upto_region 10 with (first
  | (refine wpList_load_mid rfl 30 _ rfl w.heap.size 10 rfl (ccs E.c a.c) _ (D7.out.x.mid 10 16) Tryz.underlying30 rfl size29 ?_)
  | (go_at_call 50; (with_reducible refine (HCT.out y7 D7.out.bel).mono ?_); rintro e yc ⟨Ac, cc, rfl, hs, ho, hb⟩; have DC := hid (D7.out.keep hb); have hcv := Cd.conv_sl hs; rw [HT.out] at hcv; clear hs ho hb)
  | (go_at_call 63; (have HM := (show Calls Tryz.prog 63 #[.func (.func 64) #[.pointer (some ⟨w.heap.size + 1, 0, none⟩)] #[], .slice (some ⟨yc.heap.size, 0, none⟩) 1 1] (yc.alloc (.cells #[.string t] 9)) (WrP (w.heap.size + 1) (z7 ++ encA Cd.ent [t]) (yc.alloc (.cells #[.string t] 9))) from putT (w.heap.size + 1) yc.heap.size A7 c7 z7 [t] (yc.alloc (.cells #[.string t] 9)) (DC.out.alloc _).wr (blk_new yc [.string t] 9) DC.out.lt (Nat.le_of_ble_eq_true rfl) HB6.out (by have h1 := HL8.out; have h2 := HZ7.out; omega))); unfold WrP at HM; (with_reducible refine HM.mono ?_); clear HM; rintro e y8 ⟨rfl, ⟨A8, c8, hw⟩, hb, hk⟩; obtain ⟨z8, hz8⟩ : ∃ z, z = z7 ++ encA Cd.ent [t] := ⟨_, rfl⟩; have HZQ8 := hid hz8; have HZ8 := hid (show z8.length ≤ 626365 by rw [hz8, List.length_append]; have h1 := HL8.out; have h2 := HZ7.out; omega); rw [← hz8] at hw; have D8 := hid ((DC.out.alloc _).put hw hb hk); clear hw hb hk hz8  hcv)
  | fail)
 have x26 := D8.out.x.cell (i := 26) rfl
 go_upto_region 11 with (first
  | (go_at_call 61; (have HM := (show Calls Tryz.prog 61 #[.func (.func 62) #[.pointer (some ⟨w.heap.size + 1, 0, none⟩)] #[], .slice (some ⟨y8.heap.size, 0, none⟩) 1 1] (y8.alloc (.cells #[.int .i64 E.hs] 3)) (WrP (w.heap.size + 1) (z8 ++ encA eI [E.hs]) (y8.alloc (.cells #[.int .i64 E.hs] 3))) from putN (w.heap.size + 1) y8.heap.size A8 c8 z8 [E.hs] (y8.alloc (.cells #[.int .i64 E.hs] 3)) (D8.out.alloc _).wr (blk_new y8 [.int .i64 E.hs] 3) D8.out.lt (Nat.le_of_ble_eq_true rfl) HB7.out (by have h1 := HL9.out; have h2 := HZ8.out; omega))); unfold WrP at HM; (with_reducible refine HM.mono ?_); clear HM; rintro e y9 ⟨rfl, ⟨A9, c9, hw⟩, hb, hk⟩; obtain ⟨z9, hz9⟩ : ∃ z, z = z8 ++ encA eI [E.hs] := ⟨_, rfl⟩; have HZQ9 := hid hz9; have HZ9 := hid (show z9.length ≤ 626387 by rw [hz9, List.length_append]; have h1 := HL9.out; have h2 := HZ8.out; omega); rw [← hz9] at hw; have D9 := hid ((D8.out.alloc _).put hw hb hk); clear hw hb hk hz9 x26)
  | fail)
 have x27 := D9.out.x.cell (i := 27) rfl
 go_upto_region 12 with (first
  | (go_at_call 63; (have HM := (show Calls Tryz.prog 63 #[.func (.func 64) #[.pointer (some ⟨w.heap.size + 1, 0, none⟩)] #[], .slice (some ⟨y9.heap.size, 0, none⟩) 1 1] (y9.alloc (.cells #[.string E.sv] 9)) (WrP (w.heap.size + 1) (z9 ++ encA Cd.ent [E.sv]) (y9.alloc (.cells #[.string E.sv] 9))) from putT (w.heap.size + 1) y9.heap.size A9 c9 z9 [E.sv] (y9.alloc (.cells #[.string E.sv] 9)) (D9.out.alloc _).wr (blk_new y9 [.string E.sv] 9) D9.out.lt (Nat.le_of_ble_eq_true rfl) HB8.out (by have h1 := HL10.out; have h2 := HZ9.out; omega))); unfold WrP at HM; (with_reducible refine HM.mono ?_); clear HM; rintro e y10 ⟨rfl, ⟨A10, c10, hw⟩, hb, hk⟩; obtain ⟨z10, hz10⟩ : ∃ z, z = z9 ++ encA Cd.ent [E.sv] := ⟨_, rfl⟩; have HZQ10 := hid hz10; have HZ10 := hid (show z10.length ≤ 628409 by rw [hz10, List.length_append]; have h1 := HL10.out; have h2 := HZ9.out; omega); rw [← hz10] at hw; have D10 := hid ((D9.out.alloc _).put hw hb hk); clear hw hb hk hz10 x27)
  | fail)
 have x28 := D10.out.x.cell (i := 28) rfl
 go_upto_region 13 with (first
  | (go_at_call 61; (have HM := (show Calls Tryz.prog 61 #[.func (.func 62) #[.pointer (some ⟨w.heap.size + 1, 0, none⟩)] #[], .slice (some ⟨y10.heap.size, 0, none⟩) 1 1] (y10.alloc (.cells #[.int .i64 E.sm] 3)) (WrP (w.heap.size + 1) (z10 ++ encA eI [E.sm]) (y10.alloc (.cells #[.int .i64 E.sm] 3))) from putN (w.heap.size + 1) y10.heap.size A10 c10 z10 [E.sm] (y10.alloc (.cells #[.int .i64 E.sm] 3)) (D10.out.alloc _).wr (blk_new y10 [.int .i64 E.sm] 3) D10.out.lt (Nat.le_of_ble_eq_true rfl) HB9.out (by have h1 := HL11.out; have h2 := HZ10.out; omega))); unfold WrP at HM; (with_reducible refine HM.mono ?_); clear HM; rintro e y11 ⟨rfl, ⟨A11, c11, hw⟩, hb, hk⟩; obtain ⟨z11, hz11⟩ : ∃ z, z = z10 ++ encA eI [E.sm] := ⟨_, rfl⟩; have HZQ11 := hid hz11; have HZ11 := hid (show z11.length ≤ 628431 by rw [hz11, List.length_append]; have h1 := HL11.out; have h2 := HZ10.out; omega); rw [← hz11] at hw; have D11 := hid ((D10.out.alloc _).put hw hb hk); clear hw hb hk hz11 x28)
  | fail)
 have HF := hid (show z11 = zF by rw [← HQ.out, HZQ11.out, HZQ10.out, HZQ9.out, HZQ8.out, HZQ7.out, HZQ6.out, HZQ5.out, HZQ4.out, HZQ3.out, HZQ2.out, HZQ1.out])
 have x0 := D11.out.wr.1.cell (i := 0) rfl
 go_wp2
 go_ret
 rw [← HF.out]
 exact ⟨A11, c11, rfl, own_sl D11.out.wr.2 (by rw [HF.out]; exact HBD.out) rfl, D11.out.bel⟩
end Go.Proofs.YtablocpcgknmaaaGreatDoor
namespace Go.Proofs.YtablocpcgknmaaaGreatDoor
open Go.Lib (hid)
open Go Go.RowKit
set_option linter.unusedVariables false
set_option linter.unusedSimpArgs false
set_option maxRecDepth 100000

set_option maxHeartbeats 16000000 in
theorem rencode39 (E : Ew) (a : Aw) (w : World) (h : IsE w E a) (hs : SmZ E) : Calls Tryz.prog 39 #[.agg (ecs E a).toArray] w (SlR w (encE E)) := by
 unfold SlR
 have HE := hid h
 have HS := hid hs
 have HCT := hid (fun y (hb : Below w.heap.size w y) => rencode31 E.c a.c y (h.c.below hb) hs.c)
 unfold SlR at HCT
 have HTZ := hid (ctT_sz h hs)
 have HBD := hid (encE_bd h hs).1
 have HQ := hid (show encE E = ((((((((((((eI E.id ++ Cd.ent E.rm) ++ Cd.ent E.sd) ++ eI E.kd) ++ [if E.st then (1 : Int) else 0]) ++ Cd.ent E.ky) ++ eI E.tm) ++ eI E.dp) ++ encJ E.pv) ++ encJ E.au) ++ Cd.ent (ctT E)) ++ eI E.hs) ++ Cd.ent E.sv) ++ eI E.sm from rfl)
 obtain ⟨t, ht⟩ : ∃ t, ctT E = t := ⟨_, rfl⟩
 rw [ht] at HTZ HQ
 have HT := hid (show strOfNums (encC E.c) = t from ht)
 have HTL := hid (show (Cd.ent t).length ≤ 620011 by have h1 := HTZ.out; have := (ent_big (show t.size ≤ 640000 by omega)).2; omega)
 generalize encE E = zF at HQ HBD ⊢
 have B0 := hid ((Below.refl w.heap.size w).alloc (Nat.le_refl _) (.cells #[.int .i64 E.id, .string E.rm, .string E.sd, .int .i64 E.kd, .bool E.st, .string E.ky, .int .i64 E.tm, .int .i64 E.dp, .slice a.pA E.pv.length a.pC, .slice a.qA E.au.length a.qC, .string E.c.tx, .int .i64 E.c.n, .int .i64 E.c.tg, .bool E.c.th, .string E.c.via, .slice a.c.aA E.c.al.length a.c.aC, .slice a.c.dA E.c.dn.length a.c.dC, .slice a.c.uA E.c.us.length a.c.uC, .slice a.c.kA E.c.ks.length a.c.kC, .int .i64 E.c.d, .int .i64 E.c.x3, .int .i64 E.c.x4, .int .i64 E.c.x5, .int .i64 E.c.x6, .int .i64 E.c.x7, .int .i64 E.c.x8, .int .i64 E.hs, .string E.sv, .int .i64 E.sm] 34))
 have X0 := hid (blk_new w [.int .i64 E.id, .string E.rm, .string E.sd, .int .i64 E.kd, .bool E.st, .string E.ky, .int .i64 E.tm, .int .i64 E.dp, .slice a.pA E.pv.length a.pC, .slice a.qA E.au.length a.qC, .string E.c.tx, .int .i64 E.c.n, .int .i64 E.c.tg, .bool E.c.th, .string E.c.via, .slice a.c.aA E.c.al.length a.c.aC, .slice a.c.dA E.c.dn.length a.c.dC, .slice a.c.uA E.c.us.length a.c.uC, .slice a.c.kA E.c.ks.length a.c.kC, .int .i64 E.c.d, .int .i64 E.c.x3, .int .i64 E.c.x4, .int .i64 E.c.x5, .int .i64 E.c.x6, .int .i64 E.c.x7, .int .i64 E.c.x8, .int .i64 E.hs, .string E.sv, .int .i64 E.sm] 34)
 clear h hs ht
 show Calls Tryz.prog 39 #[.agg #[.int .i64 E.id, .string E.rm, .string E.sd, .int .i64 E.kd, .bool E.st, .string E.ky, .int .i64 E.tm, .int .i64 E.dp, .slice a.pA E.pv.length a.pC, .slice a.qA E.au.length a.qC, .string E.c.tx, .int .i64 E.c.n, .int .i64 E.c.tg, .bool E.c.th, .string E.c.via, .slice a.c.aA E.c.al.length a.c.aC, .slice a.c.dA E.c.dn.length a.c.dC, .slice a.c.uA E.c.us.length a.c.uC, .slice a.c.kA E.c.ks.length a.c.kC, .int .i64 E.c.d, .int .i64 E.c.x3, .int .i64 E.c.x4, .int .i64 E.c.x5, .int .i64 E.c.x6, .int .i64 E.c.x7, .int .i64 E.c.x8, .int .i64 E.hs, .string E.sv, .int .i64 E.sm]] w _
 generalize hW0 : w.alloc (.cells #[.int .i64 E.id, .string E.rm, .string E.sd, .int .i64 E.kd, .bool E.st, .string E.ky, .int .i64 E.tm, .int .i64 E.dp, .slice a.pA E.pv.length a.pC, .slice a.qA E.au.length a.qC, .string E.c.tx, .int .i64 E.c.n, .int .i64 E.c.tg, .bool E.c.th, .string E.c.via, .slice a.c.aA E.c.al.length a.c.aC, .slice a.c.dA E.c.dn.length a.c.dC, .slice a.c.uA E.c.us.length a.c.uC, .slice a.c.kA E.c.ks.length a.c.kC, .int .i64 E.c.d, .int .i64 E.c.x3, .int .i64 E.c.x4, .int .i64 E.c.x5, .int .i64 E.c.x6, .int .i64 E.c.x7, .int .i64 E.c.x8, .int .i64 E.hs, .string E.sv, .int .i64 E.sm] 34) = y0 at B0 X0
 go_enter Tryz.func39, Tryz.ntmps39
 go_upto_region 1 with (fail)
 have x0 := X0.out.cell (i := 0) rfl
 go_upto_region 2 with (first
  | (go_at_call 79; (have HM := (show Calls Tryz.prog 79 #[.slice none 0 0, .int .i64 E.id] y0 (SlP y0 ([] ++ eI E.id)) from (rI E.id HE.out.id y0 none 0 [] (Cd.Sl.empty _ none 0 (fun _ => rfl)) (Nat.zero_le _)))); unfold SlP at HM; (rw [List.nil_append] at HM); obtain ⟨z1, hz1⟩ : ∃ z, z = eI E.id := ⟨_, rfl⟩; rw [← hz1] at HM; (with_reducible refine HM.mono ?_); clear HM; rintro e y1 ⟨A1, c1, rfl, hs, ho, hb⟩; have S1 := hid hs; have X1 := hid (X0.out.below hb); have B1 := hid (B0.out.trans (hb.mono B0.out.size)); have Q1 := hid hz1; have L1 := hid (show z1.length ≤ 11 by rw [hz1]; have := (eI_bd HE.out.id).2; omega); clear hs ho hb hz1 x0)
  | fail)
 have x1 := X1.out.cell (i := 1) rfl
 go_upto_region 3 with (first
  | (go_at_call 80; (have HM := rT E.rm HS.out.rm y1 A1 c1 z1 S1.out (by have := L1.out; omega)); unfold SlP at HM; obtain ⟨z2, hz2⟩ : ∃ z, z = z1 ++ Cd.ent E.rm := ⟨_, rfl⟩; rw [← hz2] at HM; (with_reducible refine HM.mono ?_); clear HM; rintro e y2 ⟨A2, c2, rfl, hs, ho, hb⟩; have S2 := hid hs; have X2 := hid (X1.out.below hb); have B2 := hid (B1.out.trans (hb.mono B1.out.size)); have Q2 := hid hz2; have L2 := hid (show z2.length ≤ 1022 by rw [hz2, List.length_append]; have h1 := (ent_bd2 HS.out.rm).2; have h2 := L1.out; omega); clear hs ho hb hz2 x1)
  | fail)
 have x2 := X2.out.cell (i := 2) rfl
 go_upto_region 4 with (first
  | (go_at_call 80; (have HM := rT E.sd HS.out.sd y2 A2 c2 z2 S2.out (by have := L2.out; omega)); unfold SlP at HM; obtain ⟨z3, hz3⟩ : ∃ z, z = z2 ++ Cd.ent E.sd := ⟨_, rfl⟩; rw [← hz3] at HM; (with_reducible refine HM.mono ?_); clear HM; rintro e y3 ⟨A3, c3, rfl, hs, ho, hb⟩; have S3 := hid hs; have X3 := hid (X2.out.below hb); have B3 := hid (B2.out.trans (hb.mono B2.out.size)); have Q3 := hid hz3; have L3 := hid (show z3.length ≤ 2033 by rw [hz3, List.length_append]; have h1 := (ent_bd2 HS.out.sd).2; have h2 := L2.out; omega); clear hs ho hb hz3 x2)
  | fail)
 have x3 := X3.out.cell (i := 3) rfl
 go_upto_region 5 with (first
  | (go_at_call 79; (have HM := rI E.kd HE.out.kd y3 A3 c3 z3 S3.out (by have := L3.out; omega)); unfold SlP at HM; obtain ⟨z4, hz4⟩ : ∃ z, z = z3 ++ eI E.kd := ⟨_, rfl⟩; rw [← hz4] at HM; (with_reducible refine HM.mono ?_); clear HM; rintro e y4 ⟨A4, c4, rfl, hs, ho, hb⟩; have S4 := hid hs; have X4 := hid (X3.out.below hb); have B4 := hid (B3.out.trans (hb.mono B3.out.size)); have Q4 := hid hz4; have L4 := hid (show z4.length ≤ 2044 by rw [hz4, List.length_append]; have h1 := (eI_bd HE.out.kd).2; have h2 := L3.out; omega); clear hs ho hb hz4 x3)
  | fail)
 have x4 := X4.out.cell (i := 4) rfl
 go_upto_region 6 with (first
  | (go_at_call 81; (have HM := rB E.st y4 A4 c4 z4 S4.out (by have := L4.out; omega)); unfold SlP at HM; obtain ⟨z5, hz5⟩ : ∃ z, z = z4 ++ [if E.st then (1 : Int) else 0] := ⟨_, rfl⟩; rw [← hz5] at HM; (with_reducible refine HM.mono ?_); clear HM; rintro e y5 ⟨A5, c5, rfl, hs, ho, hb⟩; have S5 := hid hs; have X5 := hid (X4.out.below hb); have B5 := hid (B4.out.trans (hb.mono B4.out.size)); have Q5 := hid hz5; have L5 := hid (show z5.length ≤ 2045 by rw [hz5, List.length_append]; have h1 := (show ([if E.st then (1 : Int) else 0] : List Int).length ≤ 1 from Nat.le_refl 1); have h2 := L4.out; omega); clear hs ho hb hz5 x4)
  | fail)
 have x5 := X5.out.cell (i := 5) rfl
 go_upto_region 7 with (first
  | (go_at_call 80; (have HM := rT E.ky HS.out.ky y5 A5 c5 z5 S5.out (by have := L5.out; omega)); unfold SlP at HM; obtain ⟨z6, hz6⟩ : ∃ z, z = z5 ++ Cd.ent E.ky := ⟨_, rfl⟩; rw [← hz6] at HM; (with_reducible refine HM.mono ?_); clear HM; rintro e y6 ⟨A6, c6, rfl, hs, ho, hb⟩; have S6 := hid hs; have X6 := hid (X5.out.below hb); have B6 := hid (B5.out.trans (hb.mono B5.out.size)); have Q6 := hid hz6; have L6 := hid (show z6.length ≤ 3056 by rw [hz6, List.length_append]; have h1 := (ent_bd2 HS.out.ky).2; have h2 := L5.out; omega); clear hs ho hb hz6 x5)
  | fail)
 have x6 := X6.out.cell (i := 6) rfl
 go_upto_region 8 with (first
  | (go_at_call 79; (have HM := rI E.tm HE.out.tm y6 A6 c6 z6 S6.out (by have := L6.out; omega)); unfold SlP at HM; obtain ⟨z7, hz7⟩ : ∃ z, z = z6 ++ eI E.tm := ⟨_, rfl⟩; rw [← hz7] at HM; (with_reducible refine HM.mono ?_); clear HM; rintro e y7 ⟨A7, c7, rfl, hs, ho, hb⟩; have S7 := hid hs; have X7 := hid (X6.out.below hb); have B7 := hid (B6.out.trans (hb.mono B6.out.size)); have Q7 := hid hz7; have L7 := hid (show z7.length ≤ 3067 by rw [hz7, List.length_append]; have h1 := (eI_bd HE.out.tm).2; have h2 := L6.out; omega); clear hs ho hb hz7 x6)
  | fail)
 have x7 := X7.out.cell (i := 7) rfl
 go_upto_region 9 with (first
  | (go_at_call 79; (have HM := rI E.dp HE.out.dp y7 A7 c7 z7 S7.out (by have := L7.out; omega)); unfold SlP at HM; obtain ⟨z8, hz8⟩ : ∃ z, z = z7 ++ eI E.dp := ⟨_, rfl⟩; rw [← hz8] at HM; (with_reducible refine HM.mono ?_); clear HM; rintro e y8 ⟨A8, c8, rfl, hs, ho, hb⟩; have S8 := hid hs; have X8 := hid (X7.out.below hb); have B8 := hid (B7.out.trans (hb.mono B7.out.size)); have Q8 := hid hz8; have L8 := hid (show z8.length ≤ 3078 by rw [hz8, List.length_append]; have h1 := (eI_bd HE.out.dp).2; have h2 := L7.out; omega); clear hs ho hb hz8 x7)
  | fail)
 have x8 := X8.out.cell (i := 8) rfl
 go_upto_region 10 with (first
  | (go_at_call 82; (have HM := rJ a.pA a.pC E.pv y8 A8 c8 z8 S8.out (by have := L8.out; omega) (HE.out.pv.below B8.out) HS.out.pv); unfold SlP at HM; obtain ⟨z9, hz9⟩ : ∃ z, z = z8 ++ encJ E.pv := ⟨_, rfl⟩; rw [← hz9] at HM; (with_reducible refine HM.mono ?_); clear HM; rintro e y9 ⟨A9, c9, rfl, hs, ho, hb⟩; have S9 := hid hs; have X9 := hid (X8.out.below hb); have B9 := hid (B8.out.trans (hb.mono B8.out.size)); have Q9 := hid hz9; have L9 := hid (show z9.length ≤ 4189 by rw [hz9, List.length_append]; have h1 := (encJ_bd HE.out.pv.fit HS.out.pv).2; have h2 := L8.out; omega); clear hs ho hb hz9 x8)
  | fail)
 have x9 := X9.out.cell (i := 9) rfl
 go_upto_region 11 with (first
  | (go_at_call 82; (have HM := rJ a.qA a.qC E.au y9 A9 c9 z9 S9.out (by have := L9.out; omega) (HE.out.au.below B9.out) HS.out.au); unfold SlP at HM; obtain ⟨z10, hz10⟩ : ∃ z, z = z9 ++ encJ E.au := ⟨_, rfl⟩; rw [← hz10] at HM; (with_reducible refine HM.mono ?_); clear HM; rintro e y10 ⟨A10, c10, rfl, hs, ho, hb⟩; have S10 := hid hs; have X10 := hid (X9.out.below hb); have B10 := hid (B9.out.trans (hb.mono B9.out.size)); have Q10 := hid hz10; have L10 := hid (show z10.length ≤ 5300 by rw [hz10, List.length_append]; have h1 := (encJ_bd HE.out.au.fit HS.out.au).2; have h2 := L9.out; omega); clear hs ho hb hz10 x9)
  | fail)
 go_upto_region 12 with (first
  | (refine wpList_load_mid rfl 30 _ rfl w.heap.size 10 rfl (ccs E.c a.c) _ (X10.out.mid 10 16) Tryz.underlying30 rfl size29 ?_)
  | (go_at_call 52; (with_reducible refine (HCT.out y10 B10.out).mono ?_); rintro e yc ⟨Ac, cc, rfl, hs, hb⟩; have SC := hid (S10.out.below hb); have XC := hid (X10.out.below hb); have BC := hid (B10.out.trans (hb.mono B10.out.size)); have hcv := Cd.conv_sl hs; rw [HT.out] at hcv; clear hs hb)
  | (go_at_call 80; (have HM := rX t (Nat.le_trans HTZ.out (by decide)) yc A10 c10 z10 SC.out (by have := L10.out; omega)); unfold SlP at HM; obtain ⟨z11, hz11⟩ : ∃ z, z = z10 ++ Cd.ent t := ⟨_, rfl⟩; rw [← hz11] at HM; (with_reducible refine HM.mono ?_); clear HM; rintro e y11 ⟨A11, c11, rfl, hs, ho, hb⟩; have S11 := hid hs; have X11 := hid (XC.out.below hb); have B11 := hid (BC.out.trans (hb.mono BC.out.size)); have Q11 := hid hz11; have L11 := hid (show z11.length ≤ 625311 by rw [hz11, List.length_append]; have h1 := HTL.out; have h2 := L10.out; omega); clear hs ho hb hz11  hcv)
  | fail)
 have x26 := X11.out.cell (i := 26) rfl
 go_upto_region 13 with (first
  | (go_at_call 79; (have HM := rI E.hs HE.out.hs y11 A11 c11 z11 S11.out (by have := L11.out; omega)); unfold SlP at HM; obtain ⟨z12, hz12⟩ : ∃ z, z = z11 ++ eI E.hs := ⟨_, rfl⟩; rw [← hz12] at HM; (with_reducible refine HM.mono ?_); clear HM; rintro e y12 ⟨A12, c12, rfl, hs, ho, hb⟩; have S12 := hid hs; have X12 := hid (X11.out.below hb); have B12 := hid (B11.out.trans (hb.mono B11.out.size)); have Q12 := hid hz12; have L12 := hid (show z12.length ≤ 625322 by rw [hz12, List.length_append]; have h1 := (eI_bd HE.out.hs).2; have h2 := L11.out; omega); clear hs ho hb hz12 x26)
  | fail)
 have x27 := X12.out.cell (i := 27) rfl
 go_upto_region 14 with (first
  | (go_at_call 80; (have HM := rT E.sv HS.out.sv y12 A12 c12 z12 S12.out (by have := L12.out; omega)); unfold SlP at HM; obtain ⟨z13, hz13⟩ : ∃ z, z = z12 ++ Cd.ent E.sv := ⟨_, rfl⟩; rw [← hz13] at HM; (with_reducible refine HM.mono ?_); clear HM; rintro e y13 ⟨A13, c13, rfl, hs, ho, hb⟩; have S13 := hid hs; have X13 := hid (X12.out.below hb); have B13 := hid (B12.out.trans (hb.mono B12.out.size)); have Q13 := hid hz13; have L13 := hid (show z13.length ≤ 626333 by rw [hz13, List.length_append]; have h1 := (ent_bd2 HS.out.sv).2; have h2 := L12.out; omega); clear hs ho hb hz13 x27)
  | fail)
 have x28 := X13.out.cell (i := 28) rfl
 go_wp2_with (first
  | (go_at_call 79; (have HM := rI E.sm HE.out.sm y13 A13 c13 z13 S13.out (by have := L13.out; omega)); unfold SlP at HM; obtain ⟨z14, hz14⟩ : ∃ z, z = z13 ++ eI E.sm := ⟨_, rfl⟩; rw [← hz14] at HM; (with_reducible refine HM.mono ?_); clear HM; rintro e y14 ⟨A14, c14, rfl, hs, ho, hb⟩; have S14 := hid hs; have X14 := hid (X13.out.below hb); have B14 := hid (B13.out.trans (hb.mono B13.out.size)); have Q14 := hid hz14; have L14 := hid (show z14.length ≤ 626344 by rw [hz14, List.length_append]; have h1 := (eI_bd HE.out.sm).2; have h2 := L13.out; omega); clear hs ho hb hz14 x28)
  | fail)
 go_ret
 have HF := hid (show z14 = zF by rw [HQ.out, Q14.out, Q13.out, Q12.out, Q11.out, Q10.out, Q9.out, Q8.out, Q7.out, Q6.out, Q5.out, Q4.out, Q3.out, Q2.out, Q1.out])
 rw [← HF.out]
 exact ⟨A14, c14, rfl, S14.out, B14.out⟩
end Go.Proofs.YtablocpcgknmaaaGreatDoor
