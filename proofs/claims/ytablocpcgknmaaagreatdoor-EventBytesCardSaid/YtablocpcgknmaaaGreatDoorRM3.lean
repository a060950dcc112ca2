/- What the decoder reads fits. Bounds: at most 800000 bytes. No condition. -/
import Derived.Test.YtablocpcgknmaaaGreatDoorRK44
namespace Go.Proofs.YtablocpcgknmaaaGreatDoor
open Go Go.RowKit
set_option linter.unusedVariables false
set_option linter.unusedSimpArgs false

/-- Bytes, at most 800000. -/
def BZ (zs : List Int) : Prop := (∀ z ∈ zs, 0 ≤ z ∧ z ≤ 255) ∧ zs.length ≤ 800000
theorem BZ.nil : BZ [] := ⟨fun z hz => (by cases hz), Nat.zero_le _⟩
theorem BZ.drop {zs : List Int} (h : BZ zs) (k : Nat) : BZ (zs.drop k) := ⟨fun z hz => h.1 z (List.mem_of_mem_drop hz), by rw [List.length_drop]; have := h.2; omega⟩
theorem BZ.di {zs : List Int} (h : BZ zs) {x : Int} {r : List Int} (e : Cd.di zs = some (x, r)) : i64B x ∧ BZ r := by
 refine ⟨(Cd.C.in64_iff x).1 (Cd.di_ok h.1 e), ?_⟩
 unfold Cd.di at e
 cases hd : Cd.C.dec zs with
 | none => rw [hd] at e; cases e
 | some p =>
  rw [hd] at e
  simp only [Option.map_some, Option.some.injEq, Prod.mk.injEq] at e
  rw [← e.2]; exact h.drop _
theorem BZ.cnt {zs : List Int} (h : BZ zs) {n : Nat} {r : List Int} (e : Cd.cnt zs = some (n, r)) : BZ r := by
 obtain ⟨_, _, u, k, _, _, e2⟩ := Cd.cnt_rest e
 rw [e2]; exact h.drop _
theorem BZ.dt {zs : List Int} (h : BZ zs) {x : ByteArray} {r : List Int} (e : Cd.dt zs = some (x, r)) : x.size ≤ 1000000 ∧ BZ r := by
 refine ⟨Cd.dt_ok h.1 (by have := h.2; omega) e, ?_⟩
 unfold Cd.dt at e
 cases hd : Cd.cnt zs with
 | none => rw [hd] at e; cases e
 | some p =>
  obtain ⟨n, q⟩ := p
  rw [hd] at e
  simp only [Option.map_some, Option.some.injEq, Prod.mk.injEq] at e
  rw [← e.2]; exact (h.cnt hd).drop _
theorem lst_ok {α : Type} {one : List Int → Option (α × List Int)} (P : α → Prop) (h1 : ∀ zs x r, BZ zs → one zs = some (x, r) → P x ∧ BZ r) : ∀ (n : Nat) (zs : List Int) (xs : List α) (r : List Int), BZ zs → Cd.lst one n zs = some (xs, r) → (∀ x ∈ xs, P x) ∧ BZ r ∧ xs.length = n := by
 intro n
 induction n with
 | zero =>
  intro zs xs r hb h
  simp only [Cd.lst, Option.some.injEq, Prod.mk.injEq] at h
  obtain ⟨rfl, rfl⟩ := h
  exact ⟨by simp, hb, rfl⟩
 | succ n ih =>
  intro zs xs r hb h
  cases hd : one zs with
  | none => simp [Cd.lst, hd] at h
  | some p =>
   obtain ⟨x, r1⟩ := p
   cases hl : Cd.lst one n r1 with
   | none => simp [Cd.lst, hd, hl] at h
   | some q =>
    obtain ⟨ys, r2⟩ := q
    simp only [Cd.lst, hd, hl, Option.bind_some, Option.map_some, Option.some.injEq, Prod.mk.injEq] at h
    obtain ⟨rfl, rfl⟩ := h
    have i0 := h1 zs x r1 hb hd
    have i := ih r1 ys r2 i0.2 hl
    refine ⟨fun y hy => ?_, i.2.1, by simp [i.2.2]⟩
    rcases List.mem_cons.1 hy with rfl | hy
    ·exact i0.1
    ·exact i.1 y hy
theorem BZ.dU {zs : List Int} {x : ByteArray × Int} {r : List Int} (h : BZ zs) (e : dU zs = some (x, r)) : (x.1.size ≤ 9223372036854775807 ∧ i64B x.2) ∧ BZ r := by
 unfold Go.Proofs.YtablocpcgknmaaaGreatDoor.dU at e
 cases hd : Cd.dt zs with
 | none => rw [hd] at e; cases e
 | some p =>
  rw [hd] at e
  simp only [Option.bind_some] at e
  cases hi : Cd.di p.2 with
  | none => rw [hi] at e; cases e
  | some q =>
   rw [hi] at e
   simp only [Option.map_some, Option.some.injEq, Prod.mk.injEq] at e
   obtain ⟨e1, e2⟩ := e
   subst e1 e2
   have a := h.dt (x := p.1) (r := p.2) hd
   have b := a.2.di (x := q.1) (r := q.2) hi
   exact ⟨⟨by show p.1.size ≤ _; have := a.1; omega, b.1⟩, b.2⟩
theorem BZ.dK {zs : List Int} {x : Int × Int} {r : List Int} (h : BZ zs) (e : dK zs = some (x, r)) : (i64B x.1 ∧ i64B x.2) ∧ BZ r := by
 unfold Go.Proofs.YtablocpcgknmaaaGreatDoor.dK at e
 cases hd : Cd.di zs with
 | none => rw [hd] at e; cases e
 | some p =>
  rw [hd] at e
  simp only [Option.bind_some] at e
  cases hi : Cd.di p.2 with
  | none => rw [hi] at e; cases e
  | some q =>
   rw [hi] at e
   simp only [Option.map_some, Option.some.injEq, Prod.mk.injEq] at e
   obtain ⟨e1, e2⟩ := e
   subst e1 e2
   have a := h.di (x := p.1) (r := p.2) hd
   have b := a.2.di (x := q.1) (r := q.2) hi
   exact ⟨⟨a.1, b.1⟩, b.2⟩
theorem BZ.gtkI {zs : List Int} (h : BZ zs) (f : Bool) : i64B (gtkI zs f).1 ∧ BZ (gtkI zs f).2.1 := by
 unfold Go.Proofs.YtablocpcgknmaaaGreatDoor.gtkI
 cases f with
 | true => exact ⟨show i64B 0 from by unfold i64B; decide, h⟩
 | false =>
  rw [if_neg (by decide)]
  cases hd : Cd.di zs with
  | none => exact ⟨show i64B 0 from by unfold i64B; decide, BZ.nil⟩
  | some p => exact h.di (x := p.1) (r := p.2) hd
theorem BZ.gtkT {zs : List Int} (h : BZ zs) (f : Bool) : (gtkT zs f).1.size ≤ 1000000 ∧ BZ (gtkT zs f).2.1 := by
 unfold Go.Proofs.YtablocpcgknmaaaGreatDoor.gtkT
 cases f with
 | true => exact ⟨show (⟨#[]⟩ : ByteArray).size ≤ 1000000 by decide, h⟩
 | false =>
  rw [if_neg (by decide)]
  cases hd : Cd.dt zs with
  | none => exact ⟨show (⟨#[]⟩ : ByteArray).size ≤ 1000000 by decide, BZ.nil⟩
  | some p => exact h.dt (x := p.1) (r := p.2) hd
theorem BZ.gtkL {zs : List Int} (h : BZ zs) (f : Bool) : (gtkL zs f).1.length ≤ 800000 ∧ BZ (gtkL zs f).2.1 := by
 unfold Go.Proofs.YtablocpcgknmaaaGreatDoor.gtkL
 cases f with
 | true => exact ⟨Nat.zero_le _, h⟩
 | false =>
  rw [if_neg (by decide)]
  cases hd : Cd.gts zs with
  | none => exact ⟨Nat.zero_le _, BZ.nil⟩
  | some p =>
   unfold Cd.gts at hd
   cases hc : Cd.cnt zs with
   | none => rw [hc] at hd; cases hd
   | some q =>
    obtain ⟨n, r⟩ := q
    rw [hc] at hd
    simp only [Option.bind_some] at hd
    have a := h.cnt hc
    have b := lst_ok (fun s : ByteArray => s.size ≤ 1000000) (fun zs x r hz e => hz.dt e) n r p.1 p.2 a hd
    refine ⟨?_, b.2.1⟩
    show p.1.length ≤ 800000
    have := Cd.cnt_rest hc
    have := h.2
    rw [b.2.2]; omega
theorem BZ.cntk {zs : List Int} (h : BZ zs) (f : Bool) : BZ (cntk zs f).2.1 := by
 unfold Go.Proofs.YtablocpcgknmaaaGreatDoor.cntk
 split
 ·exact (h.gtkI f).2
 ·exact (h.gtkI f).2
theorem bz_takes {zs : List Int} (h : BZ zs) (f : Bool) : ∀ n, (∀ x ∈ (takes zs f n).1, i64B x) ∧ BZ (takes zs f n).2.1
 | 0 => ⟨fun x hx => (by cases hx), h⟩
 |n + 1 => by
  have i := bz_takes h f n
  have j := i.2.gtkI (takes zs f n).2.2
  refine ⟨fun x hx => ?_, j.2⟩
  rcases List.mem_append.1 hx with hx | hx
  ·exact i.1 x hx
  ·rw [List.mem_singleton] at hx
   rw [hx]; exact j.1
/-- Levels whose numbers fit. -/
structure LvF (L : Lv) : Prop where
 fu : ∀ p ∈ L.us, p.1.size ≤ 9223372036854775807 ∧ i64B p.2
 fk : ∀ p ∈ L.ks, i64B p.1 ∧ i64B p.2
 nm : i64B L.d ∧ i64B L.x3 ∧ i64B L.x4 ∧ i64B L.x5 ∧ i64B L.x6 ∧ i64B L.x7 ∧ i64B L.x8
 lu : L.us.length ≤ 800000
 lk : L.ks.length ≤ 800000
theorem dcL_ok {zs : List Int} (h : BZ zs) {f : Bool} {L : Lv} {r : List Int} (e : dcL zs f = some (L, r)) : LvF L ∧ BZ r := by
 unfold dcL at e
 have hc := h.cntk f
 obtain ⟨n1, z1, g1, e1, hn1, _, _, _⟩ := cntk_nat zs f
 rw [e1] at e hc
 dsimp only at e hc
 rw [Int.toNat_natCast] at e
 cases g1 with
 | true => cases e
 | false =>
  rw [if_neg (by decide)] at e
  cases hu : Cd.lst dU n1 z1 with
  | none => rw [hu] at e; cases e
  | some u =>
   rw [hu] at e
   simp only [Option.bind_some] at e
   have a := lst_ok (fun p : ByteArray × Int => p.1.size ≤ 9223372036854775807 ∧ i64B p.2) (fun zs x r hz e => hz.dU e) n1 z1 u.1 u.2 hc hu
   unfold dc2 at e
   have hc2 := a.2.1.cntk false
   obtain ⟨n2, z2, g2, e2, hn2, _, _, _⟩ := cntk_nat u.2 false
   rw [e2] at e hc2
   dsimp only at e hc2
   rw [Int.toNat_natCast] at e
   cases g2 with
   | true => cases e
   | false =>
    rw [if_neg (by decide)] at e
    cases hk : Cd.lst dK n2 z2 with
    | none => rw [hk] at e; cases e
    | some k =>
     rw [hk] at e
     simp only [Option.bind_some] at e
     have b := lst_ok (fun p : Int × Int => i64B p.1 ∧ i64B p.2) (fun zs x r hz e => hz.dK e) n2 z2 k.1 k.2 hc2 hk
     unfold dc3 at e
     have c := bz_takes b.2.1 false 7
     have cl := takes_len k.2 false 7
     generalize takes k.2 false 7 = t at e c cl
     obtain ⟨vs, z3, g3⟩ := t
     dsimp only at e c cl
     cases g3 with
     | true => cases e
     | false =>
      rw [if_neg (by decide)] at e
      simp only [Option.some.injEq, Prod.mk.injEq] at e
      obtain ⟨e3, e4⟩ := e
      subst e3 e4
      have q1 := hc.2
      have q2 := hc2.2
      match vs, cl, c with
      | [v1, v2, v3, v4, v5, v6, v7], _, c =>
       exact ⟨⟨a.1, b.1, ⟨c.1 v1 (by simp), c.1 v2 (by simp), c.1 v3 (by simp), c.1 v4 (by simp), c.1 v5 (by simp), c.1 v6 (by simp), c.1 v7 (by simp)⟩, by show u.1.length ≤ _; rw [a.2.2]; omega, by show k.1.length ≤ _; rw [b.2.2]; omega⟩, c.2⟩
theorem rows_isl {w : World} {B : Nat} {L : Lv} {uA : Option Addr} {uC : Nat} {kA : Option Addr} {kC : Nat} (hf : LvF L) (h1 : w.ownsRow B 73 2 (.slice uA L.us.length uC) L.us.length (flat L.us.length (rowU (fU L.us)))) (h2 : w.ownsRow B 131 2 (.slice kA L.ks.length kC) L.ks.length (flat L.ks.length (rowK (fK L.ks)))) : IsL w L uA uC kA kC := by
 refine ⟨own_rows h1 (fun j hj => rfl) (fun j hj u hu => ?_) (by have := hf.lu; unfold maxLen; omega), own_rows h2 (fun j hj => rfl) (fun j hj u hu => ?_) (by have := hf.lk; unfold maxLen; omega), hf.fu, hf.fk, hf.nm⟩
 ·unfold rowU at hu
  simp only [List.mem_cons, List.not_mem_nil, or_false] at hu
  rcases hu with hu | hu <;> rw [hu] <;> rfl
 ·unfold rowK at hu
  simp only [List.mem_cons, List.not_mem_nil, or_false] at hu
  rcases hu with hu | hu <;> rw [hu] <;> rfl
theorem ts_txs {w : World} {A : Option Addr} {n c : Nat} {zs : List ByteArray} (h : Cd.Ts w A n c zs) (hl : n ≤ 800000) : Txs w A n c zs := by
 refine ⟨⟨fun j hj => rfl, fun j hj u hu => ?_, by unfold maxLen; omega, fun e => ?_, ?_⟩, h.sz, h.le, fun s hs => by have : s.size ≤ 1000000 := h.bd s hs; omega⟩
 ·unfold rowS at hu
  rw [List.mem_singleton] at hu
  rw [hu]; rfl
 ·have h1 := h.nl e
  have h2 := h.le
  exact ⟨by omega, h1⟩
 ·rcases Nat.eq_zero_or_pos n with h0 | h0
  ·exact .inl h0
  ·obtain ⟨b, off, e, hlt, hc⟩ := h.cell h0
   refine .inr ⟨b, off, e, hlt, fun j hj i v hv => ?_⟩
   have hi : i = 0 := by
    rcases Nat.eq_zero_or_pos i with h1 | h1
    ·exact h1
    ·rw [List.getElem?_eq_none (by unfold rowS; simp; omega)] at hv; cases hv
   subst hi
   rw [Nat.mul_one, Nat.add_zero, hc j hj]
   exact hv
/-- The whole content, when all was read and nothing is left. -/
def dcE (x0 : ByteArray) (x1 x2 : Int) (x3 : Bool) (x4 : ByteArray) (x5 x6 : List ByteArray) (r : Option (Lv × List Int)) : Option Cn := match r with
 | some (L, z) => if z.length = 0 then some ⟨x0, x1, x2, x3, x4, x5, x6, L.us, L.ks, L.d, L.x3, L.x4, L.x5, L.x6, L.x7, L.x8⟩ else none
 | none => none
theorem dcE_no {x0 : ByteArray} {x1 x2 : Int} {x3 : Bool} {x4 : ByteArray} {x5 x6 : List ByteArray} {r : Option (Lv × List Int)} {L : Lv} {z : List Int} {g : Bool} {R : Prop} (h : g = true ∧ r = none ∨ g = false ∧ r = some (L, z) ∧ R) (hq : (!g && decide (z.length = 0)) = false) : dcE x0 x1 x2 x3 x4 x5 x6 r = none := by
 rcases h with ⟨rfl, rfl⟩ | ⟨rfl, rfl, _⟩
 ·rfl
 ·simp only [Bool.not_false, Bool.true_and, decide_eq_false_iff_not] at hq
  exact if_neg hq
theorem dcE_yes {x0 : ByteArray} {x1 x2 : Int} {x3 : Bool} {x4 : ByteArray} {x5 x6 : List ByteArray} {r : Option (Lv × List Int)} {L : Lv} {z : List Int} {g : Bool} {R : Prop} (h : g = true ∧ r = none ∨ g = false ∧ r = some (L, z) ∧ R) (hq : (!g && decide (z.length = 0)) = true) : dcE x0 x1 x2 x3 x4 x5 x6 r = some ⟨x0, x1, x2, x3, x4, x5, x6, L.us, L.ks, L.d, L.x3, L.x4, L.x5, L.x6, L.x7, L.x8⟩ ∧ r = some (L, z) ∧ R := by
 rcases h with ⟨rfl, rfl⟩ | ⟨rfl, rfl, hR⟩
 ·cases hq
 ·simp only [Bool.not_false, Bool.true_and, decide_eq_true_eq] at hq
  exact ⟨if_pos hq, rfl, hR⟩
/-- What a decoder gives: the content, its lists where they lie, or nothing. -/
def DcG (r : Option Cn) (w : World) (e : Ending) (w' : World) : Prop := ∃ (C : Cn) (a : Ads), e = .returned (.tuple #[.agg (ccs C a).toArray, .bool r.isSome]) ∧ IsC w' C a ∧ Below w.heap.size w w' ∧ (r = some C ∨ r = none ∧ C = c0) ∧ GtC w.heap.size C a
end Go.Proofs.YtablocpcgknmaaaGreatDoor
namespace Go.Proofs.YtablocpcgknmaaaGreatDoor.Cd
open Go.Lib (hid)
open Go Go.RowKit
set_option linter.unusedVariables false
set_option linter.unusedSimpArgs false
set_option maxRecDepth 100000

/-- Texts in a row that lies past B. -/
def TsN (B : Nat) (w : World) (A : Option Addr) (n c : Nat) (zs : List ByteArray) : Prop := Ts w A n c zs ∧ ∀ b off, A = some ⟨b, off, none⟩ → B ≤ b
set_option maxHeartbeats 1600000 in
theorem cutTexts_new (a : Option Addr) (len cap : Nat) (zs : List Int) (hl : len ≤ 900000) (w : World) (h : Sl w a len cap zs) :
  Calls Tryz.prog 208 #[.slice a len cap, .func (.func 132) #[] #[]] w (GotL (TsN w.heap.size) (gts zs) w) := by
 have H := hid h
 have HL := hid (show zs.length ≤ 900000 by rw [h.sz]; exact hl)
 clear h
 cases hc : cnt zs with
 | none =>
  have HG := hid (show gc zs = none by unfold gc; rw [hc]; rfl)
  have HN := hid (show gts zs = none by unfold gts; rw [hc]; rfl)
  clear hc
  go_enter Tryz.func208, Tryz.ntmps208
  go_wp2_with (go_at_call 188; refine (cutCount_any _ _ _ zs hl _ H.out).mono ?_; intro e w1 hgot; obtain ⟨rfl, hb1⟩ := got_no hgot HG.out; have HB := hid hb1; clear hb1 hgot)
  go_ret3
  exact gotl_none HN.out HB.out
 | some p =>
  obtain ⟨n, rest⟩ := p
  have HG := hid (show gc zs = some (.int .i64 (n : Int), rest) by unfold gc; rw [hc]; rfl)
  have HN := hid (show gts zs = lst dt n rest by unfold gts; rw [hc]; rfl)
  have hnr := (cnt_rest hc).1
  have hrz := (cnt_rest hc).2.1
  have hrl : rest.length ≤ 900000 := Nat.le_trans hrz HL.out
  have hn9 : n ≤ 900000 := Nat.le_trans hnr hrl
  have HRL := hid hrl
  clear hc hnr hrz hrl
  go_enter Tryz.func208, Tryz.ntmps208
  go_wp2_with (first
   | (go_at_call 188; refine (cutCount_any _ _ _ zs hl _ H.out).mono ?_; intro e w1 hgot; obtain ⟨A1, c1, rfl, hs1, hb1⟩ := got_yes hgot HG.out; have HB := hid hb1; have HS := hid hs1; clear hb1 hgot hs1)
   | ((with_reducible refine wpList_makeT rfl rfl n ?_ (by omega) ?_); (rfl); intro w2 hr2 hb2 hl2; have HR2 := hid hr2; have HB2 := hid hb2; have HL2 := hid hl2; clear hr2 hb2 hl2))
  go_loopw [8, 9, 11, 24] (fun r ok i j wr => ∃ (A : Option Addr) (c k : Nat) (xs : List ByteArray) (rs : List Int), k ≤ n ∧ j = .int .i64 k ∧ r = .slice A rs.length c ∧ Hid (Prg dt n rest k xs rs) ∧ Hid (Sl wr A rs.length c rs) ∧ Hid (wr.ownsRow w1.heap.size 9 1 (.slice (some ⟨w1.heap.size, 0, none⟩) n n) n ((xs ++ List.replicate (n - k) (⟨#[]⟩ : ByteArray)).map Value.string)) ∧ Hid (∀ z ∈ xs, Small z) ∧ Hid (Below w.heap.size w wr) ∧ Hid (w1.heap.size < wr.heap.size)) (fun _ _ _ j _ => n - (intOf j).toNat)
  case atStart => exact ⟨A1, c1, 0, [], rest, Nat.zero_le _, rfl, rfl, hid prg_zero, hid (HS.out.below HB2.out), HR2, hid (by simp), hid (HB.out.trans (HB2.out.mono HB.out.size)), HL2⟩
  case round =>
   obtain ⟨A2, c2, k, xs, rs, hk, rfl, rfl, HP, HS2, HR, HK, HBr, HLr⟩ := hrel
   by_cases hlt : k < n
   ·have hrs : rs.length ≤ 900000 := Nat.le_trans HP.out.rl HRL.out
    have HBg := hid HB.out.size
    cases hd : dt rs with
    | none =>
     have HGr := hid (show gt rs = none by rw [gt_dt, hd]; rfl)
     have HF := hid (HN.out.trans (prg_none HP.out hlt hd))
     clear hd
     go_wp2_with (go_at_call 132; refine (cutText_any _ _ _ rs hrs _ HS2.out).mono ?_; intro e w3 hgot; obtain ⟨rfl, hb3⟩ := got_no hgot HGr.out; have hrow := row_keep HR.out hb3; have hcell := row_cell Value.string (⟨#[]⟩ : ByteArray) hrow hlt HP.out.sz; have hfr := hrow.frozenAt k; have HB3 := hid (HBr.out.trans (hb3.mono HBr.out.size)); clear hb3 hgot hrow)
     go_ret3
     exact gotl_none HF.out (HB3.out.setCell HBg.out _)
    | some p =>
     obtain ⟨x, r'⟩ := p
     have HGr := hid (show gt rs = some (Value.string x, r') by rw [gt_dt, hd]; rfl)
     have HP2 := hid (prg_some HP.out hlt hd (dt_len hd))
     have HX := hid (dt_ok HS2.out.bd (Nat.le_trans hrs (by decide)) hd)
     clear hd
     go_wp2_with (go_at_call 132; refine (cutText_any _ _ _ rs hrs _ HS2.out).mono ?_; intro e w3 hgot; obtain ⟨A3, c3, rfl, hs3, hb3⟩ := got_yes hgot HGr.out; have hrow := row_keep HR.out hb3; have hcell := row_cell Value.string (⟨#[]⟩ : ByteArray) hrow hlt HP.out.sz; have hfr := hrow.frozenAt k; have HB3 := hid (HBr.out.trans (hb3.mono HBr.out.size)); have HS3 := hid (sl_stored hs3 hrow (map_ne (fun x z h => by cases h) _) k (Value.string x)); have HR3 := hid (row_step Value.string (⟨#[]⟩ : ByteArray) hrow x hlt HP.out.sz); have HL3 := hid (Nat.lt_of_lt_of_le HLr.out hb3.size); clear hb3 hgot hrow hs3)
     go_roundw
     case rel => exact ⟨A3, c3, k + 1, xs ++ [x], r', hlt, by go_num, rfl, HP2, HS3, HR3, hid (all_snoc HK.out HX.out), hid (HB3.out.setCell HBg.out _), hid (by simpa [World.setCell] using HL3.out)⟩
     case measure => simp [intOf]; omega
   ·obtain rfl : k = n := by omega
    have HF := hid (HN.out.trans (prg_end HP.out))
    go_wp2
    go_ret3
    exact gotl_some HF.out HP.out.sz.symm rfl ⟨row_ts (by have := HR.out; simpa using this) HK.out HP.out.sz HLr.out, fun b off e => by injection e with e; injection e with e1 _ _; rw [← e1]; exact HB.out.size⟩ HS2.out HBr.out

theorem cloTexts_new (a : Option Addr) (len cap : Nat) (zs : List Int) (hl : len ≤ 900000) (w : World) (h : Sl w a len cap zs) :
  Calls Tryz.prog 207 #[.slice a len cap] w (GotL (TsN w.heap.size) (gts zs) w) := by
 have H := hid h
 clear h
 cases hc : gts zs with
 | none =>
  have HG := hid hc
  clear hc
  go_enter Tryz.func207, Tryz.ntmps207
  go_wp2_with (go_at_call 208; refine (cutTexts_new _ _ _ zs hl _ H.out).mono ?_; intro e w1 hgot; obtain ⟨rfl, hb1⟩ := gotl_no hgot HG.out; have HB := hid hb1; clear hb1 hgot)
  go_ret3
  exact gotl_none rfl HB.out
 | some p =>
  obtain ⟨xs, rest⟩ := p
  have HG := hid hc
  clear hc
  go_enter Tryz.func207, Tryz.ntmps207
  go_wp2_with (go_at_call 208; refine (cutTexts_new _ _ _ zs hl _ H.out).mono ?_; intro e w1 hgot; obtain ⟨A1, c1, A2, c2, rfl, hi1, hs1, hb1⟩ := gotl_yes hgot HG.out; have HB := hid hb1; have HI := hid hi1; have HS := hid hs1; clear hb1 hgot hi1 hs1)
  go_ret3
  exact gotl_some rfl rfl rfl HI.out HS.out HB.out

theorem getTexts_new (a : Option Addr) (len cap : Nat) (zs : List Int) (hl : len ≤ 800000) (w : World) (h : Sl w a len cap zs) :
  Calls Tryz.prog 190 #[.slice a len cap] w (GotL (TsN w.heap.size) (gts zs) w) := by
 have H := hid h
 have HL := hid (show zs.length ≤ 800000 by rw [h.sz]; exact hl)
 clear h
 cases hg : gts zs with
 | none =>
  have HG := hid hg
  clear hg
  go_enter Tryz.func190, Tryz.ntmps190
  go_wp2_with (first
   | (go_at_call 207; refine (cloTexts_new _ _ _ zs (by omega) _ H.out).mono ?_; intro e w1 hgot; obtain ⟨rfl, hb1⟩ := gotl_no hgot HG.out; have HB := hid hb1; clear hb1 hgot)
   | (go_at_call 206; go_in))
  go_ret3
  simp only []
  go_wp2
  go_ret3
  exact gotl_none rfl HB.out
 | some p =>
  obtain ⟨xs, rest⟩ := p
  have HG := hid hg
  have hrl : rest.length ≤ 800000 := Nat.le_trans (gts_rest hg) HL.out
  clear hg
  go_enter Tryz.func190, Tryz.ntmps190
  go_wp2_with (first
   | (go_at_call 207; refine (cloTexts_new _ _ _ zs (by omega) _ H.out).mono ?_; intro e w1 hgot; obtain ⟨A1, c1, A2, c2, rfl, hi1, hs1, hb1⟩ := gotl_yes hgot HG.out; have HB := hid hb1; have HI := hid hi1; have HS := hid hs1; clear hb1 hgot hi1 hs1)
   | (go_at_call 181; refine (copied_any A2 _ c2 rest (by omega) _ HS.out).mono ?_; rintro e w2 ⟨A3, c3, rfl, ho2, hb2⟩; have HO2 := hid ho2; have HB2 := hid hb2; clear ho2 hb2)
   | (go_at_call 206; go_in))
  go_ret3
  simp only []
  go_wp2
  go_ret3
  exact gotl_some rfl rfl rfl ⟨HI.out.1.below HB2.out, HI.out.2⟩ (OwnPost.sl (w := w) HO2.out HS.out.bd) (HB.out.trans (HB2.out.mono HB.out.size))
end Go.Proofs.YtablocpcgknmaaaGreatDoor.Cd
namespace Go.Proofs.YtablocpcgknmaaaGreatDoor
open Go.Lib (hid)
open Go Go.RowKit
set_option linter.unusedVariables false
set_option linter.unusedSimpArgs false
set_option maxRecDepth 100000

def TkN (r : List ByteArray × List Int × Bool) (rb : Nat) (w : World) (e : Ending) (w' : World) : Prop := ∃ A c, e = .returned (.slice A r.1.length c) ∧ Cd.TsN w.heap.size w' A r.1.length c r.1 ∧ Rd w' rb r.2.1 r.2.2 ∧ Below rb w w' ∧ Kp rb w w'
set_option maxHeartbeats 4000000 in
theorem take_textsN (rb : Nat) (zs : List Int) (f : Bool) (w : World) (h : Rd w rb zs f) (hl : zs.length ≤ 800000) : Calls Tryz.prog 189 #[.pointer (some ⟨rb, 0, none⟩), .func (.func 190) #[] #[]] w (TkN (gtkL zs f) rb w) := by
 unfold TkN
 obtain ⟨A, c, hb0, hs0⟩ := h
 have X0 := hid hb0
 have S0 := hid hs0
 clear hb0 hs0
 have y1 := X0.out.cell (i := 1) rfl
 have y0 := X0.out.cell (i := 0) rfl
 cases f with
 | true =>
  have HG := hid (show gtkL zs true = ([], zs, true) from rfl)
  generalize gtkL zs true = r at HG ⊢
  go_enter Tryz.func189, Tryz.ntmps189
  go_wp2
  go_ret
  rw [HG.out]
  exact ⟨none, 0, rfl, ⟨ts_nil _, fun b off e => (by cases e)⟩, ⟨A, c, X0.out, S0.out⟩, Below.refl _ _, Kp.refl _ _⟩
 | false =>
  cases hg : Cd.gts zs with
  | none =>
   have HG := hid (show gtkL zs false = ([], [], true) by unfold gtkL; rw [hg]; rfl)
   generalize gtkL zs false = r at HG ⊢
   have HN := hid hg
   clear hg
   go_enter Tryz.func189, Tryz.ntmps189
   go_wp2_with (first
    | (go_at_call 190; (with_reducible refine (Cd.getTexts_new A zs.length c zs hl _ S0.out).mono ?_); intro e w1 hgot; obtain ⟨rfl, hb⟩ := Cd.gotl_no hgot HN.out; have B1 := hid hb; have X1 := hid (X0.out.below hb); clear hgot hb y0 y1; have y0 := X1.out.cell (i := 0) rfl; have f0 := X1.out.free 0; have X2 := hid (X1.out.set 0 (.slice none 0 0)); have y1 := X2.out.cell (i := 1) rfl; have f1 := X2.out.free 1)
    | fail)
   go_ret
   rw [HG.out]
   exact ⟨none, 0, rfl, ⟨ts_nil _, fun b off e => (by cases e)⟩, ⟨none, 0, X2.out.set 1 (.bool true), Cd.Sl.empty _ none 0 (fun _ => rfl)⟩, ((B1.out.mono (Nat.le_of_lt X0.out.lt)).setCell (p := ⟨rb, 0, none⟩) (Nat.le_refl _) _).setCell (p := ⟨rb, 1, none⟩) (Nat.le_refl _) _, ((Kp.below B1.out rb).set 0 _).set 1 _⟩
  | some p =>
   obtain ⟨v, rest⟩ := p
   have HG := hid (show gtkL zs false = (v, rest, false) by unfold gtkL; rw [hg]; rfl)
   generalize gtkL zs false = r at HG ⊢
   have HN := hid hg
   clear hg
   go_enter Tryz.func189, Tryz.ntmps189
   go_wp2_with (first
    | (go_at_call 190; (with_reducible refine (Cd.getTexts_new A zs.length c zs hl _ S0.out).mono ?_); intro e w1 hgot; obtain ⟨AT, cT, A1, c1, rfl, ht, hs, hb⟩ := Cd.gotl_yes hgot HN.out; have B1 := hid hb; have S1 := hid hs; have T1 := hid ht; have X1 := hid (X0.out.below hb); clear hgot hb hs ht y0 y1; have y0 := X1.out.cell (i := 0) rfl; have f0 := X1.out.free 0; have X2 := hid (X1.out.set 0 (.slice A1 rest.length c1)); have y1 := X2.out.cell (i := 1) rfl; have f1 := X2.out.free 1)
    | fail)
   go_ret
   rw [HG.out]
   exact ⟨AT, cT, rfl, ⟨T1.out.1.kp X1.out (((Kp.refl rb _).set 0 _).set 1 _), T1.out.2⟩, ⟨A1, c1, X2.out.set 1 (.bool false), (S1.out.set_rd X1.out 0 _).set_rd X2.out 1 _⟩, ((B1.out.mono (Nat.le_of_lt X0.out.lt)).setCell (p := ⟨rb, 0, none⟩) (Nat.le_refl _) _).setCell (p := ⟨rb, 1, none⟩) (Nat.le_refl _) _, ((Kp.below B1.out rb).set 0 _).set 1 _⟩

theorem ts_set {w : World} {A : Option Addr} {n c : Nat} {zs : List ByteArray} {B : Nat} (h : Cd.TsN B w A n c zs) {g : Nat} (hg : g < B) (o : Nat) (vs : List Value) : Cd.TsN B (w.setCells g o vs) A n c zs := by
 refine ⟨⟨h.1.sz, h.1.bd, h.1.le, h.1.nl, fun h0 => ?_⟩, h.2⟩
 obtain ⟨b, off, e, hl, hc⟩ := h.1.cell h0
 have h2 := h.2 b off e
 have hne : b ≠ g := by omega
 exact ⟨b, off, e, by rw [size_setAll]; exact hl, fun j hj => (World.cell?_of_block (a := ⟨b, off + j, none⟩) (World.heap_setCells_other w g o vs hl hne)).trans (hc j hj)⟩
theorem bz_gtkB {zs : List Int} (h : BZ zs) (f : Bool) : BZ (gtk Cd.gb (.bool false) zs f).2.1 := by
 unfold gtk
 cases f with
 | true => exact h
 | false =>
  rw [if_neg (by decide)]
  cases zs with
  | nil => exact BZ.nil
  | cons c t =>
   have e : Cd.gb (c :: t) = if 1 < c then none else some (.bool (c == 1), t) := rfl
   rw [e]
   by_cases h1 : 1 < c
   ·rw [if_pos h1]; exact BZ.nil
   ·rw [if_neg h1]; exact ⟨fun z hz => h.1 z (List.mem_cons_of_mem _ hz), by have := h.2; rw [List.length_cons] at this; show t.length ≤ _; omega⟩
end Go.Proofs.YtablocpcgknmaaaGreatDoor
namespace Go.Proofs.YtablocpcgknmaaaGreatDoor.Cd
open Go.Lib (hid)
open Go Go.RowKit
set_option linter.unusedVariables false
set_option linter.unusedSimpArgs false
set_option maxRecDepth 100000

/-- Numbers in a row that lies past B. -/
def IsN (B : Nat) (w : World) (A : Option Addr) (n c : Nat) (zs : List Int) : Prop := Is w A n c zs ∧ ∀ b off, A = some ⟨b, off, none⟩ → B ≤ b
set_option maxHeartbeats 1600000 in
theorem cutInts_new (a : Option Addr) (len cap : Nat) (zs : List Int) (hl : len ≤ 900000) (w : World) (h : Sl w a len cap zs) :
  Calls Tryz.prog 137 #[.slice a len cap, .func (.func 130) #[] #[]] w (GotL (IsN w.heap.size) (gis zs) w) := by
 have H := hid h
 have HL := hid (show zs.length ≤ 900000 by rw [h.sz]; exact hl)
 clear h
 cases hc : cnt zs with
 | none =>
  have HG := hid (show gc zs = none by unfold gc; rw [hc]; rfl)
  have HN := hid (show gis zs = none by unfold gis; rw [hc]; rfl)
  clear hc
  go_enter Tryz.func137, Tryz.ntmps137
  go_wp2_with (go_at_call 188; refine (cutCount_any _ _ _ zs hl _ H.out).mono ?_; intro e w1 hgot; obtain ⟨rfl, hb1⟩ := got_no hgot HG.out; have HB := hid hb1; clear hb1 hgot)
  go_ret3
  exact gotl_none HN.out HB.out
 | some p =>
  obtain ⟨n, rest⟩ := p
  have HG := hid (show gc zs = some (.int .i64 (n : Int), rest) by unfold gc; rw [hc]; rfl)
  have HN := hid (show gis zs = lst di n rest by unfold gis; rw [hc]; rfl)
  have hnr := (cnt_rest hc).1
  have hrz := (cnt_rest hc).2.1
  have hrl : rest.length ≤ 900000 := Nat.le_trans hrz HL.out
  have hn9 : n ≤ 900000 := Nat.le_trans hnr hrl
  have HRL := hid hrl
  clear hc hnr hrz hrl
  go_enter Tryz.func137, Tryz.ntmps137
  go_wp2_with (first
   | (go_at_call 188; refine (cutCount_any _ _ _ zs hl _ H.out).mono ?_; intro e w1 hgot; obtain ⟨A1, c1, rfl, hs1, hb1⟩ := got_yes hgot HG.out; have HB := hid hb1; have HS := hid hs1; clear hb1 hgot hs1)
   | ((with_reducible refine wpList_makeI rfl rfl n ?_ (by omega) ?_); (rfl); intro w2 hr2 hb2 hl2; have HR2 := hid hr2; have HB2 := hid hb2; have HL2 := hid hl2; clear hr2 hb2 hl2))
  go_loopw [8, 9, 11, 24] (fun r ok i j wr => ∃ (A : Option Addr) (c k : Nat) (xs : List Int) (rs : List Int), k ≤ n ∧ j = .int .i64 k ∧ r = .slice A rs.length c ∧ Hid (Prg di n rest k xs rs) ∧ Hid (Sl wr A rs.length c rs) ∧ Hid (wr.ownsRow w1.heap.size 3 1 (.slice (some ⟨w1.heap.size, 0, none⟩) n n) n ((xs ++ List.replicate (n - k) 0).map (Value.int .i64))) ∧ Hid (∀ z ∈ xs, C.in64 z) ∧ Hid (Below w.heap.size w wr) ∧ Hid (w1.heap.size < wr.heap.size)) (fun _ _ _ j _ => n - (intOf j).toNat)
  case atStart => exact ⟨A1, c1, 0, [], rest, Nat.zero_le _, rfl, rfl, hid prg_zero, hid (HS.out.below HB2.out), HR2, hid (by simp), hid (HB.out.trans (HB2.out.mono HB.out.size)), HL2⟩
  case round =>
   obtain ⟨A2, c2, k, xs, rs, hk, rfl, rfl, HP, HS2, HR, HK, HBr, HLr⟩ := hrel
   by_cases hlt : k < n
   ·have hrs : rs.length ≤ 900000 := Nat.le_trans HP.out.rl HRL.out
    have HBg := hid HB.out.size
    cases hd : di rs with
    | none =>
     have HGr := hid (show gi rs = none by rw [gi_di, hd]; rfl)
     have HF := hid (HN.out.trans (prg_none HP.out hlt hd))
     clear hd
     go_wp2_with (go_at_call 130; refine (cutInt_any _ _ _ rs hrs _ HS2.out).mono ?_; intro e w3 hgot; obtain ⟨rfl, hb3⟩ := got_no hgot HGr.out; have hrow := row_keep HR.out hb3; have hcell := row_cell (Value.int .i64) 0 hrow hlt HP.out.sz; have hfr := hrow.frozenAt k; have HB3 := hid (HBr.out.trans (hb3.mono HBr.out.size)); clear hb3 hgot hrow)
     go_ret3
     exact gotl_none HF.out (HB3.out.setCell HBg.out _)
    | some p =>
     obtain ⟨x, r'⟩ := p
     have HGr := hid (show gi rs = some ((Value.int .i64) x, r') by rw [gi_di, hd]; rfl)
     have HP2 := hid (prg_some HP.out hlt hd (di_len hd))
     have HX := hid (di_ok HS2.out.bd hd)
     clear hd
     go_wp2_with (go_at_call 130; refine (cutInt_any _ _ _ rs hrs _ HS2.out).mono ?_; intro e w3 hgot; obtain ⟨A3, c3, rfl, hs3, hb3⟩ := got_yes hgot HGr.out; have hrow := row_keep HR.out hb3; have hcell := row_cell (Value.int .i64) 0 hrow hlt HP.out.sz; have hfr := hrow.frozenAt k; have HB3 := hid (HBr.out.trans (hb3.mono HBr.out.size)); have HS3 := hid (sl_stored hs3 hrow (map_ne (fun x z h => by cases h) _) k ((Value.int .i64) x)); have HR3 := hid (row_step (Value.int .i64) 0 hrow x hlt HP.out.sz); have HL3 := hid (Nat.lt_of_lt_of_le HLr.out hb3.size); clear hb3 hgot hrow hs3)
     go_roundw
     case rel => exact ⟨A3, c3, k + 1, xs ++ [x], r', hlt, by go_num, rfl, HP2, HS3, HR3, hid (all_snoc HK.out HX.out), hid (HB3.out.setCell HBg.out _), hid (by simpa [World.setCell] using HL3.out)⟩
     case measure => simp [intOf]; omega
   ·obtain rfl : k = n := by omega
    have HF := hid (HN.out.trans (prg_end HP.out))
    go_wp2
    go_ret3
    exact gotl_some HF.out HP.out.sz.symm rfl ⟨row_is (by have := HR.out; simpa using this) HK.out HP.out.sz HLr.out, fun b off e => by injection e with e; injection e with e1 _ _; rw [← e1]; exact HB.out.size⟩ HS2.out HBr.out

theorem cloInts_new (a : Option Addr) (len cap : Nat) (zs : List Int) (hl : len ≤ 900000) (w : World) (h : Sl w a len cap zs) :
  Calls Tryz.prog 136 #[.slice a len cap] w (GotL (IsN w.heap.size) (gis zs) w) := by
 have H := hid h
 clear h
 cases hc : gis zs with
 | none =>
  have HG := hid hc
  clear hc
  go_enter Tryz.func136, Tryz.ntmps136
  go_wp2_with (go_at_call 137; refine (cutInts_new _ _ _ zs hl _ H.out).mono ?_; intro e w1 hgot; obtain ⟨rfl, hb1⟩ := gotl_no hgot HG.out; have HB := hid hb1; clear hb1 hgot)
  go_ret3
  exact gotl_none rfl HB.out
 | some p =>
  obtain ⟨xs, rest⟩ := p
  have HG := hid hc
  clear hc
  go_enter Tryz.func136, Tryz.ntmps136
  go_wp2_with (go_at_call 137; refine (cutInts_new _ _ _ zs hl _ H.out).mono ?_; intro e w1 hgot; obtain ⟨A1, c1, A2, c2, rfl, hi1, hs1, hb1⟩ := gotl_yes hgot HG.out; have HB := hid hb1; have HI := hid hi1; have HS := hid hs1; clear hb1 hgot hi1 hs1)
  go_ret3
  exact gotl_some rfl rfl rfl HI.out HS.out HB.out

theorem getInts_new (a : Option Addr) (len cap : Nat) (zs : List Int) (hl : len ≤ 800000) (w : World) (h : Sl w a len cap zs) :
  Calls Tryz.prog 76 #[.slice a len cap] w (GotL (IsN w.heap.size) (gis zs) w) := by
 have H := hid h
 have HL := hid (show zs.length ≤ 800000 by rw [h.sz]; exact hl)
 clear h
 cases hg : gis zs with
 | none =>
  have HG := hid hg
  clear hg
  go_enter Tryz.func76, Tryz.ntmps76
  go_wp2_with (first
   | (go_at_call 136; refine (cloInts_new _ _ _ zs (by omega) _ H.out).mono ?_; intro e w1 hgot; obtain ⟨rfl, hb1⟩ := gotl_no hgot HG.out; have HB := hid hb1; clear hb1 hgot)
   | (go_at_call 135; go_in))
  go_ret3
  simp only []
  go_wp2
  go_ret3
  exact gotl_none rfl HB.out
 | some p =>
  obtain ⟨xs, rest⟩ := p
  have HG := hid hg
  have hrl : rest.length ≤ 800000 := Nat.le_trans (gis_rest hg) HL.out
  clear hg
  go_enter Tryz.func76, Tryz.ntmps76
  go_wp2_with (first
   | (go_at_call 136; refine (cloInts_new _ _ _ zs (by omega) _ H.out).mono ?_; intro e w1 hgot; obtain ⟨A1, c1, A2, c2, rfl, hi1, hs1, hb1⟩ := gotl_yes hgot HG.out; have HB := hid hb1; have HI := hid hi1; have HS := hid hs1; clear hb1 hgot hi1 hs1)
   | (go_at_call 181; refine (copied_any A2 _ c2 rest (by omega) _ HS.out).mono ?_; rintro e w2 ⟨A3, c3, rfl, ho2, hb2⟩; have HO2 := hid ho2; have HB2 := hid hb2; clear ho2 hb2)
   | (go_at_call 135; go_in))
  go_ret3
  simp only []
  go_wp2
  go_ret3
  exact gotl_some rfl rfl rfl ⟨HI.out.1.below HB2.out, HI.out.2⟩ (OwnPost.sl (w := w) HO2.out HS.out.bd) (HB.out.trans (HB2.out.mono HB.out.size))
end Go.Proofs.YtablocpcgknmaaaGreatDoor.Cd
namespace Go.Proofs.YtablocpcgknmaaaGreatDoor
open Go.Lib (hid)
open Go Go.RowKit
set_option linter.unusedVariables false
set_option linter.unusedSimpArgs false
set_option maxRecDepth 100000

theorem rd_block {w : World} {rb : Nat} {u1 : Option Addr} {u2 u3 : Nat} {u4 : Bool} (hb : Blk w rb [.slice u1 u2 u3, .bool u4] 89) {b off : Nat} {v : Value} (h : w.cell? ⟨b, off, none⟩ = some v) (h1 : ∀ x y z, v ≠ .slice x y z) (h2 : ∀ x, v ≠ .bool x) : b ≠ rb := by
 rintro rfl
 have h3 : w.cell? ⟨b, off, none⟩ = [Value.slice u1 u2 u3, .bool u4][off]? := by
  simp [World.cell?, hb.heap]
 rw [h] at h3
 match off, h3 with
 | 0, h3 => exact h1 _ _ _ (by simpa using h3)
 | 1, h3 => exact h2 _ (by simpa using h3)
 | k + 2, h3 => simp at h3
theorem _root_.Go.Proofs.YtablocpcgknmaaaGreatDoor.Cd.Is.kp {w w' : World} {A : Option Addr} {n c : Nat} {zs : List Int} (h : Cd.Is w A n c zs) {rb : Nat} {u1 : Option Addr} {u2 u3 : Nat} {u4 : Bool} (hb : Blk w rb [.slice u1 u2 u3, .bool u4] 89) (hk : Kp rb w w') : Cd.Is w' A n c zs := by
 refine ⟨h.sz, h.bd, h.le, h.nl, fun h0 => ?_⟩
 obtain ⟨b, off, e, hl, hc⟩ := h.cell h0
 have hne : b ≠ rb := rd_block hb (hc 0 h0) (fun _ _ _ e => by cases e) (fun _ e => by cases e)
 exact ⟨b, off, e, Nat.lt_of_lt_of_le hl hk.size, fun j hj => (World.cell?_of_block (a := ⟨b, off + j, none⟩) (hk.block b hl hne)).trans (hc j hj)⟩
def gtkN (zs : List Int) (f : Bool) : List Int × List Int × Bool :=
 if f = true then ([], zs, true) else match Cd.gis zs with
  | some (v, r) => (v, r, false)
  | none => ([], [], true)
def TkI (r : List Int × List Int × Bool) (rb : Nat) (w : World) (e : Ending) (w' : World) : Prop := ∃ A c, e = .returned (.slice A r.1.length c) ∧ Cd.IsN w.heap.size w' A r.1.length c r.1 ∧ Rd w' rb r.2.1 r.2.2 ∧ Below rb w w' ∧ Kp rb w w'
theorem is_nil (w : World) : Cd.Is w none 0 0 [] := ⟨rfl, by simp, Nat.le_refl _, fun _ => rfl, by omega⟩
set_option maxHeartbeats 4000000 in
theorem take_ints (rb : Nat) (zs : List Int) (f : Bool) (w : World) (h : Rd w rb zs f) (hl : zs.length ≤ 800000) : Calls Tryz.prog 75 #[.pointer (some ⟨rb, 0, none⟩), .func (.func 76) #[] #[]] w (TkI (gtkN zs f) rb w) := by
 unfold TkI
 obtain ⟨A, c, hb0, hs0⟩ := h
 have X0 := hid hb0
 have S0 := hid hs0
 clear hb0 hs0
 have y1 := X0.out.cell (i := 1) rfl
 have y0 := X0.out.cell (i := 0) rfl
 cases f with
 | true =>
  have HG := hid (show gtkN zs true = ([], zs, true) from rfl)
  generalize gtkN zs true = r at HG ⊢
  go_enter Tryz.func75, Tryz.ntmps75
  go_wp2
  go_ret
  rw [HG.out]
  exact ⟨none, 0, rfl, ⟨is_nil _, fun b off e => (by cases e)⟩, ⟨A, c, X0.out, S0.out⟩, Below.refl _ _, Kp.refl _ _⟩
 | false =>
  cases hg : Cd.gis zs with
  | none =>
   have HG := hid (show gtkN zs false = ([], [], true) by unfold gtkN; rw [hg]; rfl)
   generalize gtkN zs false = r at HG ⊢
   have HN := hid hg
   clear hg
   go_enter Tryz.func75, Tryz.ntmps75
   go_wp2_with (first
    | (go_at_call 76; (with_reducible refine (Cd.getInts_new A zs.length c zs hl _ S0.out).mono ?_); intro e w1 hgot; obtain ⟨rfl, hb⟩ := Cd.gotl_no hgot HN.out; have B1 := hid hb; have X1 := hid (X0.out.below hb); clear hgot hb y0 y1; have y0 := X1.out.cell (i := 0) rfl; have f0 := X1.out.free 0; have X2 := hid (X1.out.set 0 (.slice none 0 0)); have y1 := X2.out.cell (i := 1) rfl; have f1 := X2.out.free 1)
    | fail)
   go_ret
   rw [HG.out]
   exact ⟨none, 0, rfl, ⟨is_nil _, fun b off e => (by cases e)⟩, ⟨none, 0, X2.out.set 1 (.bool true), Cd.Sl.empty _ none 0 (fun _ => rfl)⟩, ((B1.out.mono (Nat.le_of_lt X0.out.lt)).setCell (p := ⟨rb, 0, none⟩) (Nat.le_refl _) _).setCell (p := ⟨rb, 1, none⟩) (Nat.le_refl _) _, ((Kp.below B1.out rb).set 0 _).set 1 _⟩
  | some p =>
   obtain ⟨v, rest⟩ := p
   have HG := hid (show gtkN zs false = (v, rest, false) by unfold gtkN; rw [hg]; rfl)
   generalize gtkN zs false = r at HG ⊢
   have HN := hid hg
   clear hg
   go_enter Tryz.func75, Tryz.ntmps75
   go_wp2_with (first
    | (go_at_call 76; (with_reducible refine (Cd.getInts_new A zs.length c zs hl _ S0.out).mono ?_); intro e w1 hgot; obtain ⟨AT, cT, A1, c1, rfl, ht, hs, hb⟩ := Cd.gotl_yes hgot HN.out; have B1 := hid hb; have S1 := hid hs; have T1 := hid ht; have X1 := hid (X0.out.below hb); clear hgot hb hs ht y0 y1; have y0 := X1.out.cell (i := 0) rfl; have f0 := X1.out.free 0; have X2 := hid (X1.out.set 0 (.slice A1 rest.length c1)); have y1 := X2.out.cell (i := 1) rfl; have f1 := X2.out.free 1)
    | fail)
   go_ret
   rw [HG.out]
   exact ⟨AT, cT, rfl, ⟨T1.out.1.kp X1.out (((Kp.refl rb _).set 0 _).set 1 _), T1.out.2⟩, ⟨A1, c1, X2.out.set 1 (.bool false), (S1.out.set_rd X1.out 0 _).set_rd X2.out 1 _⟩, ((B1.out.mono (Nat.le_of_lt X0.out.lt)).setCell (p := ⟨rb, 0, none⟩) (Nat.le_refl _) _).setCell (p := ⟨rb, 1, none⟩) (Nat.le_refl _) _, ((Kp.below B1.out rb).set 0 _).set 1 _⟩

/-- Numbers that the codec read are a list of an event. -/
theorem isn_ins {w : World} {A : Option Addr} {n c : Nat} {zs : List Int} (h : Cd.Is w A n c zs) (hn : n ≤ 1000000) : Ins w A n c zs := by
 refine ⟨⟨fun j hj => rfl, fun j hj u hu => by unfold rowI at hu; rw [List.mem_singleton] at hu; rw [hu]; rfl, by unfold maxLen; omega, fun e => ⟨by have := h.nl e; have := h.le; omega, h.nl e⟩, ?_⟩, h.sz, h.le, fun z hz => (Cd.C.in64_iff z).1 (h.bd z hz)⟩
 rcases Nat.eq_zero_or_pos n with h0 | h0
 ·exact .inl h0
 ·obtain ⟨b, off, e, hl, hc⟩ := h.cell h0
  refine .inr ⟨b, off, e, hl, fun j hj i v hv => ?_⟩
  unfold rowI at hv
  cases i with
  | succ i => simp at hv
  | zero =>
   simp at hv
   subst hv
   rw [Nat.mul_one, Nat.add_zero]
   exact hc j hj
end Go.Proofs.YtablocpcgknmaaaGreatDoor
