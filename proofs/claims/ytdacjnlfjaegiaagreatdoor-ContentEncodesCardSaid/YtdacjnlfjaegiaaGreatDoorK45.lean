/- What the decoder reads fits. Bounds: at most 800000 bytes. No condition. -/
import Derived.Test.YtdacjnlfjaegiaaGreatDoorK44
namespace Go.Proofs.YtdacjnlfjaegiaaGreatDoor
open Go Go.RowKit
set_option linter.unusedVariables false
set_option linter.unusedSimpArgs false

/-- Bytes, at most 800000. -/
def BZ (zs : List Int) : Prop := (∀ z ∈ zs, 0 ≤ z ∧ z ≤ 255) ∧ zs.length ≤ 800000
theorem BZ.nil : BZ [] := ⟨fun z hz => (by cases hz), Nat.zero_le _⟩
theorem BZ.drop {zs : List Int} (h : BZ zs) (k : Nat) : BZ (zs.drop k) := ⟨fun z hz => h.1 z (List.mem_of_mem_drop hz), by rw [List.length_drop]; have := h.2; omega⟩
theorem BZ.di {zs : List Int} (h : BZ zs) {x : Int} {r : List Int} (e : Cd.di zs = some (x, r)) : i64B x ∧ BZ r := by
  refine ⟨(Cd.C.in64_iff x).1 (Cd.di_ok h.1 e), ?_⟩
  unfold Cd.di at e
  cases hd : Cd.C.dec zs with
  | none => rw [hd] at e; cases e
  | some p =>
    rw [hd] at e
    simp only [Option.map_some, Option.some.injEq, Prod.mk.injEq] at e
    rw [← e.2]; exact h.drop _
theorem BZ.cnt {zs : List Int} (h : BZ zs) {n : Nat} {r : List Int} (e : Cd.cnt zs = some (n, r)) : BZ r := by
  obtain ⟨_, _, u, k, _, _, e2⟩ := Cd.cnt_rest e
  rw [e2]; exact h.drop _
theorem BZ.dt {zs : List Int} (h : BZ zs) {x : ByteArray} {r : List Int} (e : Cd.dt zs = some (x, r)) : x.size ≤ 1000000 ∧ BZ r := by
  refine ⟨Cd.dt_ok h.1 (by have := h.2; omega) e, ?_⟩
  unfold Cd.dt at e
  cases hd : Cd.cnt zs with
  | none => rw [hd] at e; cases e
  | some p =>
    obtain ⟨n, q⟩ := p
    rw [hd] at e
    simp only [Option.map_some, Option.some.injEq, Prod.mk.injEq] at e
    rw [← e.2]; exact (h.cnt hd).drop _
theorem lst_ok {α : Type} {one : List Int → Option (α × List Int)} (P : α → Prop) (h1 : ∀ zs x r, BZ zs → one zs = some (x, r) → P x ∧ BZ r) : ∀ (n : Nat) (zs : List Int) (xs : List α) (r : List Int), BZ zs → Cd.lst one n zs = some (xs, r) → (∀ x ∈ xs, P x) ∧ BZ r ∧ xs.length = n := by
  intro n
  induction n with
  | zero =>
    intro zs xs r hb h
    simp only [Cd.lst, Option.some.injEq, Prod.mk.injEq] at h
    obtain ⟨rfl, rfl⟩ := h
    exact ⟨by simp, hb, rfl⟩
  | succ n ih =>
    intro zs xs r hb h
    cases hd : one zs with
    | none => simp [Cd.lst, hd] at h
    | some p =>
      obtain ⟨x, r1⟩ := p
      cases hl : Cd.lst one n r1 with
      | none => simp [Cd.lst, hd, hl] at h
      | some q =>
        obtain ⟨ys, r2⟩ := q
        simp only [Cd.lst, hd, hl, Option.bind_some, Option.map_some, Option.some.injEq, Prod.mk.injEq] at h
        obtain ⟨rfl, rfl⟩ := h
        have i0 := h1 zs x r1 hb hd
        have i := ih r1 ys r2 i0.2 hl
        refine ⟨fun y hy => ?_, i.2.1, by simp [i.2.2]⟩
        rcases List.mem_cons.1 hy with rfl | hy
        · exact i0.1
        · exact i.1 y hy
theorem BZ.dU {zs : List Int} {x : ByteArray × Int} {r : List Int} (h : BZ zs) (e : dU zs = some (x, r)) : (x.1.size ≤ 9223372036854775807 ∧ i64B x.2) ∧ BZ r := by
  unfold Go.Proofs.YtdacjnlfjaegiaaGreatDoor.dU at e
  cases hd : Cd.dt zs with
  | none => rw [hd] at e; cases e
  | some p =>
    rw [hd] at e
    simp only [Option.bind_some] at e
    cases hi : Cd.di p.2 with
    | none => rw [hi] at e; cases e
    | some q =>
      rw [hi] at e
      simp only [Option.map_some, Option.some.injEq, Prod.mk.injEq] at e
      obtain ⟨e1, e2⟩ := e
      subst e1 e2
      have a := h.dt (x := p.1) (r := p.2) hd
      have b := a.2.di (x := q.1) (r := q.2) hi
      exact ⟨⟨by show p.1.size ≤ _; have := a.1; omega, b.1⟩, b.2⟩
theorem BZ.dK {zs : List Int} {x : Int × Int} {r : List Int} (h : BZ zs) (e : dK zs = some (x, r)) : (i64B x.1 ∧ i64B x.2) ∧ BZ r := by
  unfold Go.Proofs.YtdacjnlfjaegiaaGreatDoor.dK at e
  cases hd : Cd.di zs with
  | none => rw [hd] at e; cases e
  | some p =>
    rw [hd] at e
    simp only [Option.bind_some] at e
    cases hi : Cd.di p.2 with
    | none => rw [hi] at e; cases e
    | some q =>
      rw [hi] at e
      simp only [Option.map_some, Option.some.injEq, Prod.mk.injEq] at e
      obtain ⟨e1, e2⟩ := e
      subst e1 e2
      have a := h.di (x := p.1) (r := p.2) hd
      have b := a.2.di (x := q.1) (r := q.2) hi
      exact ⟨⟨a.1, b.1⟩, b.2⟩
theorem BZ.gtkI {zs : List Int} (h : BZ zs) (f : Bool) : i64B (gtkI zs f).1 ∧ BZ (gtkI zs f).2.1 := by
  unfold Go.Proofs.YtdacjnlfjaegiaaGreatDoor.gtkI
  cases f with
  | true => exact ⟨show i64B 0 from by unfold i64B; decide, h⟩
  | false =>
    rw [if_neg (by decide)]
    cases hd : Cd.di zs with
    | none => exact ⟨show i64B 0 from by unfold i64B; decide, BZ.nil⟩
    | some p => exact h.di (x := p.1) (r := p.2) hd
theorem BZ.gtkT {zs : List Int} (h : BZ zs) (f : Bool) : (gtkT zs f).1.size ≤ 1000000 ∧ BZ (gtkT zs f).2.1 := by
  unfold Go.Proofs.YtdacjnlfjaegiaaGreatDoor.gtkT
  cases f with
  | true => exact ⟨show (⟨#[]⟩ : ByteArray).size ≤ 1000000 by decide, h⟩
  | false =>
    rw [if_neg (by decide)]
    cases hd : Cd.dt zs with
    | none => exact ⟨show (⟨#[]⟩ : ByteArray).size ≤ 1000000 by decide, BZ.nil⟩
    | some p => exact h.dt (x := p.1) (r := p.2) hd
theorem BZ.gtkL {zs : List Int} (h : BZ zs) (f : Bool) : (gtkL zs f).1.length ≤ 800000 ∧ BZ (gtkL zs f).2.1 := by
  unfold Go.Proofs.YtdacjnlfjaegiaaGreatDoor.gtkL
  cases f with
  | true => exact ⟨Nat.zero_le _, h⟩
  | false =>
    rw [if_neg (by decide)]
    cases hd : Cd.gts zs with
    | none => exact ⟨Nat.zero_le _, BZ.nil⟩
    | some p =>
      unfold Cd.gts at hd
      cases hc : Cd.cnt zs with
      | none => rw [hc] at hd; cases hd
      | some q =>
        obtain ⟨n, r⟩ := q
        rw [hc] at hd
        simp only [Option.bind_some] at hd
        have a := h.cnt hc
        have b := lst_ok (fun s : ByteArray => s.size ≤ 1000000) (fun zs x r hz e => hz.dt e) n r p.1 p.2 a hd
        refine ⟨?_, b.2.1⟩
        show p.1.length ≤ 800000
        have := Cd.cnt_rest hc
        have := h.2
        rw [b.2.2]; omega
theorem BZ.cntk {zs : List Int} (h : BZ zs) (f : Bool) : BZ (cntk zs f).2.1 := by
  unfold Go.Proofs.YtdacjnlfjaegiaaGreatDoor.cntk
  split
  · exact (h.gtkI f).2
  · exact (h.gtkI f).2
theorem bz_takes {zs : List Int} (h : BZ zs) (f : Bool) : ∀ n, (∀ x ∈ (takes zs f n).1, i64B x) ∧ BZ (takes zs f n).2.1
  | 0 => ⟨fun x hx => (by cases hx), h⟩
  | n + 1 => by
    have i := bz_takes h f n
    have j := i.2.gtkI (takes zs f n).2.2
    refine ⟨fun x hx => ?_, j.2⟩
    rcases List.mem_append.1 hx with hx | hx
    · exact i.1 x hx
    · rw [List.mem_singleton] at hx
      rw [hx]; exact j.1
/-- Levels whose numbers fit. -/
structure LvF (L : Lv) : Prop where
  fu : ∀ p ∈ L.us, p.1.size ≤ 9223372036854775807 ∧ i64B p.2
  fk : ∀ p ∈ L.ks, i64B p.1 ∧ i64B p.2
  nm : i64B L.d ∧ i64B L.x3 ∧ i64B L.x4 ∧ i64B L.x5 ∧ i64B L.x6 ∧ i64B L.x7 ∧ i64B L.x8
  lu : L.us.length ≤ 800000
  lk : L.ks.length ≤ 800000
theorem dcL_ok {zs : List Int} (h : BZ zs) {f : Bool} {L : Lv} {r : List Int} (e : dcL zs f = some (L, r)) : LvF L ∧ BZ r := by
  unfold dcL at e
  have hc := h.cntk f
  obtain ⟨n1, z1, g1, e1, hn1, _, _, _⟩ := cntk_nat zs f
  rw [e1] at e hc
  dsimp only at e hc
  rw [Int.toNat_natCast] at e
  cases g1 with
  | true => cases e
  | false =>
    rw [if_neg (by decide)] at e
    cases hu : Cd.lst dU n1 z1 with
    | none => rw [hu] at e; cases e
    | some u =>
      rw [hu] at e
      simp only [Option.bind_some] at e
      have a := lst_ok (fun p : ByteArray × Int => p.1.size ≤ 9223372036854775807 ∧ i64B p.2) (fun zs x r hz e => hz.dU e) n1 z1 u.1 u.2 hc hu
      unfold dc2 at e
      have hc2 := a.2.1.cntk false
      obtain ⟨n2, z2, g2, e2, hn2, _, _, _⟩ := cntk_nat u.2 false
      rw [e2] at e hc2
      dsimp only at e hc2
      rw [Int.toNat_natCast] at e
      cases g2 with
      | true => cases e
      | false =>
        rw [if_neg (by decide)] at e
        cases hk : Cd.lst dK n2 z2 with
        | none => rw [hk] at e; cases e
        | some k =>
          rw [hk] at e
          simp only [Option.bind_some] at e
          have b := lst_ok (fun p : Int × Int => i64B p.1 ∧ i64B p.2) (fun zs x r hz e => hz.dK e) n2 z2 k.1 k.2 hc2 hk
          unfold dc3 at e
          have c := bz_takes b.2.1 false 7
          have cl := takes_len k.2 false 7
          generalize takes k.2 false 7 = t at e c cl
          obtain ⟨vs, z3, g3⟩ := t
          dsimp only at e c cl
          cases g3 with
          | true => cases e
          | false =>
            rw [if_neg (by decide)] at e
            simp only [Option.some.injEq, Prod.mk.injEq] at e
            obtain ⟨e3, e4⟩ := e
            subst e3 e4
            have q1 := hc.2
            have q2 := hc2.2
            match vs, cl, c with
            | [v1, v2, v3, v4, v5, v6, v7], _, c =>
              exact ⟨⟨a.1, b.1, ⟨c.1 v1 (by simp), c.1 v2 (by simp), c.1 v3 (by simp), c.1 v4 (by simp), c.1 v5 (by simp), c.1 v6 (by simp), c.1 v7 (by simp)⟩, by show u.1.length ≤ _; rw [a.2.2]; omega, by show k.1.length ≤ _; rw [b.2.2]; omega⟩, c.2⟩
theorem rows_isl {w : World} {B : Nat} {L : Lv} {uA : Option Addr} {uC : Nat} {kA : Option Addr} {kC : Nat} (hf : LvF L) (h1 : w.ownsRow B 60 2 (.slice uA L.us.length uC) L.us.length (flat L.us.length (rowU (fU L.us)))) (h2 : w.ownsRow B 88 2 (.slice kA L.ks.length kC) L.ks.length (flat L.ks.length (rowK (fK L.ks)))) : IsL w L uA uC kA kC := by
  refine ⟨own_rows h1 (fun j hj => rfl) (fun j hj u hu => ?_) (by have := hf.lu; unfold maxLen; omega), own_rows h2 (fun j hj => rfl) (fun j hj u hu => ?_) (by have := hf.lk; unfold maxLen; omega), hf.fu, hf.fk, hf.nm⟩
  · unfold rowU at hu
    simp only [List.mem_cons, List.not_mem_nil, or_false] at hu
    rcases hu with hu | hu <;> rw [hu] <;> rfl
  · unfold rowK at hu
    simp only [List.mem_cons, List.not_mem_nil, or_false] at hu
    rcases hu with hu | hu <;> rw [hu] <;> rfl
theorem ts_txs {w : World} {A : Option Addr} {n c : Nat} {zs : List ByteArray} (h : Cd.Ts w A n c zs) (hl : n ≤ 800000) : Txs w A n c zs := by
  refine ⟨⟨fun j hj => rfl, fun j hj u hu => ?_, by unfold maxLen; omega, fun e => ?_, ?_⟩, h.sz, h.le, fun s hs => by have : s.size ≤ 1000000 := h.bd s hs; omega⟩
  · unfold rowS at hu
    rw [List.mem_singleton] at hu
    rw [hu]; rfl
  · have h1 := h.nl e
    have h2 := h.le
    exact ⟨by omega, h1⟩
  · rcases Nat.eq_zero_or_pos n with h0 | h0
    · exact .inl h0
    · obtain ⟨b, off, e, hlt, hc⟩ := h.cell h0
      refine .inr ⟨b, off, e, hlt, fun j hj i v hv => ?_⟩
      have hi : i = 0 := by
        rcases Nat.eq_zero_or_pos i with h1 | h1
        · exact h1
        · rw [List.getElem?_eq_none (by unfold rowS; simp; omega)] at hv; cases hv
      subst hi
      rw [Nat.mul_one, Nat.add_zero, hc j hj]
      exact hv
/-- The whole content, when all was read and nothing is left. -/
def dcE (x0 : ByteArray) (x1 x2 : Int) (x3 : Bool) (x4 : ByteArray) (x5 x6 : List ByteArray) (r : Option (Lv × List Int)) : Option Cn := match r with
  | some (L, z) => if z.length = 0 then some ⟨x0, x1, x2, x3, x4, x5, x6, L.us, L.ks, L.d, L.x3, L.x4, L.x5, L.x6, L.x7, L.x8⟩ else none
  | none => none
theorem dcE_no {x0 : ByteArray} {x1 x2 : Int} {x3 : Bool} {x4 : ByteArray} {x5 x6 : List ByteArray} {r : Option (Lv × List Int)} {L : Lv} {z : List Int} {g : Bool} {R : Prop} (h : g = true ∧ r = none ∨ g = false ∧ r = some (L, z) ∧ R) (hq : (!g && decide (z.length = 0)) = false) : dcE x0 x1 x2 x3 x4 x5 x6 r = none := by
  rcases h with ⟨rfl, rfl⟩ | ⟨rfl, rfl, _⟩
  · rfl
  · simp only [Bool.not_false, Bool.true_and, decide_eq_false_iff_not] at hq
    exact if_neg hq
theorem dcE_yes {x0 : ByteArray} {x1 x2 : Int} {x3 : Bool} {x4 : ByteArray} {x5 x6 : List ByteArray} {r : Option (Lv × List Int)} {L : Lv} {z : List Int} {g : Bool} {R : Prop} (h : g = true ∧ r = none ∨ g = false ∧ r = some (L, z) ∧ R) (hq : (!g && decide (z.length = 0)) = true) : dcE x0 x1 x2 x3 x4 x5 x6 r = some ⟨x0, x1, x2, x3, x4, x5, x6, L.us, L.ks, L.d, L.x3, L.x4, L.x5, L.x6, L.x7, L.x8⟩ ∧ r = some (L, z) ∧ R := by
  rcases h with ⟨rfl, rfl⟩ | ⟨rfl, rfl, hR⟩
  · cases hq
  · simp only [Bool.not_false, Bool.true_and, decide_eq_true_eq] at hq
    exact ⟨if_pos hq, rfl, hR⟩
/-- What a decoder gives: the content, its lists where they lie, or nothing. -/
def DcG (r : Option Cn) (w : World) (e : Ending) (w' : World) : Prop := ∃ (C : Cn) (a : Ads), e = .returned (.tuple #[.agg (ccs C a).toArray, .bool r.isSome]) ∧ IsC w' C a ∧ Below w.heap.size w w' ∧ (r = some C ∨ r = none)
end Go.Proofs.YtdacjnlfjaegiaaGreatDoor
