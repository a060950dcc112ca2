/- The reference's decoder of levels: what it reads is the same; its state. Bounds: at most 800000 bytes. No condition. -/
import Derived.Test.YtdacjnlfjaegiaaGreatDoorPK46
namespace Go.Proofs.YtdacjnlfjaegiaaGreatDoor
open Go Go.RowKit
set_option linter.unusedVariables false
set_option linter.unusedSimpArgs false

theorem di_lt {zs : List Int} (h : BZ zs) {x : Int} {r : List Int} (e : Cd.di zs = some (x, r)) : r.length < zs.length := by
  unfold Cd.di at e
  cases hd : Cd.C.dec zs with
  | none => rw [hd] at e; cases e
  | some p =>
    obtain ⟨u, k⟩ := p
    rw [hd] at e
    simp only [Option.map_some, Option.some.injEq, Prod.mk.injEq] at e
    obtain ⟨_, _, h1, h2, _⟩ := Cd.C.enc_dec h.1 hd
    rw [← e.2, List.length_drop]
    omega
theorem dU_lt {zs : List Int} (h : BZ zs) {x : ByteArray × Int} {r : List Int} (e : dU zs = some (x, r)) : r.length < zs.length := by
  unfold dU at e
  cases hd : Cd.dt zs with
  | none => rw [hd] at e; cases e
  | some p =>
    rw [hd] at e
    simp only [Option.bind_some] at e
    cases hi : Cd.di p.2 with
    | none => rw [hi] at e; cases e
    | some q =>
      rw [hi] at e
      simp only [Option.map_some, Option.some.injEq, Prod.mk.injEq] at e
      rw [← e.2]
      exact Nat.lt_of_lt_of_le (di_lt (h.dt (x := p.1) (r := p.2) hd).2 hi) (Cd.dt_len (x := p.1) hd)
theorem dK_lt {zs : List Int} (h : BZ zs) {x : Int × Int} {r : List Int} (e : dK zs = some (x, r)) : r.length < zs.length := by
  unfold dK at e
  cases hd : Cd.di zs with
  | none => rw [hd] at e; cases e
  | some p =>
    rw [hd] at e
    simp only [Option.bind_some] at e
    cases hi : Cd.di p.2 with
    | none => rw [hi] at e; cases e
    | some q =>
      rw [hi] at e
      simp only [Option.map_some, Option.some.injEq, Prod.mk.injEq] at e
      rw [← e.2]
      exact Nat.lt_trans (di_lt (h.di (x := p.1) (r := p.2) hd).2 hi) (di_lt (x := p.1) h hd)
theorem lst_le {α : Type} {one : List Int → Option (α × List Int)} (h1 : ∀ zs x r, BZ zs → one zs = some (x, r) → BZ r ∧ r.length < zs.length) : ∀ (n : Nat) (zs : List Int) (xs : List α) (r : List Int), BZ zs → Cd.lst one n zs = some (xs, r) → n + r.length ≤ zs.length := by
  intro n
  induction n with
  | zero =>
    intro zs xs r hb h
    simp only [Cd.lst, Option.some.injEq, Prod.mk.injEq] at h
    rw [← h.2]; omega
  | succ n ih =>
    intro zs xs r hb h
    cases hd : one zs with
    | none => simp [Cd.lst, hd] at h
    | some p =>
      obtain ⟨x, r1⟩ := p
      cases hl : Cd.lst one n r1 with
      | none => simp [Cd.lst, hd, hl] at h
      | some q =>
        obtain ⟨ys, r2⟩ := q
        simp only [Cd.lst, hd, hl, Option.bind_some, Option.map_some, Option.some.injEq, Prod.mk.injEq] at h
        have i0 := h1 zs x r1 hb hd
        have i := ih r1 ys r2 i0.1 hl
        rw [← h.2]; omega
theorem cntk_bad {zs : List Int} {z : List Int} {g : Bool} {n : Int} (h : gtkI zs false = (n, z, g)) (hc : n < 0 ∨ (z.length : Int) < n) : cntk zs false = (0, z, true) := by
  unfold cntk
  rw [h]
  exact if_pos hc
theorem cntk_good {zs : List Int} {z : List Int} {g : Bool} {n : Int} (h : gtkI zs false = (n, z, g)) (hc : ¬ (n < 0 ∨ (z.length : Int) < n)) : cntk zs false = (n, z, g) := by
  unfold cntk
  rw [h]
  exact if_neg hc
theorem gtkI_none {zs : List Int} (h : Cd.di zs = none) : gtkI zs false = (0, [], true) := by
  unfold gtkI
  rw [if_neg (by decide), h]
theorem gtkI_some {zs r : List Int} {n : Int} (h : Cd.di zs = some (n, r)) : gtkI zs false = (n, r, false) := by
  unfold gtkI
  rw [if_neg (by decide), h]
theorem dcL_none {zs : List Int} (h : Cd.di zs = none) : dcL zs false = none := by
  unfold dcL
  rw [cntk_good (gtkI_none h) (by simp)]
  rfl
theorem dcL_neg {zs r : List Int} {n : Int} (h : Cd.di zs = some (n, r)) (hn : n < 0) : dcL zs false = none := by
  unfold dcL
  rw [cntk_bad (gtkI_some h) (.inl hn)]
  rfl
theorem dcL_ref {zs r : List Int} {n : Nat} (hz : BZ zs) (h : Cd.di zs = some ((n : Int), r)) : dcL zs false = (Cd.lst dU n r).bind fun u => dc2 u.1 u.2 := by
  have hr := (hz.di h).2
  unfold dcL
  by_cases hc : (r.length : Int) < (n : Int)
  · rw [cntk_bad (gtkI_some h) (.inr hc)]
    cases hl : Cd.lst dU n r with
    | none => rfl
    | some q =>
      have := lst_le (one := dU) (fun zs x r hz e => ⟨(hz.dU e).2, dU_lt hz e⟩) n r q.1 q.2 hr hl
      omega
  · rw [cntk_good (gtkI_some h) (fun h => h.elim (fun h => by omega) hc)]
    dsimp only
    rw [if_neg (by decide), Int.toNat_natCast]
theorem dc2_none {us : List (ByteArray × Int)} {zs : List Int} (h : Cd.di zs = none) : dc2 us zs = none := by
  unfold dc2
  rw [cntk_good (gtkI_none h) (by simp)]
  rfl
theorem dc2_neg {us : List (ByteArray × Int)} {zs r : List Int} {n : Int} (h : Cd.di zs = some (n, r)) (hn : n < 0) : dc2 us zs = none := by
  unfold dc2
  rw [cntk_bad (gtkI_some h) (.inl hn)]
  rfl
theorem dc2_ref {us : List (ByteArray × Int)} {zs r : List Int} {n : Nat} (hz : BZ zs) (h : Cd.di zs = some ((n : Int), r)) : dc2 us zs = (Cd.lst dK n r).bind fun k => dc3 us k.1 k.2 := by
  have hr := (hz.di h).2
  unfold dc2
  by_cases hc : (r.length : Int) < (n : Int)
  · rw [cntk_bad (gtkI_some h) (.inr hc)]
    cases hl : Cd.lst dK n r with
    | none => rfl
    | some q =>
      have := lst_le (one := dK) (fun zs x r hz e => ⟨(hz.dK e).2, dK_lt hz e⟩) n r q.1 q.2 hr hl
      omega
  · rw [cntk_good (gtkI_some h) (fun h => h.elim (fun h => by omega) hc)]
    dsimp only
    rw [if_neg (by decide), Int.toNat_natCast]
theorem takes_more {zs : List Int} {k : Nat} (h : (takes zs false k).2.2 = true) : ∀ m, k ≤ m → (takes zs false m).2.2 = true := by
  intro m hm
  induction m with
  | zero => obtain rfl : k = 0 := by omega
            exact h
  | succ m ih =>
    rcases Nat.lt_or_ge m k with h1 | h1
    · obtain rfl : k = m + 1 := by omega
      exact h
    · show (gtkI (takes zs false m).2.1 (takes zs false m).2.2).2.2 = true
      rw [ih h1]; rfl
/-- Between two steps of the reference's decoder of levels. -/
structure RS (w : World) (c1 c2 v1 : Value) (n1 : Nat) (xs1 : List Value) (v2 : Value) (n2 : Nat) (xs2 : List Value) (As : Option Addr) (cs : Nat) (rs : List Int) (y : World) : Prop where
  lbk : Blk y (w.heap.size + 1) [c1, c2, .int .i64 0, .int .i64 0, .int .i64 0, .int .i64 0, .int .i64 0, .int .i64 0, .int .i64 0] 27
  ar : Blk y w.heap.size [.slice none 0 0, .slice none 0 0, .int .i64 0, .int .i64 0, .int .i64 0, .int .i64 0, .int .i64 0, .int .i64 0, .int .i64 0] 27
  r1 : y.ownsRow (w.heap.size + 2) 60 2 v1 n1 xs1
  r2 : y.ownsRow (w.heap.size + 2) 88 2 v2 n2 xs2
  sl : Cd.Sl y As rs.length cs rs
  inn : Cd.In w.heap.size rs.length As
  bel : Below w.heap.size w y
section
variable {w : World} {c1 c2 v1 : Value} {n1 : Nat} {xs1 : List Value} {v2 : Value} {n2 : Nat} {xs2 : List Value} {As : Option Addr} {cs : Nat} {rs : List Int} {y : World}
theorem RS.call (h : RS w c1 c2 v1 n1 xs1 v2 n2 xs2 As cs rs y) {y' : World} (hb : Below y.heap.size y y') {As' : Option Addr} {cs' : Nat} {rs' : List Int} (hs : Cd.Sl y' As' rs'.length cs' rs') (hi : Cd.In w.heap.size rs'.length As') : RS w c1 c2 v1 n1 xs1 v2 n2 xs2 As' cs' rs' y' :=
  ⟨h.lbk.below hb, h.ar.below hb, row_kp h.r1 (Kp.below hb w.heap.size) (by omega), row_kp h.r2 (Kp.below hb w.heap.size) (by omega), hs, hi, h.bel.trans (hb.mono h.bel.size)⟩
theorem RS.keep (h : RS w c1 c2 v1 n1 xs1 v2 n2 xs2 As cs rs y) {y' : World} (hb : Below y.heap.size y y') : RS w c1 c2 v1 n1 xs1 v2 n2 xs2 As cs rs y' := h.call hb (h.sl.below hb) h.inn
theorem RS.alloc (h : RS w c1 c2 v1 n1 xs1 v2 n2 xs2 As cs rs y) (o : Obj) : RS w c1 c2 v1 n1 xs1 v2 n2 xs2 As cs rs (y.alloc o) := h.keep ((Below.refl y.heap.size y).alloc (Nat.le_refl _) o)
theorem RS.app1 (h : RS w c1 c2 v1 n1 xs1 v2 n2 xs2 As cs rs y) {y' : World} {v1' : Value} {n1' : Nat} {xs1' : List Value} (hg : Grew y y' (w.heap.size + 2) 60 2 v1 v1' n1' xs1') : RS w c1 c2 v1' n1' xs1' v2 n2 xs2 As cs rs y' :=
  have lo : ∀ q, v1.ownBlock = some q → w.heap.size + 2 ≤ q := fun q hq => (h.r1.lt q hq).1
  have hb : Below w.heap.size y y' := (Below.refl w.heap.size y).grown hg.grow h.bel.size (fun q hq => by have := lo q hq; omega)
  ⟨⟨(hg.grow.block _ h.lbk.lt (fun e => by have := lo _ e.symm; omega)).trans h.lbk.heap⟩, ⟨(hg.grow.block _ h.ar.lt (fun e => by have := lo _ e.symm; omega)).trans h.ar.heap⟩, hg.own,
    h.r2.kept hg.grow (by
      cases hv : v2.ownBlock with
      | none => exact .inl rfl
      | some q => exact .inr (fun e => rows_apart (show (88 : TypeId) ≠ 60 by decide) h.r2 h.r1 q hv (by rw [← hv]; exact e.symm ▸ hv ▸ rfl))), h.sl.under h.inn hb, h.inn, h.bel.trans hb⟩
theorem RS.app2 (h : RS w c1 c2 v1 n1 xs1 v2 n2 xs2 As cs rs y) {y' : World} {v2' : Value} {n2' : Nat} {xs2' : List Value} (hg : Grew y y' (w.heap.size + 2) 88 2 v2 v2' n2' xs2') : RS w c1 c2 v1 n1 xs1 v2' n2' xs2' As cs rs y' :=
  have lo : ∀ q, v2.ownBlock = some q → w.heap.size + 2 ≤ q := fun q hq => (h.r2.lt q hq).1
  have hb : Below w.heap.size y y' := (Below.refl w.heap.size y).grown hg.grow h.bel.size (fun q hq => by have := lo q hq; omega)
  ⟨⟨(hg.grow.block _ h.lbk.lt (fun e => by have := lo _ e.symm; omega)).trans h.lbk.heap⟩, ⟨(hg.grow.block _ h.ar.lt (fun e => by have := lo _ e.symm; omega)).trans h.ar.heap⟩,
    h.r1.kept hg.grow (by
      cases hv : v1.ownBlock with
      | none => exact .inl rfl
      | some q => exact .inr (fun e => rows_apart (show (60 : TypeId) ≠ 88 by decide) h.r1 h.r2 q hv (by rw [← hv]; exact e.symm ▸ hv ▸ rfl))), hg.own, h.sl.under h.inn hb, h.inn, h.bel.trans hb⟩
theorem RS.store1 (h : RS w c1 c2 v1 n1 xs1 v2 n2 xs2 As cs rs y) (v : Value) : RS w v c2 v1 n1 xs1 v2 n2 xs2 As cs rs (y.setCell ⟨w.heap.size + 1, 0, none⟩ v) :=
  have hk : Kp (w.heap.size + 1) y (y.setCell ⟨w.heap.size + 1, 0, none⟩ v) := (Kp.refl _ y).set 0 v
  have hb : Below w.heap.size y (y.setCell ⟨w.heap.size + 1, 0, none⟩ v) := (Below.refl w.heap.size y).setCell (p := ⟨w.heap.size + 1, 0, none⟩) (Nat.le_succ _) v
  ⟨h.lbk.set 0 v, h.ar.other ⟨w.heap.size + 1, 0, none⟩ v (by show w.heap.size ≠ w.heap.size + 1; omega), row_kp h.r1 hk (by omega), row_kp h.r2 hk (by omega), h.sl.under h.inn hb, h.inn, h.bel.trans hb⟩
theorem RS.store2 (h : RS w c1 c2 v1 n1 xs1 v2 n2 xs2 As cs rs y) (v : Value) : RS w c1 v v1 n1 xs1 v2 n2 xs2 As cs rs (y.setCell ⟨w.heap.size + 1, 1, none⟩ v) :=
  have hk : Kp (w.heap.size + 1) y (y.setCell ⟨w.heap.size + 1, 1, none⟩ v) := (Kp.refl _ y).set 1 v
  have hb : Below w.heap.size y (y.setCell ⟨w.heap.size + 1, 1, none⟩ v) := (Below.refl w.heap.size y).setCell (p := ⟨w.heap.size + 1, 1, none⟩) (Nat.le_succ _) v
  ⟨h.lbk.set 1 v, h.ar.other ⟨w.heap.size + 1, 1, none⟩ v (by show w.heap.size ≠ w.heap.size + 1; omega), row_kp h.r1 hk (by omega), row_kp h.r2 hk (by omega), h.sl.under h.inn hb, h.inn, h.bel.trans hb⟩
end
theorem wpl_recU {w : World} {c1 c2 v1 v2 : Value} {n2 : Nat} {xs2 : List Value} {As : Option Addr} {cs : Nat} {rs : List Int} {y : World} {us : List (ByteArray × Int)}
    {ops : Array Oper} {rest : List Oper} {o : Oper} {a : Act} {Q : Exit → Act → World → Prop} (hgd : o.guard = none) (s x : Operand)
    (ho : o.op = .call { callee := .builtin .append, args := #[s, x], argTypes := #[24, 24] }) (hs : a.eval s = v1) (hx : a.eval x = .slice (some ⟨y.heap.size, 0, none⟩) 1 1) (p : ByteArray × Int)
    (h : RS w c1 c2 v1 us.length (flat us.length (rowU (fU us))) v2 n2 xs2 As cs rs y) (hn : us.length ≤ 800000)
    (hK : ∀ A c m y', (us ++ [p]).length = m → RS w c1 c2 (.slice A m c) m (flat m (rowU (fU (us ++ [p])))) v2 n2 xs2 As cs rs y' → wpList Tryz.prog ops Q rest (a.put o.dst (.slice A m c)) y') : wpList Tryz.prog ops Q (o :: rest) a (y.alloc (.cells #[.string p.1, .int .i64 p.2] 60)) := by
  obtain ⟨i0, hi0, hz0, hz1, hz2⟩ := info_parts info60
  have h1 := h.alloc (.cells #[.string p.1, .int .i64 p.2] 60)
  refine wpList_append_any _ hgd s x 24 ho (w.heap.size + 2) 60 i0 _ 2 24 Tryz.underlying24 hi0 hz0 hz1 hz2 rfl (by decide) v1 _ _ hs h1.r1 (some ⟨y.heap.size, 0, none⟩) 1 1 [.string p.1, .int .i64 p.2] hx ?_ (by unfold maxLen; omega) (by omega) (by have := h1.lbk.lt; omega) ?_
  · refine ⟨rfl, (fun e => by cases e), .inr ⟨y.heap.size, 0, rfl, by simp, fun j u hu => ?_⟩, by simp [Value.oneCell']⟩
    have := cell_two_new y (.string p.1) (.int .i64 p.2) 60 j u hu
    rwa [Addr.add_lit] at this
  · intro v' w' hg
    obtain ⟨A, c, rfl⟩ := row_shape hg.own
    have hg2 : Grew (y.alloc (.cells #[.string p.1, .int .i64 p.2] 60)) w' (w.heap.size + 2) 60 2 v1 (.slice A (us ++ [p]).length c) (us ++ [p]).length (flat (us ++ [p]).length (rowU (fU (us ++ [p])))) := by
      rw [flatU_snoc, List.length_append, List.length_singleton]
      exact hg
    have h2 := hK A c _ w' rfl (h1.app1 hg2)
    rw [List.length_append, List.length_singleton] at h2
    exact h2
theorem wpl_recK {w : World} {c1 c2 v1 v2 : Value} {n1 : Nat} {xs1 : List Value} {As : Option Addr} {cs : Nat} {rs : List Int} {y : World} {ks : List (Int × Int)}
    {ops : Array Oper} {rest : List Oper} {o : Oper} {a : Act} {Q : Exit → Act → World → Prop} (hgd : o.guard = none) (s x : Operand)
    (ho : o.op = .call { callee := .builtin .append, args := #[s, x], argTypes := #[25, 25] }) (hs : a.eval s = v2) (hx : a.eval x = .slice (some ⟨y.heap.size, 0, none⟩) 1 1) (p : Int × Int)
    (h : RS w c1 c2 v1 n1 xs1 v2 ks.length (flat ks.length (rowK (fK ks))) As cs rs y) (hn : ks.length ≤ 800000)
    (hK : ∀ A c m y', (ks ++ [p]).length = m → RS w c1 c2 v1 n1 xs1 (.slice A m c) m (flat m (rowK (fK (ks ++ [p])))) As cs rs y' → wpList Tryz.prog ops Q rest (a.put o.dst (.slice A m c)) y') : wpList Tryz.prog ops Q (o :: rest) a (y.alloc (.cells #[.int .i64 p.1, .int .i64 p.2] 88)) := by
  obtain ⟨i0, hi0, hz0, hz1, hz2⟩ := info_parts info88
  have h1 := h.alloc (.cells #[.int .i64 p.1, .int .i64 p.2] 88)
  refine wpList_append_any _ hgd s x 25 ho (w.heap.size + 2) 88 i0 _ 2 16 Tryz.underlying25 hi0 hz0 hz1 hz2 rfl (by decide) v2 _ _ hs h1.r2 (some ⟨y.heap.size, 0, none⟩) 1 1 [.int .i64 p.1, .int .i64 p.2] hx ?_ (by unfold maxLen; omega) (by omega) (by have := h1.lbk.lt; omega) ?_
  · refine ⟨rfl, (fun e => by cases e), .inr ⟨y.heap.size, 0, rfl, by simp, fun j u hu => ?_⟩, by simp [Value.oneCell']⟩
    have := cell_two_new y (.int .i64 p.1) (.int .i64 p.2) 88 j u hu
    rwa [Addr.add_lit] at this
  · intro v' w' hg
    obtain ⟨A, c, rfl⟩ := row_shape hg.own
    have hg2 : Grew (y.alloc (.cells #[.int .i64 p.1, .int .i64 p.2] 88)) w' (w.heap.size + 2) 88 2 v2 (.slice A (ks ++ [p]).length c) (ks ++ [p]).length (flat (ks ++ [p]).length (rowK (fK (ks ++ [p])))) := by
      rw [flatK_snoc, List.length_append, List.length_singleton]
      exact hg
    have h2 := hK A c _ w' rfl (h1.app2 hg2)
    rw [List.length_append, List.length_singleton] at h2
    exact h2
end Go.Proofs.YtdacjnlfjaegiaaGreatDoor
namespace Go.Proofs.YtdacjnlfjaegiaaGreatDoor
open Go Go.RowKit
set_option linter.unusedVariables false
set_option linter.unusedSimpArgs false
set_option maxRecDepth 100000

theorem results_cell_tmp2_blk {P : Program} {fn : Func} {p u v : Tmp} {ty : TypeId} (h : fn.results = #[.cell p ty, .tmp u, .tmp v]) (tmps : Array Value) (w : World) (t : Nat) (cs : List Value) (T : TypeId) (d : TypeDesc)
    (hp : tmps.getD p undef = .pointer (some ⟨t, 0, none⟩)) (hc : Blk w t cs T) (hu : P.underlying ty = some d) (hd : (match d with | .struct _ | .array _ _ => true | _ => false) = true) (hi : (P.info? ty).map (·.size) = some cs.length) :
    (results fn tmps).run P w = .ok (.tuple #[.agg cs.toArray, tmps.getD u undef, tmps.getD v undef]) w := by
  have hi' : (P.info? ty).map (·.size) = some cs.toArray.size := by simpa using hi
  have e : (results fn tmps).run P w = ((asAddr (tmps.getD p undef)).run P w).andThen fun a w₁ => ((loadVar ty a).run P w₁).andThen fun x w₂ => .ok (.tuple #[x, tmps.getD u undef, tmps.getD v undef]) w₂ := by
    simp only [results, h]
    simp [Sem.run_bind, Result.andThen]
  rw [e, hp]
  simp [asAddr, Result.andThen, run_loadVar_row (P := P) w t T ty cs.toArray (0, 0) d hc.heap hu hd hi']
/-- What the reference's decoder of levels gives. -/
def RlP (r : Option (Lv × List Int)) (w : World) (e : Ending) (w' : World) : Prop := Below w.heap.size w w' ∧ match r with
  | none => ∃ (L : Lv) (uA : Option Addr) (uC : Nat) (kA : Option Addr) (kC : Nat), e = .returned (.tuple #[.agg (lcs L uA uC kA kC).toArray, .slice none 0 0, .bool false])
  | some (L, rest) => ∃ (uA : Option Addr) (uC : Nat) (kA : Option Addr) (kC : Nat) (A : Option Addr) (c : Nat), e = .returned (.tuple #[.agg (lcs L uA uC kA kC).toArray, .slice A rest.length c, .bool true]) ∧ Cd.Sl w' A rest.length c rest ∧ w'.ownsRow w.heap.size 60 2 (.slice uA L.us.length uC) L.us.length (flat L.us.length (rowU (fU L.us))) ∧ w'.ownsRow w.heap.size 88 2 (.slice kA L.ks.length kC) L.ks.length (flat L.ks.length (rowK (fK L.ks)))
theorem rl_fail {r : Option (Lv × List Int)} {w w' : World} {A : Option Addr} {c : Nat} {us : List (ByteArray × Int)} {B : Option Addr} {b : Nat} {ks : List (Int × Int)} (h : r = none) (hb : Below w.heap.size w w') : RlP r w (.returned (.tuple #[.agg #[.slice A us.length c, .slice B ks.length b, .int .i64 0, .int .i64 0, .int .i64 0, .int .i64 0, .int .i64 0, .int .i64 0, .int .i64 0], .slice none 0 0, .bool false])) w' := by
  subst h
  exact ⟨hb, ⟨us, ks, 0, 0, 0, 0, 0, 0, 0⟩, A, c, B, b, rfl⟩
theorem rl_fail0 {r : Option (Lv × List Int)} {w w' : World} (h : r = none) (hb : Below w.heap.size w w') : RlP r w (.returned (.tuple #[.agg #[.slice none 0 0, .slice none 0 0, .int .i64 0, .int .i64 0, .int .i64 0, .int .i64 0, .int .i64 0, .int .i64 0, .int .i64 0], .slice none 0 0, .bool false])) w' := rl_fail (us := []) (ks := []) h hb
theorem row_ne {w : World} {B : Nat} {e : TypeId} {s n : Nat} {v : Value} {xs : List Value} (h : w.ownsRow B e s v n xs) {g : Nat} {cs : List Value} {T : TypeId} (hb : Blk w g cs T) (hne : e ≠ T) : ∀ q, v.ownBlock = some q → q ≠ g := by
  intro q hq he
  subst he
  rcases h.2 with ⟨rfl, _⟩ | ⟨g', cap, cur, rfl, _, hg, _⟩
  · cases hq
  obtain rfl : g' = q := by simpa [Value.ownBlock] using hq
  rw [hb.heap] at hg
  injection hg with hg
  injection hg with _ h2 _
  exact hne h2.symm
theorem row_kpn {w w' : World} {base : Nat} {e : TypeId} {size : Nat} {v : Value} {n : Nat} {xs : List Value} {g : Nat} (h : w.ownsRow base e size v n xs) (hk : Kp g w w') (hne : ∀ q, v.ownBlock = some q → q ≠ g) : w'.ownsRow base e size v n xs := by
  refine ⟨h.1, h.2.imp id ?_⟩
  rintro ⟨g', cap, cur, hv, hbg, hg, r⟩
  exact ⟨g', cap, cur, hv, hbg, (hk.block g' (Array.getElem?_eq_some_iff.1 hg).1 (hne g' (by rw [hv]; rfl))).trans hg, r⟩
/-- A store into another new block. -/
theorem RS.other {w : World} {c1 c2 v1 : Value} {n1 : Nat} {xs1 : List Value} {v2 : Value} {n2 : Nat} {xs2 : List Value} {As : Option Addr} {cs : Nat} {rs : List Int} {y : World} (h : RS w c1 c2 v1 n1 xs1 v2 n2 xs2 As cs rs y) {pb : Nat} {ps : List Value} {T : TypeId} (hb : Blk y pb ps T) (h6 : (60 : TypeId) ≠ T) (h8 : (88 : TypeId) ≠ T) (hp : w.heap.size + 1 < pb) (i : Nat) (v : Value) : RS w c1 c2 v1 n1 xs1 v2 n2 xs2 As cs rs (y.setCell ⟨pb, i, none⟩ v) :=
  have hk : Kp pb y (y.setCell ⟨pb, i, none⟩ v) := (Kp.refl pb y).set i v
  have hb2 : Below w.heap.size y (y.setCell ⟨pb, i, none⟩ v) := (Below.refl w.heap.size y).setCell (p := ⟨pb, i, none⟩) (by show w.heap.size ≤ pb; omega) v
  ⟨h.lbk.other ⟨pb, i, none⟩ v (by show w.heap.size + 1 ≠ pb; omega), h.ar.other ⟨pb, i, none⟩ v (by show w.heap.size ≠ pb; omega), row_kpn h.r1 hk (row_ne h.r1 hb h6), row_kpn h.r2 hk (row_ne h.r2 hb h8), h.sl.under h.inn hb2, h.inn, h.bel.trans hb2⟩
/-- As RS, with any nine cells, and the block of the seven ints. -/
structure RT (w : World) (cl : List Value) (pb : Nat) (ps : List Value) (v1 : Value) (n1 : Nat) (xs1 : List Value) (v2 : Value) (n2 : Nat) (xs2 : List Value) (As : Option Addr) (cs : Nat) (rs : List Int) (y : World) : Prop where
  lbk : Blk y (w.heap.size + 1) cl 27
  pk : Blk y pb ps 63
  hp : w.heap.size + 1 < pb
  ar : Blk y w.heap.size [.slice none 0 0, .slice none 0 0, .int .i64 0, .int .i64 0, .int .i64 0, .int .i64 0, .int .i64 0, .int .i64 0, .int .i64 0] 27
  r1 : y.ownsRow (w.heap.size + 2) 60 2 v1 n1 xs1
  r2 : y.ownsRow (w.heap.size + 2) 88 2 v2 n2 xs2
  sl : Cd.Sl y As rs.length cs rs
  inn : Cd.In w.heap.size rs.length As
  bel : Below w.heap.size w y
theorem RT.set {w : World} {cl : List Value} {pb : Nat} {ps : List Value} {v1 : Value} {n1 : Nat} {xs1 : List Value} {v2 : Value} {n2 : Nat} {xs2 : List Value} {As : Option Addr} {cs : Nat} {rs : List Int} {y : World} (h : RT w cl pb ps v1 n1 xs1 v2 n2 xs2 As cs rs y) (i : Nat) (v : Value) : RT w (cl.set i v) pb ps v1 n1 xs1 v2 n2 xs2 As cs rs (y.setCell ⟨w.heap.size + 1, i, none⟩ v) :=
  have hk : Kp (w.heap.size + 1) y (y.setCell ⟨w.heap.size + 1, i, none⟩ v) := (Kp.refl _ y).set i v
  have hb : Below w.heap.size y (y.setCell ⟨w.heap.size + 1, i, none⟩ v) := (Below.refl w.heap.size y).setCell (p := ⟨w.heap.size + 1, i, none⟩) (Nat.le_succ _) v
  ⟨h.lbk.set i v, h.pk.other ⟨w.heap.size + 1, i, none⟩ v (Nat.ne_of_gt h.hp), h.hp, h.ar.other ⟨w.heap.size + 1, i, none⟩ v (by show w.heap.size ≠ w.heap.size + 1; omega), row_kp h.r1 hk (by omega), row_kp h.r2 hk (by omega), h.sl.under h.inn hb, h.inn, h.bel.trans hb⟩
theorem RT.drew {w : World} {cl : List Value} {pb : Nat} {ps : List Value} {v1 : Value} {n1 : Nat} {xs1 : List Value} {v2 : Value} {n2 : Nat} {xs2 : List Value} {As : Option Addr} {cs : Nat} {rs : List Int} {y : World} (h : RT w cl pb ps v1 n1 xs1 v2 n2 xs2 As cs rs y) : RT w cl pb ps v1 n1 xs1 v2 n2 xs2 As cs rs y.drew :=
  have hb := (Below.refl y.heap.size y).drew
  ⟨h.lbk.below hb, h.pk.below hb, h.hp, h.ar.below hb, row_kp h.r1 (Kp.below hb w.heap.size) (by omega), row_kp h.r2 (Kp.below hb w.heap.size) (by omega), h.sl.below hb, h.inn, h.bel.trans (hb.mono h.bel.size)⟩
theorem rl_some {q : Option (Lv × List Int)} {us : List (ByteArray × Int)} {ks : List (Int × Int)} {z vs rk : List Int} (hq : q = dc3 us ks z) (ht : takes z false 7 = (vs, rk, false)) : q = some (⟨us, ks, vs.getD 0 0, vs.getD 1 0, vs.getD 2 0, vs.getD 3 0, vs.getD 4 0, vs.getD 5 0, vs.getD 6 0⟩, rk) := by
  rw [hq]
  unfold dc3
  rw [ht]
  rfl
def p7 (vs : List Int) : List Value := vs.map (Value.int .i64) ++ List.replicate (7 - vs.length) (.int .i64 0)
theorem p7_at (vs : List Int) (h : vs.length < 7) : (p7 vs)[vs.length]? = some (.int .i64 0) := by
  unfold p7
  rw [List.getElem?_append_right (by simp), List.length_map, Nat.sub_self, show 7 - vs.length = (6 - vs.length) + 1 by omega, List.replicate_succ]
  rfl
theorem p7_set (vs : List Int) (v : Int) (h : vs.length < 7) : (p7 vs).set vs.length (.int .i64 v) = p7 (vs ++ [v]) := by
  unfold p7
  have e : 7 - vs.length = (7 - (vs ++ [v]).length) + 1 := by rw [List.length_append, List.length_singleton]; omega
  rw [List.set_append_right _ _ (by simp), e, List.replicate_succ, List.length_map, Nat.sub_self]
  simp
theorem p7_all {vs : List Int} (h : vs.length = 7) : p7 vs = [.int .i64 (vs.getD 0 0), .int .i64 (vs.getD 1 0), .int .i64 (vs.getD 2 0), .int .i64 (vs.getD 3 0), .int .i64 (vs.getD 4 0), .int .i64 (vs.getD 5 0), .int .i64 (vs.getD 6 0)] := by
  match vs, h with
  | [_, _, _, _, _, _, _], _ => rfl
set_option maxHeartbeats 16000000 in
theorem rlevels82_none (A0 : Option Addr) (c0 : Nat) (zs : List Int) (w : World) (h : Cd.Sl w A0 zs.length c0 zs) (hl : zs.length ≤ 800000) (hd : Cd.di zs = none) : Calls Tryz.prog 82 #[.slice A0 zs.length c0] w (RlP (dcL zs false) w) := by
  have HN := Lib.hid (dcL_none hd)
  have HG := Lib.hid (show Cd.gi zs = none by rw [Cd.gi_di, hd]; rfl)
  have BA := Lib.hid (((Below.refl w.heap.size w).alloc (Nat.le_refl _) (.cells #[.slice none 0 0, .slice none 0 0, .int .i64 0, .int .i64 0, .int .i64 0, .int .i64 0, .int .i64 0, .int .i64 0, .int .i64 0] 27)).alloc (by simp) (.cells #[.slice none 0 0, .slice none 0 0, .int .i64 0, .int .i64 0, .int .i64 0, .int .i64 0, .int .i64 0, .int .i64 0, .int .i64 0] 27))
  have RA := Lib.hid (show RS w (.slice none 0 0) (.slice none 0 0) (.slice none 0 0) 0 [] (.slice none 0 0) 0 [] A0 c0 zs ((w.alloc (.cells #[.slice none 0 0, .slice none 0 0, .int .i64 0, .int .i64 0, .int .i64 0, .int .i64 0, .int .i64 0, .int .i64 0, .int .i64 0] 27)).alloc (.cells #[.slice none 0 0, .slice none 0 0, .int .i64 0, .int .i64 0, .int .i64 0, .int .i64 0, .int .i64 0, .int .i64 0, .int .i64 0] 27)) from
    ⟨blk_new2 w (.cells #[.slice none 0 0, .slice none 0 0, .int .i64 0, .int .i64 0, .int .i64 0, .int .i64 0, .int .i64 0, .int .i64 0, .int .i64 0] 27) [.slice none 0 0, .slice none 0 0, .int .i64 0, .int .i64 0, .int .i64 0, .int .i64 0, .int .i64 0, .int .i64 0, .int .i64 0] 27, (blk_new w [.slice none 0 0, .slice none 0 0, .int .i64 0, .int .i64 0, .int .i64 0, .int .i64 0, .int .i64 0, .int .i64 0, .int .i64 0] 27).alloc _, World.ownsRow_nil _ _ _ _, World.ownsRow_nil _ _ _ _, h.below BA.out, h.here, BA.out⟩)
  generalize dcL zs false = r at HN ⊢
  clear h hd
  generalize hW : (w.alloc (.cells #[.slice none 0 0, .slice none 0 0, .int .i64 0, .int .i64 0, .int .i64 0, .int .i64 0, .int .i64 0, .int .i64 0, .int .i64 0] 27)).alloc (.cells #[.slice none 0 0, .slice none 0 0, .int .i64 0, .int .i64 0, .int .i64 0, .int .i64 0, .int .i64 0, .int .i64 0, .int .i64 0] 27) = W0 at RA BA
  go_enter Tryz.func82, Tryz.ntmps82
  go_upto_region 4 with (first
    | (go_at_call 79; refine (Cd.rgetInt_in w.heap.size _ _ _ zs hl _ RA.out.sl RA.out.inn).mono ?_; intro e w1 hgot; obtain ⟨rfl, hb⟩ := Cd.gotin_no hgot HG.out; have RB := Lib.hid (RA.out.keep hb); clear hgot hb)
    | fail)
  go_wp2_with (first
    | (refine wpList_load_mid rfl 27 _ rfl (w.heap.size + 1) 0 rfl [.slice none 0 0, .slice none 0 0, .int .i64 0, .int .i64 0, .int .i64 0, .int .i64 0, .int .i64 0, .int .i64 0, .int .i64 0] _ RB.out.lbk.range Tryz.underlying27 rfl size27 ?_)
    | (refine store_mid_as rfl 27 _ _ rfl w.heap.size 0 (#[.slice none 0 0, .slice none 0 0, .int .i64 0, .int .i64 0, .int .i64 0, .int .i64 0, .int .i64 0, .int .i64 0, .int .i64 0] : Array Value) rfl rfl (Blk.there (n := 9) RB.out.ar (Nat.le_refl 9)) size27 (by simp [Value.oneCell']) ?_; intro wz ez; have EZ := Lib.hid ez; clear ez)
    | fail)
  (try simp only [Exit.inBlock, Exit.then])
  refine bodyPost_ret (results_cell_tmp2_blk rfl _ _ w.heap.size [.slice none 0 0, .slice none 0 0, .int .i64 0, .int .i64 0, .int .i64 0, .int .i64 0, .int .i64 0, .int .i64 0, .int .i64 0] 27 _ rfl (by rw [EZ.out]; exact Blk.setAll RB.out.ar _ rfl) Tryz.underlying27 rfl size27) rfl ?_
  rw [EZ.out]
  exact rl_fail0 HN.out (below_setAll (Nat.le_refl _) _ _ _ RB.out.bel)
end Go.Proofs.YtdacjnlfjaegiaaGreatDoor
