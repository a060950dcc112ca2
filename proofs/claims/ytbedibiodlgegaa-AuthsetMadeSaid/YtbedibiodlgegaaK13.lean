/- Lists of events, with what stands behind them: rows of the call's own. Bound: none beyond a slice's. -/
import Derived.Test.YtbedibiodlgegaaK11
import Derived.Test.YtbedibiodlgegaaYGT
import Derived.Great.Walk
namespace Go.Proofs.Ytbedibiodlgegaa
open Go Go.RowKit
set_option linter.unusedVariables false
set_option linter.unusedSimpArgs false

theorem info34s : (Try.prog.info? 34).map (fun i => (i.zero, i.size, i.bytes)) = some (some (.agg (cellsE ev0).toArray), 29, 376) := by kernel_rfl
theorem built34 (e : Evd) : Try.prog.builtSlice 34 1 [(0, .agg (cellsE e).toArray)] = some (cellsE e).toArray := by kernel_rfl
theorem cellsE_len (e : Evd) : (cellsE e).length = 29 := rfl
theorem cellsE_one (e : Evd) : ∀ u ∈ cellsE e, u.oneCell' = true := by
  intro u hu
  simp only [cellsE, evc, List.mem_cons, List.not_mem_nil, or_false] at hu
  rcases hu with rfl | rfl | rfl | rfl | rfl | rfl | rfl | rfl | rfl | rfl | rfl | rfl | rfl | rfl | rfl | rfl | rfl | rfl | rfl | rfl | rfl | rfl | rfl | rfl | rfl | rfl | rfl | rfl | rfl <;> rfl
def clE (es : List Evd) : List Value := es.flatMap cellsE
theorem clE_snoc (es : List Evd) (e : Evd) : clE es ++ cellsE e = clE (es ++ [e]) := by
  unfold clE; rw [List.flatMap_append]; simp
theorem flat_clE (es : List Evd) : flat es.length (fun j => cellsE (es.getD j ev0)) = clE es := by
  have : ∀ n, n ≤ es.length → flat n (fun j => cellsE (es.getD j ev0)) = clE (es.take n) := by
    intro n
    induction n with
    | zero => intro _; rfl
    | succ n ih =>
      intro hn
      rw [flat_succ, ih (by omega), List.take_succ_eq_append_getElem (by omega), ← clE_snoc, List.getD_eq_getElem?_getD, List.getElem?_eq_getElem (by omega)]
      rfl
  rw [this _ (Nat.le_refl _), List.take_length]
theorem srcE (w : World) (e : Evd) : Src (w.alloc (.cells (cellsE e).toArray 34)) (some ⟨w.heap.size, 0, none⟩) 1 1 29 (cellsE e) :=
  ⟨rfl, (fun e => by cases e), .inr ⟨w.heap.size, 0, rfl, by simp, fun j u hu => by rw [Nat.zero_add]; exact (blk_new w (cellsE e) 34).cell hu⟩, cellsE_one e⟩
/-- What stands behind an event. -/
structure Beh (w : World) (x : Evd) : Prop where
  c : IsCt w x.C x.a
  p8 : Its w x.a8 x.n8 x.c8 x.p8
  p9 : Its w x.a9 x.n9 x.c9 x.p9
theorem Beh.below {w w1 : World} {x : Evd} (h : Beh w x) (hb : Below w.heap.size w w1) : Beh w1 x := ⟨h.c.below hb, h.p8.below hb, h.p9.below hb⟩
theorem Rws.grown {w w1 : World} {A : Option Addr} {n c sz : Nat} {L : Nat → List Value} {row : Option Nat} (h : Rws w A n c sz L) (hg : w.grownBy w1 row) (hne : 0 < n → ∀ b off, A = some ⟨b, off, none⟩ → some b ≠ row) : Rws w1 A n c sz L := by
  refine ⟨h.len, h.one, h.big, h.nil, ?_⟩
  rcases Nat.eq_zero_or_pos n with h0 | h0
  · exact .inl h0
  · exact h.at_.imp id fun ⟨b, off, e, hlt, hc⟩ => ⟨b, off, e, Nat.lt_of_lt_of_le hlt hg.size, fun j hj i v hv => (World.cell?_of_block (a := ⟨b, off + j * sz + i, none⟩) (hg.block b hlt (hne h0 b off e))).trans (hc j hj i v hv)⟩
theorem ne_row {n : Nat} {A : Option Addr} {row : Option Nat} (h : ∀ g, row = some g → 0 < n → ∀ b off, A = some ⟨b, off, none⟩ → b ≠ g) : 0 < n → ∀ b off, A = some ⟨b, off, none⟩ → some b ≠ row := fun h0 b off e e1 => h b e1.symm h0 b off e rfl
theorem Beh.grown {w w1 : World} {x : Evd} {row : Option Nat} (h : Beh w x) (hg : w.grownBy w1 row) (hne : ∀ g, row = some g → ApE g x) : Beh w1 x :=
  ⟨⟨⟨h.c.al.rws.grown hg (ne_row fun g e => (hne g e).c.al), h.c.al.len, h.c.al.cap, h.c.al.fit⟩, ⟨h.c.dn.rws.grown hg (ne_row fun g e => (hne g e).c.dn), h.c.dn.len, h.c.dn.cap, h.c.dn.fit⟩, h.c.us.grown hg (ne_row fun g e => (hne g e).c.us), h.c.ks.grown hg (ne_row fun g e => (hne g e).c.ks)⟩,
    ⟨h.p8.rws.grown hg (ne_row fun g e => (hne g e).p8), h.p8.len, h.p8.cap, h.p8.fit⟩, ⟨h.p9.rws.grown hg (ne_row fun g e => (hne g e).p9), h.p9.len, h.p9.cap, h.p9.fit⟩⟩
theorem Beh.apart {w : World} {x : Evd} (h : Beh w x) {g : Nat} (hg : w.heap.size ≤ g) : ApE g x := ⟨h.c.apart hg, fun h0 => h.p8.rws.old hg h0, fun h0 => h.p9.rws.old hg h0⟩
/-- The events of a row of the call's own, and what stands behind them. -/
def Kept (w : World) (v : Value) (es : List Evd) : Prop := ∀ x ∈ es, Beh w x ∧ Wfe x ∧ ∀ g, v.ownBlock = some g → ApE g x
theorem Kept.nil (w : World) (v : Value) : Kept w v [] := fun x hx => by simp at hx
theorem Kept.below {w w1 : World} {v : Value} {es : List Evd} (h : Kept w v es) (hb : Below w.heap.size w w1) : Kept w1 v es := fun x hx => ⟨(h x hx).1.below hb, (h x hx).2⟩
theorem Kept.snoc {w : World} {v : Value} {es : List Evd} {x : Evd} (h : Kept w v es) (h1 : Beh w x) (h2 : Wfe x) (h3 : ∀ g, v.ownBlock = some g → ApE g x) : Kept w v (es ++ [x]) := fun y hy => by
  rcases List.mem_append.1 hy with hy | hy
  · exact h y hy
  · obtain rfl : y = x := by simpa using hy
    exact ⟨h1, h2, h3⟩
theorem Kept.grew {w w1 : World} {v v' : Value} {es : List Evd} {B : Nat} {e : TypeId} {sz n : Nat} {xs : List Value} (h : Kept w v es) (hg : Grew w w1 B e sz v v' n xs) : Kept w1 v' es := fun x hx => by
  obtain ⟨h1, h2, h3⟩ := h x hx
  refine ⟨h1.grown hg.grow h3, h2, fun g hv => ?_⟩
  rcases hg.at_ with e1 | e1
  · exact h3 g (by rw [← e1, hv])
  · rw [hv] at e1
    cases e1
    exact h1.apart (Nat.le_refl _)
/-- The data of an event. -/
def dat (e : Evd) : Evd := mvE e none 0 none 0 ad0
theorem dat_mv (e : Evd) (A8 : Option Addr) (d8 : Nat) (A9 : Option Addr) (d9 : Nat) (a : Ads) : dat (mvE e A8 d8 A9 d9 a) = dat e := rfl
theorem wfe_mv {e : Evd} (h : Wfe e) (A8 : Option Addr) (d8 : Nat) (A9 : Option Addr) (d9 : Nat) (a : Ads) : Wfe (mvE e A8 d8 A9 d9 a) := ⟨h.b8, h.b9, h.s1, h.s2, h.s5, h.s27, h.tx, h.via, h.us, h.i0, h.i3, h.i6, h.i7, h.i26, h.i28, h.iN, h.iT⟩
/-- A list of events with these data. -/
def EvsP (w : World) (ds : List Evd) (e : Ending) (w' : World) : Prop := ∃ (A : Option Addr) (c : Nat) (es : List Evd), e = .returned (.slice A ds.length c) ∧ Evx w' A ds.length (fun j => es.getD j ev0) ∧ es.map dat = ds ∧ Below w.heap.size w w'
theorem evs_end {w w1 : World} {A : Option Addr} {nf c B : Nat} {es ds : List Evd} (h : w1.ownsRow B 34 29 (.slice A nf c) nf (clE es)) (hl : es.length = nf) (hn : nf ≤ 100000) (hk : Kept w1 (.slice A nf c) es) (he : es.map dat = ds) (hb : Below w.heap.size w w1) : EvsP w ds (.returned (.slice A nf c)) w1 := by
  have hdl : ds.length = nf := by rw [← he, List.length_map, hl]
  rw [← flat_clE, hl] at h
  have hr := own_rows h (fun j _ => rfl) (fun j _ => cellsE_one _) (by unfold maxLen; omega)
  have hm : ∀ j, j < nf → es.getD j ev0 ∈ es := fun j hj => by
    rw [List.getD_eq_getElem?_getD, List.getElem?_eq_getElem (by omega)]
    exact List.getElem_mem _
  refine ⟨A, c, es, by rw [hdl], ?_, he, hb⟩
  rw [hdl]
  refine ⟨by omega, fun h0 => ?_, fun j hj => (hk _ (hm j hj)).1.c, fun j hj => (hk _ (hm j hj)).2.1, fun j hj => ⟨(hk _ (hm j hj)).1.p8, (hk _ (hm j hj)).1.p9⟩⟩
  rcases hr.at_ with h1 | ⟨b, off, e, hlt, hc⟩
  · omega
  · exact ⟨b, off, e, hlt, fun j hj i v hv => hc j hj i v hv⟩
theorem Evx.beh {w : World} {A : Option Addr} {n : Nat} {E : Nat → Evd} (h : Evx w A n E) {j : Nat} (hj : j < n) : Beh w (E j) := ⟨h.ct j hj, (h.pa j hj).1, (h.pa j hj).2⟩
end Go.Proofs.Ytbedibiodlgegaa
