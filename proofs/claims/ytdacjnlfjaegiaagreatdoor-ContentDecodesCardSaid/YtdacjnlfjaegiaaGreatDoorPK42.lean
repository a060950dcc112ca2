/- The decoder of levels: rows of its own that hold no byte, and what stands between its steps. Bounds: at most 800000 bytes. No condition. -/
import Derived.Test.YtdacjnlfjaegiaaGreatDoorPK31
namespace Go.Proofs.YtdacjnlfjaegiaaGreatDoor
open Go Go.RowKit
set_option linter.unusedVariables false
set_option linter.unusedSimpArgs false

def N8 (v : Value) : Prop := ∀ z, v ≠ .int .u8 z
/-- The block of a row holds nothing but what T allows, spare cells too. -/
def TRow (T : Value → Prop) (w : World) (v : Value) : Prop := ∀ g, v.ownBlock = some g → ∃ cur e f, w.heap[g]? = some (.cells cur e f) ∧ ∀ u ∈ cur.toList, T u
theorem trow_none (T : Value → Prop) (w : World) : TRow T w (.slice none 0 0) := fun g hg => by cases hg
theorem mem_zero {T : Value → Prop} {z : Array Value} (h : ∀ u ∈ z.toList, T u) (n : Nat) : ∀ u ∈ (Builtin.zeroCells z n).toList, T u := by
  intro u hu
  unfold Builtin.zeroCells at hu
  simp only [Array.toList_map, List.mem_map] at hu
  obtain ⟨i, hi, rfl⟩ := hu
  have hi2 : i < n * z.size := by simpa using hi
  have hp : 0 < z.size := by
    rcases Nat.eq_zero_or_pos z.size with h0 | h0
    · rw [h0] at hi2; omega
    · exact h0
  have hlt := Nat.mod_lt i hp
  rw [getElem!_pos z _ hlt]
  exact h _ (Array.getElem_mem_toList hlt)
theorem run_append_typed {P : Program} (w : World) (T : Value → Prop) (t ty : TypeId) (base : Nat) (e : TypeId) (i : TypeInfo) (z : Value) (size bytes : Nat) (ht : P.underlying t = some (.slice e)) (hi : P.info? e = some i) (hz : i.zero = some z)
    (hsize : i.size = size) (hby : i.bytes = bytes) (hzs : z.cells.size = size) (hsz : 0 < size) (hzT : ∀ u ∈ z.cells.toList, T u)
    (v : Value) (n : Nat) (xs : List Value) (hown : w.ownsRow base e size v n xs) (hT : TRow T w v)
    (a : Addr) (m c : Nat) (news : List Value) (hl : news.length = m * size) (hnews : ∀ j u, news[j]? = some u → w.cell? (a.add j) = some u) (h1 : ∀ u ∈ news, u.oneCell' = true) (hnT : ∀ u ∈ news, T u) (hm : 0 < m)
    (h63 : n + m ≤ maxLen) (hbytes : (n + m) * bytes ≤ 140737488355328) (hbase : base ≤ w.heap.size) :
    ∃ v' w', (Builtin.append_ #[t, t] ty #[v, .slice (some a) m c]).run P w = .ok v' w' ∧ Grew w w' base e size v v' (n + m) (xs ++ news) ∧ TRow T w' v' := by
  obtain ⟨v', w', hr, h2, h3, _, h5⟩ := run_append_own_at (P := P) w base t ty e i z size bytes ht hi hz hsize hby hzs hsz v n xs hown a m c news hl hnews h1 h63 hbytes hbase
  refine ⟨v', w', hr, ⟨h2, h3, h5⟩, ?_⟩
  have hsmall : n + m ≤ 9223372036854775807 := by simp only [maxLen] at h63; omega
  subst hsize
  subst hby
  rcases hown.2 with ⟨rfl, rfl⟩ | ⟨g, cap, cur, rfl, hbg, hg, hnc, hcm, hcs, htake⟩
  · have hr2 := run_append_nil (P := P) w t ty e i z ht hi hz a m c news hl hnews hm (by omega) (by have hb := hbytes; simp only [Nat.zero_add] at hb; omega)
    rw [hr] at hr2
    injection hr2 with e1 e2
    subst e1 e2
    intro q hq
    obtain rfl : w.heap.size = q := by simpa [Value.ownBlock] using hq
    refine ⟨_, _, _, heap_alloc_new w.drew _, fun u hu => ?_⟩
    simp only [Array.toList_append, List.mem_append] at hu
    rcases hu with hu | hu
    · exact hnT u hu
    · exact mem_zero hzT _ u hu
  · have hcur : ∀ u ∈ cur.toList, T u := by
      obtain ⟨cur2, e2, f2, hh, hn⟩ := hT g rfl
      rw [hg] at hh
      injection hh with hh
      injection hh with hh _ _
      subst hh
      exact hn
    by_cases hroom : n + m ≤ cap
    · have hfit : n * i.size + news.length ≤ cur.size := by rw [hl, hcs, ← Nat.add_mul]; exact Nat.mul_le_mul_right _ hroom
      have hr2 := run_append_room (P := P) w t ty e i ht hi g n cap cur hg a m c news hl hnews h1 hroom hfit
      rw [hr] at hr2
      injection hr2 with e1 e2
      subst e1 e2
      intro q hq
      obtain rfl : g = q := by simpa [Value.ownBlock] using hq
      refine ⟨_, _, _, setRow_heap w g cur _ e _ hg, fun u hu => ?_⟩
      simp only [List.mem_append] at hu
      rcases hu with (hu | hu) | hu
      · exact hcur u (List.mem_of_mem_take hu)
      · exact hnT u hu
      · exact hcur u (List.mem_of_mem_drop hu)
    · have holds : ∀ j u, xs[j]? = some u → w.cell? ((⟨g, 0, none⟩ : Addr).add j) = some u := hown.cells (g := g) rfl
      have hr2 := run_append_grow (P := P) w t ty e i z ht hi hz ⟨g, 0, none⟩ n cap xs hown.1 holds a m c news hl hnews (by omega) (by omega) (growslice_fits (by omega) hbytes)
      rw [hr] at hr2
      injection hr2 with e1 e2
      subst e1 e2
      intro q hq
      obtain rfl : w.heap.size = q := by simpa [Value.ownBlock] using hq
      refine ⟨_, _, _, heap_alloc_new w.drew _, fun u hu => ?_⟩
      simp only [Array.toList_append, List.mem_append] at hu
      rcases hu with (hu | hu) | hu
      · rw [← htake] at hu
        exact hcur u (List.mem_of_mem_take hu)
      · exact hnT u hu
      · exact mem_zero hzT _ u hu
theorem TRow.ne {w : World} {v : Value} {g : Nat} (hT : TRow N8 w v) (hg : v.ownBlock = some g) {b off : Nat} {z : Int} (h : w.cell? ⟨b, off, none⟩ = some (.int .u8 z)) : b ≠ g := by
  rintro rfl
  obtain ⟨cur, e, f, hh, hn⟩ := hT b hg
  have h2 : w.cell? ⟨b, off, none⟩ = cur[off]? := by simp [World.cell?, hh]
  rw [h2] at h
  exact hn _ (by simpa using Array.mem_of_getElem? h) z rfl
theorem sl_grown {w w' : World} {A : Option Addr} {n c : Nat} {zs : List Int} {v : Value} (h : Cd.Sl w A n c zs) (hT : TRow N8 w v) (hg : w.grownBy w' v.ownBlock) : Cd.Sl w' A n c zs := by
  refine ⟨h.sz, h.bd, h.le, h.nl, fun h0 => ?_⟩
  obtain ⟨b, off, e, hl, hc⟩ := h.cell h0
  have hne : some b ≠ v.ownBlock := fun he => hT.ne he.symm (hc 0 h0) rfl
  exact ⟨b, off, e, Nat.lt_of_lt_of_le hl hg.size, fun j hj => (World.cell?_of_block (a := ⟨b, off + j, none⟩) (hg.block b hl hne)).trans (hc j hj)⟩
theorem row_kp {w w' : World} {base : Nat} {e : TypeId} {size : Nat} {v : Value} {n : Nat} {xs : List Value} {g : Nat} (h : w.ownsRow base e size v n xs) (hk : Kp g w w') (hb : g < base) : w'.ownsRow base e size v n xs := by
  refine ⟨h.1, h.2.imp id ?_⟩
  rintro ⟨g', cap, cur, hv, hbg, hg, r⟩
  exact ⟨g', cap, cur, hv, hbg, (hk.block g' (Array.getElem?_eq_some_iff.1 hg).1 (by omega)).trans hg, r⟩
theorem trow_kp {T : Value → Prop} {w w' : World} {v : Value} {g : Nat} (h : TRow T w v) (hk : Kp g w w') (hne : ∀ q, v.ownBlock = some q → q ≠ g) : TRow T w' v := by
  intro q hq
  obtain ⟨cur, e, f, hh, hn⟩ := h q hq
  exact ⟨cur, e, f, (hk.block q (Array.getElem?_eq_some_iff.1 hh).1 (hne q hq)).trans hh, hn⟩
theorem trow_grown {T : Value → Prop} {w w' : World} {v : Value} {row : Option Nat} (h : TRow T w v) (hg : w.grownBy w' row) (hne : ∀ q, v.ownBlock = some q → some q ≠ row) : TRow T w' v := by
  intro q hq
  obtain ⟨cur, e, f, hh, hn⟩ := h q hq
  exact ⟨cur, e, f, (hg.block q (Array.getElem?_eq_some_iff.1 hh).1 (hne q hq)).trans hh, hn⟩
/-- Two rows of other types lie apart. -/
theorem rows_apart {w : World} {B : Nat} {e e' : TypeId} (hne : e ≠ e') {s s' n n' : Nat} {v v' : Value} {xs xs' : List Value} (h : w.ownsRow B e s v n xs) (h' : w.ownsRow B e' s' v' n' xs') : ∀ q, v.ownBlock = some q → some q ≠ v'.ownBlock := by
  intro q hq he
  rcases h.2 with ⟨rfl, _⟩ | ⟨g, cap, cur, rfl, _, hg, _⟩
  · cases hq
  rcases h'.2 with ⟨rfl, _⟩ | ⟨g', cap', cur', rfl, _, hg', _⟩
  · cases he
  obtain rfl : g = q := by simpa [Value.ownBlock] using hq
  obtain rfl : g = g' := by simpa [Value.ownBlock] using he
  rw [hg] at hg'
  injection hg' with hg'
  injection hg' with _ h2 _
  exact hne h2
theorem row_shape {w : World} {B : Nat} {e : TypeId} {s n : Nat} {v : Value} {xs : List Value} (h : w.ownsRow B e s v n xs) : ∃ A c, v = .slice A n c := by
  rcases h.2 with ⟨rfl, rfl⟩ | ⟨g, cap, cur, rfl, _⟩
  · exact ⟨none, 0, rfl⟩
  · exact ⟨_, _, rfl⟩
/-- Between two steps of the decoder of levels: its cell lb, its result's cell, the rows of users and of kinds, the reader. -/
structure DS (w : World) (rb lb : Nat) (c1 c2 v1 : Value) (n1 : Nat) (xs1 : List Value) (v2 : Value) (n2 : Nat) (xs2 : List Value) (zs : List Int) (f : Bool) (y : World) : Prop where
  o1 : rb < w.heap.size
  o2 : w.heap.size < lb
  m1 : N8 c1
  m2 : N8 c2
  rd : Rd y rb zs f
  lbk : Blk y lb [c1, c2, .int .i64 0, .int .i64 0, .int .i64 0, .int .i64 0, .int .i64 0, .int .i64 0, .int .i64 0] 27
  ar : Blk y w.heap.size [.slice none 0 0, .slice none 0 0, .int .i64 0, .int .i64 0, .int .i64 0, .int .i64 0, .int .i64 0, .int .i64 0, .int .i64 0] 27
  r1 : y.ownsRow (lb + 1) 60 2 v1 n1 xs1
  t1 : TRow N8 y v1
  r2 : y.ownsRow (lb + 1) 88 2 v2 n2 xs2
  t2 : TRow N8 y v2
  bel : Below rb w y
  kp : Kp rb w y
section
variable {w : World} {rb lb : Nat} {c1 c2 v1 : Value} {n1 : Nat} {xs1 : List Value} {v2 : Value} {n2 : Nat} {xs2 : List Value} {zs : List Int} {f : Bool} {y : World}
theorem DS.lbn (h : DS w rb lb c1 c2 v1 n1 xs1 v2 n2 xs2 zs f y) : ∀ u ∈ ([c1, c2, .int .i64 0, .int .i64 0, .int .i64 0, .int .i64 0, .int .i64 0, .int .i64 0, .int .i64 0] : List Value), ∀ z, u ≠ .int .u8 z := by
  intro u hu z e
  subst e
  simp only [List.mem_cons, List.not_mem_nil, or_false] at hu
  rcases hu with hu | hu | hu | hu | hu | hu | hu | hu | hu
  · exact h.m1 z hu.symm
  · exact h.m2 z hu.symm
  all_goals cases hu
theorem DS.take (h : DS w rb lb c1 c2 v1 n1 xs1 v2 n2 xs2 zs f y) {y' : World} {zs' : List Int} {f' : Bool} (hr : Rd y' rb zs' f') (hb : Below rb y y') (hk : Kp rb y y') : DS w rb lb c1 c2 v1 n1 xs1 v2 n2 xs2 zs' f' y' :=
  have o1 := h.o1
  have o2 := h.o2
  ⟨h.o1, h.o2, h.m1, h.m2, hr, h.lbk.kp (by omega) hk, h.ar.kp (by omega) hk, row_kp h.r1 hk (by omega), trow_kp h.t1 hk (fun q hq => by have := (h.r1.lt q hq).1; omega), row_kp h.r2 hk (by omega), trow_kp h.t2 hk (fun q hq => by have := (h.r2.lt q hq).1; omega), h.bel.trans hb, h.kp.trans hk⟩
theorem DS.alloc (h : DS w rb lb c1 c2 v1 n1 xs1 v2 n2 xs2 zs f y) (o : Obj) : DS w rb lb c1 c2 v1 n1 xs1 v2 n2 xs2 zs f (y.alloc o) :=
  have hb := (Below.refl y.heap.size y).alloc (Nat.le_refl _) o
  h.take (h.rd.below hb) (hb.mono (Nat.le_of_lt h.rd.lt)) (Kp.below hb rb)
theorem DS.drew (h : DS w rb lb c1 c2 v1 n1 xs1 v2 n2 xs2 zs f y) : DS w rb lb c1 c2 v1 n1 xs1 v2 n2 xs2 zs f y.drew :=
  have hb := (Below.refl y.heap.size y).drew
  h.take (h.rd.below hb) (hb.mono (Nat.le_of_lt h.rd.lt)) (Kp.below hb rb)
theorem rd_grown {v : Value} (h : Rd y rb zs f) {y' : World} (hT : TRow N8 y v) (hg : y.grownBy y' v.ownBlock) (hne : some rb ≠ v.ownBlock) : Rd y' rb zs f := by
  obtain ⟨A, c, h1, h2⟩ := h
  exact ⟨A, c, ⟨(hg.block rb h1.lt hne).trans h1.heap⟩, sl_grown h2 hT hg⟩
theorem kp_grown {row : Option Nat} (h : Kp rb w y) {y' : World} (hg : y.grownBy y' row) (hr : ∀ q, row = some q → w.heap.size ≤ q) : Kp rb w y' :=
  ⟨Nat.le_trans h.size hg.size, fun k hk hn => (hg.block k (Nat.lt_of_lt_of_le hk h.size) (fun e => by have := hr k e.symm; omega)).trans (h.block k hk hn)⟩
theorem DS.app1 (h : DS w rb lb c1 c2 v1 n1 xs1 v2 n2 xs2 zs f y) {y' : World} {v1' : Value} {n1' : Nat} {xs1' : List Value} (hg : Grew y y' (lb + 1) 60 2 v1 v1' n1' xs1') (hT : TRow N8 y' v1') : DS w rb lb c1 c2 v1' n1' xs1' v2 n2 xs2 zs f y' :=
  have o1 := h.o1
  have o2 := h.o2
  have lo : ∀ q, v1.ownBlock = some q → lb + 1 ≤ q := fun q hq => (h.r1.lt q hq).1
  ⟨h.o1, h.o2, h.m1, h.m2, rd_grown h.rd h.t1 hg.grow (fun e => by have := lo rb e.symm; omega), ⟨(hg.grow.block lb h.lbk.lt (fun e => by have := lo lb e.symm; omega)).trans h.lbk.heap⟩, ⟨(hg.grow.block _ h.ar.lt (fun e => by have := lo _ e.symm; omega)).trans h.ar.heap⟩, hg.own, hT,
    h.r2.kept hg.grow (by
      cases hv : v2.ownBlock with
      | none => exact .inl rfl
      | some q => exact .inr (fun e => rows_apart (show (88 : TypeId) ≠ 60 by decide) h.r2 h.r1 q hv (by rw [← hv]; exact e.symm ▸ hv ▸ rfl))), trow_grown h.t2 hg.grow (rows_apart (show (88 : TypeId) ≠ 60 by decide) h.r2 h.r1),
    h.bel.grown hg.grow (Nat.le_of_lt h.rd.lt) (fun q hq => by have := lo q hq; omega), kp_grown h.kp hg.grow (fun q hq => by have := lo q hq; omega)⟩
theorem DS.app2 (h : DS w rb lb c1 c2 v1 n1 xs1 v2 n2 xs2 zs f y) {y' : World} {v2' : Value} {n2' : Nat} {xs2' : List Value} (hg : Grew y y' (lb + 1) 88 2 v2 v2' n2' xs2') (hT : TRow N8 y' v2') : DS w rb lb c1 c2 v1 n1 xs1 v2' n2' xs2' zs f y' :=
  have o1 := h.o1
  have o2 := h.o2
  have lo : ∀ q, v2.ownBlock = some q → lb + 1 ≤ q := fun q hq => (h.r2.lt q hq).1
  ⟨h.o1, h.o2, h.m1, h.m2, rd_grown h.rd h.t2 hg.grow (fun e => by have := lo rb e.symm; omega), ⟨(hg.grow.block lb h.lbk.lt (fun e => by have := lo lb e.symm; omega)).trans h.lbk.heap⟩, ⟨(hg.grow.block _ h.ar.lt (fun e => by have := lo _ e.symm; omega)).trans h.ar.heap⟩,
    h.r1.kept hg.grow (by
      cases hv : v1.ownBlock with
      | none => exact .inl rfl
      | some q => exact .inr (fun e => rows_apart (show (60 : TypeId) ≠ 88 by decide) h.r1 h.r2 q hv (by rw [← hv]; exact e.symm ▸ hv ▸ rfl))), trow_grown h.t1 hg.grow (rows_apart (show (60 : TypeId) ≠ 88 by decide) h.r1 h.r2), hg.own, hT,
    h.bel.grown hg.grow (Nat.le_of_lt h.rd.lt) (fun q hq => by have := lo q hq; omega), kp_grown h.kp hg.grow (fun q hq => by have := lo q hq; omega)⟩
theorem DS.store1 (h : DS w rb lb c1 c2 v1 n1 xs1 v2 n2 xs2 zs f y) (v : Value) (hv : N8 v) : DS w rb lb v c2 v1 n1 xs1 v2 n2 xs2 zs f (y.setCell ⟨lb, 0, none⟩ v) :=
  have o1 := h.o1
  have o2 := h.o2
  have hk : Kp lb y (y.setCell ⟨lb, 0, none⟩ v) := (Kp.refl lb y).set 0 v
  ⟨h.o1, h.o2, hv, h.m2, h.rd.set_blk h.lbk (by omega) h.lbn 0 v, h.lbk.set 0 v, h.ar.other ⟨lb, 0, none⟩ v (by show w.heap.size ≠ lb; omega), row_kp h.r1 hk (by omega), trow_kp h.t1 hk (fun q hq => by have := (h.r1.lt q hq).1; omega), row_kp h.r2 hk (by omega), trow_kp h.t2 hk (fun q hq => by have := (h.r2.lt q hq).1; omega),
    h.bel.setCell (p := ⟨lb, 0, none⟩) (by show rb ≤ lb; omega) _, h.kp.new_set (by omega) _ _⟩
theorem DS.store2 (h : DS w rb lb c1 c2 v1 n1 xs1 v2 n2 xs2 zs f y) (v : Value) (hv : N8 v) : DS w rb lb c1 v v1 n1 xs1 v2 n2 xs2 zs f (y.setCell ⟨lb, 1, none⟩ v) :=
  have o1 := h.o1
  have o2 := h.o2
  have hk : Kp lb y (y.setCell ⟨lb, 1, none⟩ v) := (Kp.refl lb y).set 1 v
  ⟨h.o1, h.o2, h.m1, hv, h.rd.set_blk h.lbk (by omega) h.lbn 1 v, h.lbk.set 1 v, h.ar.other ⟨lb, 1, none⟩ v (by show w.heap.size ≠ lb; omega), row_kp h.r1 hk (by omega), trow_kp h.t1 hk (fun q hq => by have := (h.r1.lt q hq).1; omega), row_kp h.r2 hk (by omega), trow_kp h.t2 hk (fun q hq => by have := (h.r2.lt q hq).1; omega),
    h.bel.setCell (p := ⟨lb, 1, none⟩) (by show rb ≤ lb; omega) _, h.kp.new_set (by omega) _ _⟩
end
end Go.Proofs.YtdacjnlfjaegiaaGreatDoor
