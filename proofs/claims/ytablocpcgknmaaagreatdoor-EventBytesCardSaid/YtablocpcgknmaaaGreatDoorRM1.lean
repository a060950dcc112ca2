/- Decoding of levels without lists (enough where there are none). Bounds: at most 800000 bytes. No condition. -/
import Derived.Test.YtablocpcgknmaaaGreatDoorRV8
import Derived.Test.YtablocpcgknmaaaGreatDoorRPb
namespace Go.Proofs.YtablocpcgknmaaaGreatDoor
open Go.Lib (hid)
open Go Go.RowKit
set_option linter.unusedVariables false
set_option linter.unusedSimpArgs false
set_option maxRecDepth 100000

theorem mvT {P : Program} {ops : Array Oper} {Q : Exit → Act → World → Prop} {md : Region.Mode} {S : World → Prop} (rs : List Nat) {fuel : Nat} {listed : Array Bool} {a : Act} {w : World} (h : AllReadyH P md ops Q S fuel listed a w rs) (hr : Region.ready md ops listed = rs := by kernel_rfl) (hne : rs ≠ [] := by simp) : wpAnyH P md ops Q S (fuel + 1) listed a w := wpAnyH_ready hr hne h
theorem mvD {P : Program} {ops : Array Oper} {Q : Exit → Act → World → Prop} {md : Region.Mode} {S : World → Prop} {fuel : Nat} {listed : Array Bool} {a : Act} {w : World} {i : Nat} {o : Oper} {rs : List Nat} (ho : ops.toList[i]? = some o)
  (h : ∀ K' : Act → World → Prop, Shut (∀ a w, S w → (S w → wpAnyH P md ops Q S fuel (listed.setIfInBounds i true) a w) → K' a w) → if Region.wanted o (yielded ops a.tmps) = true then Oper.wp P o a w K' Q else K' (a.put o.dst undef) w)
  (hs : AllReadyH P md ops Q S fuel listed a w rs) : AllReadyH P md ops Q S fuel listed a w (i :: rs) := AllReadyH.cons ((Array.getElem?_toList).symm.trans ho) h hs
theorem Blk.kp {w w' : World} {t : Nat} {cs : List Value} {T : TypeId} (h : Blk w t cs T) {g : Nat} (hne : t ≠ g) (hk : Kp g w w') : Blk w' t cs T := ⟨(hk.block t h.lt hne).trans h.heap⟩
theorem _root_.Go.Proofs.YtablocpcgknmaaaGreatDoor.Cd.Sl.set_blk {w : World} {A : Option Addr} {n c : Nat} {zs : List Int} (h : Cd.Sl w A n c zs) {g : Nat} {cs : List Value} {T : TypeId} (hb : Blk w g cs T) (hn : ∀ v ∈ cs, ∀ z, v ≠ .int .u8 z) (i : Nat) (v : Value) : Cd.Sl (w.setCell ⟨g, i, none⟩ v) A n c zs := by
 refine ⟨h.sz, h.bd, h.le, h.nl, fun h0 => ?_⟩
 obtain ⟨b, off, e, hl, hc⟩ := h.cell h0
 have hne : b ≠ g := by
  rintro rfl
  have h1 := hc 0 h0
  have h2 : w.cell? ⟨b, off + 0, none⟩ = cs[off + 0]? := by
   simp [World.cell?, hb.heap]
  rw [h2] at h1
  exact hn _ (List.mem_of_getElem? h1) _ rfl
 exact ⟨b, off, e, by simpa using hl, fun j hj => (World.cell?_of_block (a := ⟨b, off + j, none⟩) (heap_setCell_other w ⟨g, i, none⟩ b v hne)).trans (hc j hj)⟩
theorem Rd.set_blk {w : World} {rb : Nat} {zs : List Int} {f : Bool} (h : Rd w rb zs f) {g : Nat} {cs : List Value} {T : TypeId} (hb : Blk w g cs T) (hne : rb ≠ g) (hn : ∀ v ∈ cs, ∀ z, v ≠ .int .u8 z) (i : Nat) (v : Value) : Rd (w.setCell ⟨g, i, none⟩ v) rb zs f := by
 obtain ⟨A, c, h1, h2⟩ := h
 exact ⟨A, c, h1.other ⟨g, i, none⟩ v hne, h2.set_blk hb hn i v⟩
theorem Rd.below {w w1 : World} {rb : Nat} {zs : List Int} {f : Bool} (h : Rd w rb zs f) (hb : Below w.heap.size w w1) : Rd w1 rb zs f := by
 obtain ⟨A, c, h1, h2⟩ := h
 exact ⟨A, c, h1.below hb, h2.below hb⟩
theorem Rd.lt {w : World} {rb : Nat} {zs : List Int} {f : Bool} (h : Rd w rb zs f) : rb < w.heap.size := by
 obtain ⟨A, c, h1, h2⟩ := h
 exact h1.lt
theorem Rd.set_all {w : World} {rb : Nat} {zs : List Int} {f : Bool} (h : Rd w rb zs f) {g : Nat} {cs : List Value} {T : TypeId} (hb : Blk w g cs T) (hne : rb ≠ g) (hn : ∀ v ∈ cs, ∀ z, v ≠ .int .u8 z) (o : Nat) (vs : List Value) : Rd (w.setCells g o vs) rb zs f := by
 obtain ⟨A, c, h1, h2⟩ := h
 refine ⟨A, c, h1.otherAll g o vs hne, ⟨h2.sz, h2.bd, h2.le, h2.nl, fun h0 => ?_⟩⟩
 obtain ⟨b, off, e, hl, hc⟩ := h2.cell h0
 have hne : b ≠ g := by
  rintro rfl
  have h1 := hc 0 h0
  have h2 : w.cell? ⟨b, off + 0, none⟩ = cs[off + 0]? := by
   simp [World.cell?, hb.heap]
  rw [h2] at h1
  exact hn _ (List.mem_of_getElem? h1) _ rfl
 exact ⟨b, off, e, by rw [size_setAll]; exact hl, fun j hj => (World.cell?_of_block (a := ⟨b, off + j, none⟩) (World.heap_setCells_other w g o vs hl hne)).trans (hc j hj)⟩
theorem Kp.new_set {g t : Nat} {w w1 : World} (h : Kp g w w1) (ht : w.heap.size ≤ t) (i : Nat) (v : Value) : Kp g w (w1.setCell ⟨t, i, none⟩ v) := ⟨by have := h.size; simpa using this, fun k hk hn => (heap_setCell_other w1 ⟨t, i, none⟩ k v (by show k ≠ t; omega)).trans (h.block k hk hn)⟩
theorem Kp.new_all {g t : Nat} {w w1 : World} (h : Kp g w w1) (ht : w.heap.size ≤ t) (o : Nat) (vs : List Value) : Kp g w (w1.setCells t o vs) := ⟨by rw [size_setAll]; exact h.size, fun k hk hn => (World.heap_setCells_other w1 t o vs (Nat.lt_of_lt_of_le hk h.size) (by omega)).trans (h.block k hk hn)⟩
/-- So many ints, taken one behind the other. -/
def takes (zs : List Int) (f : Bool) : Nat → List Int × List Int × Bool
 | 0 => ([], zs, f)
 | n + 1 => ((takes zs f n).1 ++ [(gtkI (takes zs f n).2.1 (takes zs f n).2.2).1], (gtkI (takes zs f n).2.1 (takes zs f n).2.2).2)
theorem takes_len (zs : List Int) (f : Bool) : ∀ n, (takes zs f n).1.length = n
 | 0 => rfl
 | n + 1 => by show ((takes zs f n).1 ++ [_]).length = n + 1; rw [List.length_append, takes_len zs f n]; rfl
theorem gtkI_len (zs : List Int) (f : Bool) : (gtkI zs f).2.1.length ≤ zs.length := by
 unfold gtkI
 cases f with
 | true => exact Nat.le_refl _
 | false =>
  cases h : Cd.di zs with
  | none => exact Nat.zero_le _
  | some p => exact Cd.di_len h
theorem takes_rest (zs : List Int) (f : Bool) : ∀ n, (takes zs f n).2.1.length ≤ zs.length
 | 0 => Nat.le_refl _
 | n + 1 => Nat.le_trans (gtkI_len _ _) (takes_rest zs f n)
theorem cntk_len (zs : List Int) (f : Bool) : (cntk zs f).2.1.length ≤ zs.length := by
 unfold cntk
 split
 ·exact gtkI_len zs f
 ·exact gtkI_len zs f
def lvk (vs : List Int) : List Value := (([.slice none 0 0, .slice none 0 0] : List Value) ++ vs.map (Value.int .i64)) ++ List.replicate (7 - vs.length) (.int .i64 0)
theorem lvk_no8 (vs : List Int) : ∀ v ∈ lvk vs, ∀ z, v ≠ .int .u8 z := by
 intro v hv z e
 subst e
 unfold lvk at hv
 simp at hv
theorem pts_at (lb : Nat) (k : Nat) (h : k < 7) : ([.pointer (some ⟨lb, 2, none⟩), .pointer (some ⟨lb, 3, none⟩), .pointer (some ⟨lb, 4, none⟩), .pointer (some ⟨lb, 5, none⟩), .pointer (some ⟨lb, 6, none⟩), .pointer (some ⟨lb, 7, none⟩), .pointer (some ⟨lb, 8, none⟩)] : List Value)[k]? = some (.pointer (some ⟨lb, 2 + k, none⟩)) := by
 match k, h with
 | 0, _ => rfl
 | 1, _ => rfl
 | 2, _ => rfl
 | 3, _ => rfl
 | 4, _ => rfl
 | 5, _ => rfl
 | 6, _ => rfl
def lvs (vs : List Int) : List Value := lvk vs
/-- What decodeLevels gives where both counts are zero. -/
def DlP (vs : List Int) (zs : List Int) (f : Bool) (rb : Nat) (w : World) (e : Ending) (w' : World) : Prop := e = .returned (.agg (lvk vs).toArray) ∧ Rd w' rb zs f ∧ Below rb w w' ∧ Kp rb w w'
end Go.Proofs.YtablocpcgknmaaaGreatDoor
namespace Go.Proofs.YtablocpcgknmaaaGreatDoor
open Go Go.RowKit
set_option linter.unusedVariables false
set_option linter.unusedSimpArgs false

def N8 (v : Value) : Prop := ∀ z, v ≠ .int .u8 z
/-- The block of a row holds nothing but what T allows, spare cells too. -/
def TRow (T : Value → Prop) (w : World) (v : Value) : Prop := ∀ g, v.ownBlock = some g → ∃ cur e f, w.heap[g]? = some (.cells cur e f) ∧ ∀ u ∈ cur.toList, T u
theorem trow_none (T : Value → Prop) (w : World) : TRow T w (.slice none 0 0) := fun g hg => by cases hg
theorem mem_zero {T : Value → Prop} {z : Array Value} (h : ∀ u ∈ z.toList, T u) (n : Nat) : ∀ u ∈ (Builtin.zeroCells z n).toList, T u := by
 intro u hu
 unfold Builtin.zeroCells at hu
 simp only [Array.toList_map, List.mem_map] at hu
 obtain ⟨i, hi, rfl⟩ := hu
 have hi2 : i < n * z.size := by simpa using hi
 have hp : 0 < z.size := by
  rcases Nat.eq_zero_or_pos z.size with h0 | h0
  ·rw [h0] at hi2; omega
  ·exact h0
 have hlt := Nat.mod_lt i hp
 rw [getElem!_pos z _ hlt]
 exact h _ (Array.getElem_mem_toList hlt)
theorem run_append_typed {P : Program} (w : World) (T : Value → Prop) (t ty : TypeId) (base : Nat) (e : TypeId) (i : TypeInfo) (z : Value) (size bytes : Nat) (ht : P.underlying t = some (.slice e)) (hi : P.info? e = some i) (hz : i.zero = some z)
  (hsize : i.size = size) (hby : i.bytes = bytes) (hzs : z.cells.size = size) (hsz : 0 < size) (hzT : ∀ u ∈ z.cells.toList, T u)
  (v : Value) (n : Nat) (xs : List Value) (hown : w.ownsRow base e size v n xs) (hT : TRow T w v)
  (a : Addr) (m c : Nat) (news : List Value) (hl : news.length = m * size) (hnews : ∀ j u, news[j]? = some u → w.cell? (a.add j) = some u) (h1 : ∀ u ∈ news, u.oneCell' = true) (hnT : ∀ u ∈ news, T u) (hm : 0 < m)
  (h63 : n + m ≤ maxLen) (hbytes : (n + m) * bytes ≤ 140737488355328) (hbase : base ≤ w.heap.size) :
  ∃ v' w', (Builtin.append_ #[t, t] ty #[v, .slice (some a) m c]).run P w = .ok v' w' ∧ Grew w w' base e size v v' (n + m) (xs ++ news) ∧ TRow T w' v' := by
 obtain ⟨v', w', hr, h2, h3, _, h5⟩ := run_append_own_at (P := P) w base t ty e i z size bytes ht hi hz hsize hby hzs hsz v n xs hown a m c news hl hnews h1 h63 hbytes hbase
 refine ⟨v', w', hr, ⟨h2, h3, h5⟩, ?_⟩
 have hsmall : n + m ≤ 9223372036854775807 := by simp only [maxLen] at h63; omega
 subst hsize
 subst hby
 rcases hown.2 with ⟨rfl, rfl⟩ | ⟨g, cap, cur, rfl, hbg, hg, hnc, hcm, hcs, htake⟩
 ·have hr2 := run_append_nil (P := P) w t ty e i z ht hi hz a m c news hl hnews hm (by omega) (by have hb := hbytes; simp only [Nat.zero_add] at hb; omega)
  rw [hr] at hr2
  injection hr2 with e1 e2
  subst e1 e2
  intro q hq
  obtain rfl : w.heap.size = q := by simpa [Value.ownBlock] using hq
  refine ⟨_, _, _, heap_alloc_new w.drew _, fun u hu => ?_⟩
  simp only [Array.toList_append, List.mem_append] at hu
  rcases hu with hu | hu
  ·exact hnT u hu
  ·exact mem_zero hzT _ u hu
 ·have hcur : ∀ u ∈ cur.toList, T u := by
   obtain ⟨cur2, e2, f2, hh, hn⟩ := hT g rfl
   rw [hg] at hh
   injection hh with hh
   injection hh with hh _ _
   subst hh
   exact hn
  by_cases hroom : n + m ≤ cap
  ·have hfit : n * i.size + news.length ≤ cur.size := by rw [hl, hcs, ← Nat.add_mul]; exact Nat.mul_le_mul_right _ hroom
   have hr2 := run_append_room (P := P) w t ty e i ht hi g n cap cur hg a m c news hl hnews h1 hroom hfit
   rw [hr] at hr2
   injection hr2 with e1 e2
   subst e1 e2
   intro q hq
   obtain rfl : g = q := by simpa [Value.ownBlock] using hq
   refine ⟨_, _, _, setRow_heap w g cur _ e _ hg, fun u hu => ?_⟩
   simp only [List.mem_append] at hu
   rcases hu with (hu | hu) | hu
   ·exact hcur u (List.mem_of_mem_take hu)
   ·exact hnT u hu
   ·exact hcur u (List.mem_of_mem_drop hu)
  ·have holds : ∀ j u, xs[j]? = some u → w.cell? ((⟨g, 0, none⟩ : Addr).add j) = some u := hown.cells (g := g) rfl
   have hr2 := run_append_grow (P := P) w t ty e i z ht hi hz ⟨g, 0, none⟩ n cap xs hown.1 holds a m c news hl hnews (by omega) (by omega) (growslice_fits (by omega) hbytes)
   rw [hr] at hr2
   injection hr2 with e1 e2
   subst e1 e2
   intro q hq
   obtain rfl : w.heap.size = q := by simpa [Value.ownBlock] using hq
   refine ⟨_, _, _, heap_alloc_new w.drew _, fun u hu => ?_⟩
   simp only [Array.toList_append, List.mem_append] at hu
   rcases hu with (hu | hu) | hu
   ·rw [← htake] at hu
    exact hcur u (List.mem_of_mem_take hu)
   ·exact hnT u hu
   ·exact mem_zero hzT _ u hu
theorem TRow.ne {w : World} {v : Value} {g : Nat} (hT : TRow N8 w v) (hg : v.ownBlock = some g) {b off : Nat} {z : Int} (h : w.cell? ⟨b, off, none⟩ = some (.int .u8 z)) : b ≠ g := by
 rintro rfl
 obtain ⟨cur, e, f, hh, hn⟩ := hT b hg
 have h2 : w.cell? ⟨b, off, none⟩ = cur[off]? := by simp [World.cell?, hh]
 rw [h2] at h
 exact hn _ (by simpa using Array.mem_of_getElem? h) z rfl
theorem sl_grown {w w' : World} {A : Option Addr} {n c : Nat} {zs : List Int} {v : Value} (h : Cd.Sl w A n c zs) (hT : TRow N8 w v) (hg : w.grownBy w' v.ownBlock) : Cd.Sl w' A n c zs := by
 refine ⟨h.sz, h.bd, h.le, h.nl, fun h0 => ?_⟩
 obtain ⟨b, off, e, hl, hc⟩ := h.cell h0
 have hne : some b ≠ v.ownBlock := fun he => hT.ne he.symm (hc 0 h0) rfl
 exact ⟨b, off, e, Nat.lt_of_lt_of_le hl hg.size, fun j hj => (World.cell?_of_block (a := ⟨b, off + j, none⟩) (hg.block b hl hne)).trans (hc j hj)⟩
theorem row_kp {w w' : World} {base : Nat} {e : TypeId} {size : Nat} {v : Value} {n : Nat} {xs : List Value} {g : Nat} (h : w.ownsRow base e size v n xs) (hk : Kp g w w') (hb : g < base) : w'.ownsRow base e size v n xs := by
 refine ⟨h.1, h.2.imp id ?_⟩
 rintro ⟨g', cap, cur, hv, hbg, hg, r⟩
 exact ⟨g', cap, cur, hv, hbg, (hk.block g' (Array.getElem?_eq_some_iff.1 hg).1 (by omega)).trans hg, r⟩
theorem trow_kp {T : Value → Prop} {w w' : World} {v : Value} {g : Nat} (h : TRow T w v) (hk : Kp g w w') (hne : ∀ q, v.ownBlock = some q → q ≠ g) : TRow T w' v := by
 intro q hq
 obtain ⟨cur, e, f, hh, hn⟩ := h q hq
 exact ⟨cur, e, f, (hk.block q (Array.getElem?_eq_some_iff.1 hh).1 (hne q hq)).trans hh, hn⟩
theorem trow_grown {T : Value → Prop} {w w' : World} {v : Value} {row : Option Nat} (h : TRow T w v) (hg : w.grownBy w' row) (hne : ∀ q, v.ownBlock = some q → some q ≠ row) : TRow T w' v := by
 intro q hq
 obtain ⟨cur, e, f, hh, hn⟩ := h q hq
 exact ⟨cur, e, f, (hg.block q (Array.getElem?_eq_some_iff.1 hh).1 (hne q hq)).trans hh, hn⟩
/-- Two rows of other types lie apart. -/
theorem rows_apart {w : World} {B : Nat} {e e' : TypeId} (hne : e ≠ e') {s s' n n' : Nat} {v v' : Value} {xs xs' : List Value} (h : w.ownsRow B e s v n xs) (h' : w.ownsRow B e' s' v' n' xs') : ∀ q, v.ownBlock = some q → some q ≠ v'.ownBlock := by
 intro q hq he
 rcases h.2 with ⟨rfl, _⟩ | ⟨g, cap, cur, rfl, _, hg, _⟩
 ·cases hq
 rcases h'.2 with ⟨rfl, _⟩ | ⟨g', cap', cur', rfl, _, hg', _⟩
 ·cases he
 obtain rfl : g = q := by simpa [Value.ownBlock] using hq
 obtain rfl : g = g' := by simpa [Value.ownBlock] using he
 rw [hg] at hg'
 injection hg' with hg'
 injection hg' with _ h2 _
 exact hne h2
theorem row_shape {w : World} {B : Nat} {e : TypeId} {s n : Nat} {v : Value} {xs : List Value} (h : w.ownsRow B e s v n xs) : ∃ A c, v = .slice A n c := by
 rcases h.2 with ⟨rfl, rfl⟩ | ⟨g, cap, cur, rfl, _⟩
 ·exact ⟨none, 0, rfl⟩
 ·exact ⟨_, _, rfl⟩
/-- Between two steps of the decoder of levels: its cell lb, its result's cell, the rows of users and of kinds, the reader. -/
structure DS (w : World) (rb lb : Nat) (c1 c2 v1 : Value) (n1 : Nat) (xs1 : List Value) (v2 : Value) (n2 : Nat) (xs2 : List Value) (zs : List Int) (f : Bool) (y : World) : Prop where
 o1 : rb < w.heap.size
 o2 : w.heap.size < lb
 m1 : N8 c1
 m2 : N8 c2
 rd : Rd y rb zs f
 lbk : Blk y lb [c1, c2, .int .i64 0, .int .i64 0, .int .i64 0, .int .i64 0, .int .i64 0, .int .i64 0, .int .i64 0] 28
 ar : Blk y w.heap.size [.slice none 0 0, .slice none 0 0, .int .i64 0, .int .i64 0, .int .i64 0, .int .i64 0, .int .i64 0, .int .i64 0, .int .i64 0] 28
 r1 : y.ownsRow (lb + 1) 73 2 v1 n1 xs1
 t1 : TRow N8 y v1
 r2 : y.ownsRow (lb + 1) 131 2 v2 n2 xs2
 t2 : TRow N8 y v2
 bel : Below rb w y
 kp : Kp rb w y
section
variable {w : World} {rb lb : Nat} {c1 c2 v1 : Value} {n1 : Nat} {xs1 : List Value} {v2 : Value} {n2 : Nat} {xs2 : List Value} {zs : List Int} {f : Bool} {y : World}
theorem DS.lbn (h : DS w rb lb c1 c2 v1 n1 xs1 v2 n2 xs2 zs f y) : ∀ u ∈ ([c1, c2, .int .i64 0, .int .i64 0, .int .i64 0, .int .i64 0, .int .i64 0, .int .i64 0, .int .i64 0] : List Value), ∀ z, u ≠ .int .u8 z := by
 intro u hu z e
 subst e
 simp only [List.mem_cons, List.not_mem_nil, or_false] at hu
 rcases hu with hu | hu | hu | hu | hu | hu | hu | hu | hu
 ·exact h.m1 z hu.symm
 ·exact h.m2 z hu.symm
 all_goals cases hu
theorem DS.take (h : DS w rb lb c1 c2 v1 n1 xs1 v2 n2 xs2 zs f y) {y' : World} {zs' : List Int} {f' : Bool} (hr : Rd y' rb zs' f') (hb : Below rb y y') (hk : Kp rb y y') : DS w rb lb c1 c2 v1 n1 xs1 v2 n2 xs2 zs' f' y' :=
 have o1 := h.o1
 have o2 := h.o2
 ⟨h.o1, h.o2, h.m1, h.m2, hr, h.lbk.kp (by omega) hk, h.ar.kp (by omega) hk, row_kp h.r1 hk (by omega), trow_kp h.t1 hk (fun q hq => by have := (h.r1.lt q hq).1; omega), row_kp h.r2 hk (by omega), trow_kp h.t2 hk (fun q hq => by have := (h.r2.lt q hq).1; omega), h.bel.trans hb, h.kp.trans hk⟩
theorem DS.alloc (h : DS w rb lb c1 c2 v1 n1 xs1 v2 n2 xs2 zs f y) (o : Obj) : DS w rb lb c1 c2 v1 n1 xs1 v2 n2 xs2 zs f (y.alloc o) :=
 have hb := (Below.refl y.heap.size y).alloc (Nat.le_refl _) o
 h.take (h.rd.below hb) (hb.mono (Nat.le_of_lt h.rd.lt)) (Kp.below hb rb)
theorem DS.drew (h : DS w rb lb c1 c2 v1 n1 xs1 v2 n2 xs2 zs f y) : DS w rb lb c1 c2 v1 n1 xs1 v2 n2 xs2 zs f y.drew :=
 have hb := (Below.refl y.heap.size y).drew
 h.take (h.rd.below hb) (hb.mono (Nat.le_of_lt h.rd.lt)) (Kp.below hb rb)
theorem rd_grown {v : Value} (h : Rd y rb zs f) {y' : World} (hT : TRow N8 y v) (hg : y.grownBy y' v.ownBlock) (hne : some rb ≠ v.ownBlock) : Rd y' rb zs f := by
 obtain ⟨A, c, h1, h2⟩ := h
 exact ⟨A, c, ⟨(hg.block rb h1.lt hne).trans h1.heap⟩, sl_grown h2 hT hg⟩
theorem kp_grown {row : Option Nat} (h : Kp rb w y) {y' : World} (hg : y.grownBy y' row) (hr : ∀ q, row = some q → w.heap.size ≤ q) : Kp rb w y' :=
 ⟨Nat.le_trans h.size hg.size, fun k hk hn => (hg.block k (Nat.lt_of_lt_of_le hk h.size) (fun e => by have := hr k e.symm; omega)).trans (h.block k hk hn)⟩
theorem DS.app1 (h : DS w rb lb c1 c2 v1 n1 xs1 v2 n2 xs2 zs f y) {y' : World} {v1' : Value} {n1' : Nat} {xs1' : List Value} (hg : Grew y y' (lb + 1) 73 2 v1 v1' n1' xs1') (hT : TRow N8 y' v1') : DS w rb lb c1 c2 v1' n1' xs1' v2 n2 xs2 zs f y' :=
 have o1 := h.o1
 have o2 := h.o2
 have lo : ∀ q, v1.ownBlock = some q → lb + 1 ≤ q := fun q hq => (h.r1.lt q hq).1
 ⟨h.o1, h.o2, h.m1, h.m2, rd_grown h.rd h.t1 hg.grow (fun e => by have := lo rb e.symm; omega), ⟨(hg.grow.block lb h.lbk.lt (fun e => by have := lo lb e.symm; omega)).trans h.lbk.heap⟩, ⟨(hg.grow.block _ h.ar.lt (fun e => by have := lo _ e.symm; omega)).trans h.ar.heap⟩, hg.own, hT,
  h.r2.kept hg.grow (by
   cases hv : v2.ownBlock with
   | none => exact .inl rfl
   | some q => exact .inr (fun e => rows_apart (show (131 : TypeId) ≠ 73 by decide) h.r2 h.r1 q hv (by rw [← hv]; exact e.symm ▸ hv ▸ rfl))), trow_grown h.t2 hg.grow (rows_apart (show (131 : TypeId) ≠ 73 by decide) h.r2 h.r1),
  h.bel.grown hg.grow (Nat.le_of_lt h.rd.lt) (fun q hq => by have := lo q hq; omega), kp_grown h.kp hg.grow (fun q hq => by have := lo q hq; omega)⟩
theorem DS.app2 (h : DS w rb lb c1 c2 v1 n1 xs1 v2 n2 xs2 zs f y) {y' : World} {v2' : Value} {n2' : Nat} {xs2' : List Value} (hg : Grew y y' (lb + 1) 131 2 v2 v2' n2' xs2') (hT : TRow N8 y' v2') : DS w rb lb c1 c2 v1 n1 xs1 v2' n2' xs2' zs f y' :=
 have o1 := h.o1
 have o2 := h.o2
 have lo : ∀ q, v2.ownBlock = some q → lb + 1 ≤ q := fun q hq => (h.r2.lt q hq).1
 ⟨h.o1, h.o2, h.m1, h.m2, rd_grown h.rd h.t2 hg.grow (fun e => by have := lo rb e.symm; omega), ⟨(hg.grow.block lb h.lbk.lt (fun e => by have := lo lb e.symm; omega)).trans h.lbk.heap⟩, ⟨(hg.grow.block _ h.ar.lt (fun e => by have := lo _ e.symm; omega)).trans h.ar.heap⟩,
  h.r1.kept hg.grow (by
   cases hv : v1.ownBlock with
   | none => exact .inl rfl
   | some q => exact .inr (fun e => rows_apart (show (73 : TypeId) ≠ 131 by decide) h.r1 h.r2 q hv (by rw [← hv]; exact e.symm ▸ hv ▸ rfl))), trow_grown h.t1 hg.grow (rows_apart (show (73 : TypeId) ≠ 131 by decide) h.r1 h.r2), hg.own, hT,
  h.bel.grown hg.grow (Nat.le_of_lt h.rd.lt) (fun q hq => by have := lo q hq; omega), kp_grown h.kp hg.grow (fun q hq => by have := lo q hq; omega)⟩
theorem DS.store1 (h : DS w rb lb c1 c2 v1 n1 xs1 v2 n2 xs2 zs f y) (v : Value) (hv : N8 v) : DS w rb lb v c2 v1 n1 xs1 v2 n2 xs2 zs f (y.setCell ⟨lb, 0, none⟩ v) :=
 have o1 := h.o1
 have o2 := h.o2
 have hk : Kp lb y (y.setCell ⟨lb, 0, none⟩ v) := (Kp.refl lb y).set 0 v
 ⟨h.o1, h.o2, hv, h.m2, h.rd.set_blk h.lbk (by omega) h.lbn 0 v, h.lbk.set 0 v, h.ar.other ⟨lb, 0, none⟩ v (by show w.heap.size ≠ lb; omega), row_kp h.r1 hk (by omega), trow_kp h.t1 hk (fun q hq => by have := (h.r1.lt q hq).1; omega), row_kp h.r2 hk (by omega), trow_kp h.t2 hk (fun q hq => by have := (h.r2.lt q hq).1; omega),
  h.bel.setCell (p := ⟨lb, 0, none⟩) (by show rb ≤ lb; omega) _, h.kp.new_set (by omega) _ _⟩
theorem DS.store2 (h : DS w rb lb c1 c2 v1 n1 xs1 v2 n2 xs2 zs f y) (v : Value) (hv : N8 v) : DS w rb lb c1 v v1 n1 xs1 v2 n2 xs2 zs f (y.setCell ⟨lb, 1, none⟩ v) :=
 have o1 := h.o1
 have o2 := h.o2
 have hk : Kp lb y (y.setCell ⟨lb, 1, none⟩ v) := (Kp.refl lb y).set 1 v
 ⟨h.o1, h.o2, h.m1, hv, h.rd.set_blk h.lbk (by omega) h.lbn 1 v, h.lbk.set 1 v, h.ar.other ⟨lb, 1, none⟩ v (by show w.heap.size ≠ lb; omega), row_kp h.r1 hk (by omega), trow_kp h.t1 hk (fun q hq => by have := (h.r1.lt q hq).1; omega), row_kp h.r2 hk (by omega), trow_kp h.t2 hk (fun q hq => by have := (h.r2.lt q hq).1; omega),
  h.bel.setCell (p := ⟨lb, 1, none⟩) (by show rb ≤ lb; omega) _, h.kp.new_set (by omega) _ _⟩
end
end Go.Proofs.YtablocpcgknmaaaGreatDoor
namespace Go.Proofs.YtablocpcgknmaaaGreatDoor
open Go Go.RowKit
set_option linter.unusedVariables false
set_option linter.unusedSimpArgs false

def gtkT (zs : List Int) (f : Bool) : ByteArray × List Int × Bool :=
 if f = true then (⟨#[]⟩, zs, true) else match Cd.dt zs with
  | some (v, r) => (v, r, false)
  | none => (⟨#[]⟩, [], true)
theorem gtk_str (zs : List Int) (f : Bool) : gtk Cd.gt (.string ⟨#[]⟩) zs f = (.string (gtkT zs f).1, (gtkT zs f).2.1, (gtkT zs f).2.2) := by
 unfold gtk gtkT
 cases f with
 | true => rfl
 | false =>
  rw [Cd.gt_dt]
  cases Cd.dt zs with
  | none => rfl
  | some p => rfl
theorem gtkT_len (zs : List Int) (f : Bool) : (gtkT zs f).2.1.length ≤ zs.length := by
 unfold gtkT
 cases f with
 | true => exact Nat.le_refl _
 | false =>
  cases h : Cd.dt zs with
  | none => exact Nat.zero_le _
  | some p => exact Cd.dt_len h
def dU (zs : List Int) : Option ((ByteArray × Int) × List Int) := (Cd.dt zs).bind fun p => (Cd.di p.2).map fun q => ((p.1, q.1), q.2)
def dK (zs : List Int) : Option ((Int × Int) × List Int) := (Cd.di zs).bind fun p => (Cd.di p.2).map fun q => ((p.1, q.1), q.2)
theorem gtkI_true (zs : List Int) : gtkI zs true = (0, zs, true) := rfl
theorem dU_tk {zs z1 z2 : List Int} {s : ByteArray} {p : Int} {f1 f2 : Bool} (h1 : gtkT zs false = (s, z1, f1)) (h2 : gtkI z1 f1 = (p, z2, f2)) : (f2 = false → dU zs = some ((s, p), z2)) ∧ (f2 = true → dU zs = none) := by
 unfold gtkT at h1
 unfold dU
 rw [if_neg (by decide)] at h1
 cases hd : Cd.dt zs with
 | none =>
  rw [hd] at h1
  dsimp only at h1
  injection h1 with _ h1
  injection h1 with e1 e2
  subst e1 e2
  rw [gtkI_true] at h2
  injection h2 with _ h2
  injection h2 with _ e2
  subst e2
  exact ⟨fun h => (by cases h), fun _ => rfl⟩
 | some q =>
  obtain ⟨v, r⟩ := q
  rw [hd] at h1
  dsimp only at h1
  injection h1 with e0 h1
  injection h1 with e1 e2
  subst e0 e1 e2
  unfold gtkI at h2
  rw [if_neg (by decide)] at h2
  simp only [Option.bind_some]
  cases hi : Cd.di r with
  | none =>
   rw [hi] at h2
   dsimp only at h2
   injection h2 with _ h2
   injection h2 with _ e2
   subst e2
   exact ⟨fun h => (by cases h), fun _ => rfl⟩
  | some u =>
   obtain ⟨p', r'⟩ := u
   rw [hi] at h2
   dsimp only at h2
   injection h2 with e0 h2
   injection h2 with e1 e2
   subst e0 e1 e2
   exact ⟨fun _ => rfl, fun h => (by cases h)⟩
theorem dK_tk {zs z1 z2 : List Int} {s p : Int} {f1 f2 : Bool} (h1 : gtkI zs false = (s, z1, f1)) (h2 : gtkI z1 f1 = (p, z2, f2)) : (f2 = false → dK zs = some ((s, p), z2)) ∧ (f2 = true → dK zs = none) := by
 unfold gtkI at h1
 unfold dK
 rw [if_neg (by decide)] at h1
 cases hd : Cd.di zs with
 | none =>
  rw [hd] at h1
  dsimp only at h1
  injection h1 with _ h1
  injection h1 with e1 e2
  subst e1 e2
  rw [gtkI_true] at h2
  injection h2 with _ h2
  injection h2 with _ e2
  subst e2
  exact ⟨fun h => (by cases h), fun _ => rfl⟩
 | some q =>
  obtain ⟨v, r⟩ := q
  rw [hd] at h1
  dsimp only at h1
  injection h1 with e0 h1
  injection h1 with e1 e2
  subst e0 e1 e2
  unfold gtkI at h2
  rw [if_neg (by decide)] at h2
  simp only [Option.bind_some]
  cases hi : Cd.di r with
  | none =>
   rw [hi] at h2
   dsimp only at h2
   injection h2 with _ h2
   injection h2 with _ e2
   subst e2
   exact ⟨fun h => (by cases h), fun _ => rfl⟩
  | some u =>
   obtain ⟨p', r'⟩ := u
   rw [hi] at h2
   dsimp only at h2
   injection h2 with e0 h2
   injection h2 with e1 e2
   subst e0 e1 e2
   exact ⟨fun _ => rfl, fun h => (by cases h)⟩
/-- A count and what follows it: at most as many as bytes are left. -/
theorem cntk_cnt (zs : List Int) : (∀ n r, Cd.cnt zs = some (n, r) → cntk zs false = ((n : Int), r, false)) ∧ (Cd.cnt zs = none → (cntk zs false).1 = 0 ∧ (cntk zs false).2.2 = true) := by
 unfold Cd.cnt cntk gtkI Cd.di
 rw [if_neg (show ¬ (false = true) by decide)]
 cases hd : Cd.C.dec zs with
 | none => exact ⟨fun n r h => (by cases h), fun _ => by simp⟩
 | some p =>
  obtain ⟨u, k⟩ := p
  simp only [Option.map_some]
  by_cases hc : 0 ≤ Cd.C.zag u ∧ Cd.C.zag u ≤ ((zs.drop k).length : Int)
  ·rw [if_neg (show ¬ (Cd.C.zag u < 0 ∨ ((zs.drop k).length : Int) < Cd.C.zag u) by omega)]
   rw [if_pos hc]
   refine ⟨fun n r h => ?_, fun h => (by cases h)⟩
   have h := Option.some.inj h
   injection h with e1 e2
   subst e1 e2
   rw [Int.toNat_of_nonneg hc.1]
  ·rw [if_pos (show Cd.C.zag u < 0 ∨ ((zs.drop k).length : Int) < Cd.C.zag u by omega)]
   rw [if_neg hc]
   exact ⟨fun n r h => (by cases h), fun _ => ⟨rfl, rfl⟩⟩
theorem cell_two_new (w : World) (u1 u2 : Value) (t : TypeId) : ∀ j u, [u1, u2][j]? = some u → (w.alloc (.cells #[u1, u2] t)).cell? ((⟨w.heap.size, 0, none⟩ : Addr).add j) = some u := by
 intro j u hj
 match j, hj with
 | 0, hj => simp at hj; subst hj; simp [Addr.add]
 | 1, hj => simp at hj; subst hj; simp [Addr.add]
theorem flat_snoc {α : Type} (f : α → List Value) (d : α) (us : List α) (p : α) : flat (us ++ [p]).length (fun j => f ((us ++ [p]).getD j d)) = flat us.length (fun j => f (us.getD j d)) ++ f p := by
 rw [List.length_append, List.length_singleton, flat_succ]
 congr 1
 ·refine flat_congr (fun j hj => ?_)
  rw [List.getD_eq_getElem?_getD, List.getD_eq_getElem?_getD, List.getElem?_append_left hj]
 ·rw [List.getD_eq_getElem?_getD, List.getElem?_append_right (Nat.le_refl _), Nat.sub_self]
  rfl
theorem flatU_snoc (us : List (ByteArray × Int)) (p : ByteArray × Int) : flat (us ++ [p]).length (rowU (fU (us ++ [p]))) = flat us.length (rowU (fU us)) ++ [.string p.1, .int .i64 p.2] := flat_snoc (fun p : ByteArray × Int => [Value.string p.1, .int .i64 p.2]) (⟨#[]⟩, 0) us p
theorem flatK_snoc (ks : List (Int × Int)) (p : Int × Int) : flat (ks ++ [p]).length (rowK (fK (ks ++ [p]))) = flat ks.length (rowK (fK ks)) ++ [.int .i64 p.1, .int .i64 p.2] := flat_snoc (fun p : Int × Int => [Value.int .i64 p.1, .int .i64 p.2]) (0, 0) ks p
theorem info60 : (Tryz.prog.info? 73).map (fun i => (i.zero, i.size, i.bytes)) = some (some (.agg #[.string ⟨#[]⟩, .int .i64 0]), 2, 24) := by kernel_rfl
theorem info88 : (Tryz.prog.info? 131).map (fun i => (i.zero, i.size, i.bytes)) = some (some (.agg #[.int .i64 0, .int .i64 0]), 2, 16) := by kernel_rfl
theorem z60 : ∀ u ∈ (Value.agg #[.string ⟨#[]⟩, .int .i64 0]).cells.toList, N8 u := by
 intro u hu z e
 subst e
 simp [Value.cells] at hu
theorem z88 : ∀ u ∈ (Value.agg #[.int .i64 0, .int .i64 0]).cells.toList, N8 u := by
 intro u hu z e
 subst e
 simp [Value.cells] at hu
theorem step_recU {w : World} {rb lb : Nat} {c1 c2 v1 v2 : Value} {n2 : Nat} {xs2 : List Value} {zs : List Int} {f : Bool} {y : World} {us : List (ByteArray × Int)}
  {ops : Array Oper} {o : Oper} {a : Act} {K : Act → World → Prop} {Q : Exit → Act → World → Prop} {E : Prop} (hgd : o.guard = none) (s x : Operand)
  (ho : o.op = .call { callee := .builtin .append, args := #[s, x], argTypes := #[25, 25] }) (hs : a.eval s = v1) (b : Nat) (hx : a.eval x = .slice (some ⟨b, 0, none⟩) 1 1) (p : ByteArray × Int)
  (hnews : ∀ j u, [.string p.1, .int .i64 p.2][j]? = some u → y.cell? ((⟨b, 0, none⟩ : Addr).add j) = some u)
  (h : DS w rb lb c1 c2 v1 us.length (flat us.length (rowU (fU us))) v2 n2 xs2 zs f y) (hn : us.length ≤ 800000)
  (hK : ∀ A c y', DS w rb lb c1 c2 (.slice A (us ++ [p]).length c) (us ++ [p]).length (flat (us ++ [p]).length (rowU (fU (us ++ [p])))) v2 n2 xs2 zs f y' → K (a.put o.dst (.slice A (us ++ [p]).length c)) y') :
  if Region.wanted o (yielded ops a.tmps) = true then Oper.wp Tryz.prog o a y K Q else E := by
 have hw : Region.wanted o (yielded ops a.tmps) = true := by simp [Region.wanted, hgd]
 rw [if_pos hw]
 obtain ⟨i0, hi0, hz0, hz1, hz2⟩ := info_parts info60
 obtain ⟨v', w', hr, hg, hT⟩ := run_append_typed (P := Tryz.prog) y N8 25 o.type (lb + 1) 73 i0 _ 2 24 Tryz.underlying25 hi0 hz0 hz1 hz2 rfl (by decide) z60 v1 _ _ h.r1 h.t1 ⟨b, 0, none⟩ 1 1 [.string p.1, .int .i64 p.2] rfl hnews (by simp [Value.oneCell']) (by intro u hu z e; subst e; simp at hu) (by decide) (by unfold maxLen; omega) (by omega) (by have := h.lbk.lt; omega)
 unfold Oper.wp execOp
 simp only [ho, resolve, invoke, builtin, Sem.run_bind, Sem.run_pure, Result.andThen_ok, List.map_toArray, List.map_cons, List.map_nil, hs, hx, hr]
 obtain ⟨A, c, rfl⟩ := row_shape hg.own
 have hg2 : Grew y w' (lb + 1) 73 2 v1 (.slice A (us ++ [p]).length c) (us ++ [p]).length (flat (us ++ [p]).length (rowU (fU (us ++ [p])))) := by
  rw [flatU_snoc, List.length_append, List.length_singleton]
  exact hg
 have hT2 : TRow N8 w' (.slice A (us ++ [p]).length c) := by
  rw [List.length_append, List.length_singleton]
  exact hT
 have h2 := hK A c w' (h.app1 hg2 hT2)
 rw [List.length_append, List.length_singleton] at h2
 exact h2
theorem step_recK {w : World} {rb lb : Nat} {c1 c2 v1 v2 : Value} {n1 : Nat} {xs1 : List Value} {zs : List Int} {f : Bool} {y : World} {ks : List (Int × Int)}
  {ops : Array Oper} {o : Oper} {a : Act} {K : Act → World → Prop} {Q : Exit → Act → World → Prop} {E : Prop} (hgd : o.guard = none) (s x : Operand)
  (ho : o.op = .call { callee := .builtin .append, args := #[s, x], argTypes := #[26, 26] }) (hs : a.eval s = v2) (b : Nat) (hx : a.eval x = .slice (some ⟨b, 0, none⟩) 1 1) (p : Int × Int)
  (hnews : ∀ j u, [.int .i64 p.1, .int .i64 p.2][j]? = some u → y.cell? ((⟨b, 0, none⟩ : Addr).add j) = some u)
  (h : DS w rb lb c1 c2 v1 n1 xs1 v2 ks.length (flat ks.length (rowK (fK ks))) zs f y) (hn : ks.length ≤ 800000)
  (hK : ∀ A c y', DS w rb lb c1 c2 v1 n1 xs1 (.slice A (ks ++ [p]).length c) (ks ++ [p]).length (flat (ks ++ [p]).length (rowK (fK (ks ++ [p])))) zs f y' → K (a.put o.dst (.slice A (ks ++ [p]).length c)) y') :
  if Region.wanted o (yielded ops a.tmps) = true then Oper.wp Tryz.prog o a y K Q else E := by
 have hw : Region.wanted o (yielded ops a.tmps) = true := by simp [Region.wanted, hgd]
 rw [if_pos hw]
 obtain ⟨i0, hi0, hz0, hz1, hz2⟩ := info_parts info88
 obtain ⟨v', w', hr, hg, hT⟩ := run_append_typed (P := Tryz.prog) y N8 26 o.type (lb + 1) 131 i0 _ 2 16 Tryz.underlying26 hi0 hz0 hz1 hz2 rfl (by decide) z88 v2 _ _ h.r2 h.t2 ⟨b, 0, none⟩ 1 1 [.int .i64 p.1, .int .i64 p.2] rfl hnews (by simp [Value.oneCell']) (by intro u hu z e; subst e; simp at hu) (by decide) (by unfold maxLen; omega) (by omega) (by have := h.lbk.lt; omega)
 unfold Oper.wp execOp
 simp only [ho, resolve, invoke, builtin, Sem.run_bind, Sem.run_pure, Result.andThen_ok, List.map_toArray, List.map_cons, List.map_nil, hs, hx, hr]
 obtain ⟨A, c, rfl⟩ := row_shape hg.own
 have hg2 : Grew y w' (lb + 1) 131 2 v2 (.slice A (ks ++ [p]).length c) (ks ++ [p]).length (flat (ks ++ [p]).length (rowK (fK (ks ++ [p])))) := by
  rw [flatK_snoc, List.length_append, List.length_singleton]
  exact hg
 have hT2 : TRow N8 w' (.slice A (ks ++ [p]).length c) := by
  rw [List.length_append, List.length_singleton]
  exact hT
 have h2 := hK A c w' (h.app2 hg2 hT2)
 rw [List.length_append, List.length_singleton] at h2
 exact h2
end Go.Proofs.YtablocpcgknmaaaGreatDoor
namespace Go.Proofs.YtablocpcgknmaaaGreatDoor
open Go.Lib (hid)
open Go Go.RowKit
set_option linter.unusedVariables false
set_option linter.unusedSimpArgs false
set_option maxRecDepth 100000

theorem _root_.Go.Proofs.YtablocpcgknmaaaGreatDoor.Cd.Ts.kpR {w w' : World} {A : Option Addr} {n c : Nat} {l : List ByteArray} (h : Cd.Ts w A n c l) {rb : Nat} {zs : List Int} {f : Bool} (hr : Rd w rb zs f) (hk : Kp rb w w') : Cd.Ts w' A n c l := by
 obtain ⟨A', c', h1, h2⟩ := hr
 exact h.kp h1 hk
def DcP (q : Bool) (C : Cn) (w : World) (e : Ending) (w' : World) : Prop := ∃ a, e = .returned (.tuple #[.agg (ccs (if q = true then C else c0) a).toArray, .bool q]) ∧ (a.aA = none → a.aC = 0) ∧ (a.dA = none → a.dC = 0) ∧ (a.uA = none ∧ a.uC = 0 ∧ a.kA = none ∧ a.kC = 0) ∧ Below w.heap.size w w'
end Go.Proofs.YtablocpcgknmaaaGreatDoor
