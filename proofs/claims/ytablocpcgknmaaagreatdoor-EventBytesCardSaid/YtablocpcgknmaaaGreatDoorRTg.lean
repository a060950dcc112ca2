/- Laws of append that hold whatever the appended slice is: nil, empty or not. No condition on the program. -/
import Derived.Test.YtablocpcgknmaaaGreatDoorRTi
import Derived.Deep.AppendLies
import Derived.Laws.OwnMore
import Derived.Deep.Onto
import Derived.Below
import Derived.Lib.Hide
import Derived.Deep.MidRow
import Derived.Lib.SmallJoins
import Derived.Laws.ResultCell
import Derived.Deep.Upon
import Derived.Deep.SlicePairs
import Derived.ChangeSame
import Derived.SliceStrings
import Derived.Test.YtablocpcgknmaaaGreatDoorRows
import Derived.WalkKit
import Derived.WalkSpells
import Derived.WalkLawsBesides
import Derived.Deep.LoopGhost
import Derived.Deep.Draws
import Derived.Lib.SliceRun
namespace Go.Proofs.YtablocpcgknmaaaGreatDoor
open Go.Lib (hid)
open Go.RowKit
set_option linter.unusedVariables false

theorem info_parts {i? : Option TypeInfo} {z : Value} {s b : Nat} (h : i?.map (fun i => (i.zero, i.size, i.bytes)) = some (some z, s, b)) : ∃ i, i? = some i ∧ i.zero = some z ∧ i.size = s ∧ i.bytes = b := by
 cases i? with
 | none => cases h
 | some i => simp at h; exact ⟨i, rfl, h.1, h.2.1, h.2.2⟩

/-- The slice at `A`, of `m` elements of `size` cells, whose cells are `news`; at nil there are none. -/
structure Src (w : World) (A : Option Addr) (m c size : Nat) (news : List Value) : Prop where
 len : news.length = m * size
 nil : A = none → m = 0 ∧ c = 0
 cell : m = 0 ∨ ∃ b off, A = some ⟨b, off, none⟩ ∧ b < w.heap.size ∧ ∀ j u, news[j]? = some u → w.cell? ⟨b, off + j, none⟩ = some u
 one : ∀ u ∈ news, u.oneCell' = true
theorem Src.below {w w1 : World} {A : Option Addr} {m c size : Nat} {news : List Value} (h : Src w A m c size news) (hb : Below w.heap.size w w1) : Src w1 A m c size news :=
 ⟨h.len, h.nil, h.cell.imp id fun ⟨b, off, e, hlt, hc⟩ => ⟨b, off, e, Nat.lt_of_lt_of_le hlt hb.size, fun j u hu => (hb.cell (p := ⟨b, off + j, none⟩) hlt).trans (hc j u hu)⟩, h.one⟩

/-- What an append leaves. -/
structure Grew (w w' : World) (base : Nat) (e : TypeId) (size : Nat) (v v' : Value) (n : Nat) (xs : List Value) : Prop where
 own : w'.ownsRow base e size v' n xs
 grow : w.grownBy w' v.ownBlock
 at_ : v'.ownBlock = v.ownBlock ∨ v'.ownBlock = some w.heap.size

section
variable {P : Program} (w : World)
theorem run_append_any (t ty : TypeId) (base : Nat) (e : TypeId) (i : TypeInfo) (z : Value) (size bytes : Nat) (ht : P.underlying t = some (.slice e)) (hi : P.info? e = some i) (hz : i.zero = some z)
  (hsize : i.size = size) (hby : i.bytes = bytes) (hzs : z.cells.size = size) (hsz : 0 < size)
  (v : Value) (n : Nat) (xs : List Value) (hown : w.ownsRow base e size v n xs)
  (A : Option Addr) (m c : Nat) (news : List Value) (hsrc : Src w A m c size news)
  (h63 : n + m ≤ maxLen) (hbytes : (n + m) * bytes ≤ 140737488355328) (hbase : base ≤ w.heap.size) :
  ∃ v' w', (Builtin.append_ #[t, t] ty #[v, .slice A m c]).run P w = .ok v' w' ∧ Grew w w' base e size v v' (n + m) (xs ++ news) := by
 cases A with
 | none =>
  obtain ⟨rfl, rfl⟩ := hsrc.nil rfl
  have h0 : news = [] := List.eq_nil_of_length_eq_zero (by rw [hsrc.len, Nat.zero_mul])
  subst h0
  refine ⟨v, w, run_append_owned_none (P := P) (w := w) base t ty e i size ht hi v n xs hown, ⟨by simpa using hown, ⟨rfl, rfl, rfl, Nat.le_refl _, fun _ _ _ => rfl⟩, .inl rfl⟩⟩
 | some ad =>
  have hnews : ∀ j u, news[j]? = some u → w.cell? (ad.add j) = some u := by
   intro j u hu
   rcases hsrc.cell with h0 | ⟨b, off, he, _, hc⟩
   ·have h1 : news = [] := List.eq_nil_of_length_eq_zero (by rw [hsrc.len, h0, Nat.zero_mul])
    subst h1
    simp at hu
   ·cases he
    rw [Addr.add_lit]
    exact hc j u hu
  obtain ⟨v', w', h1, h2, h3, _, h5⟩ := run_append_own_at (P := P) w base t ty e i z size bytes ht hi hz hsize hby hzs hsz v n xs hown ad m c news hsrc.len hnews hsrc.one h63 hbytes hbase
  exact ⟨v', w', h1, ⟨h2, h3, h5⟩⟩
theorem wp_append_any {o : Oper} {a : Act} {K : Act → World → Prop} {Q : Exit → Act → World → Prop} (s x : Operand) (t : TypeId)
  (ho : o.op = .call { callee := .builtin .append, args := #[s, x], argTypes := #[t, t] })
  (base : Nat) (e : TypeId) (i : TypeInfo) (z : Value) (size bytes : Nat) (ht : P.underlying t = some (.slice e)) (hi : P.info? e = some i) (hz : i.zero = some z)
  (hsize : i.size = size) (hby : i.bytes = bytes) (hzs : z.cells.size = size) (hsz : 0 < size)
  (v : Value) (n : Nat) (xs : List Value) (hs : a.eval s = v) (hown : w.ownsRow base e size v n xs)
  (A : Option Addr) (m c : Nat) (news : List Value) (hx : a.eval x = .slice A m c) (hsrc : Src w A m c size news)
  (h63 : n + m ≤ maxLen) (hbytes : (n + m) * bytes ≤ 140737488355328) (hbase : base ≤ w.heap.size)
  (h : ∀ v' w', Grew w w' base e size v v' (n + m) (xs ++ news) → K (a.put o.dst v') w') : o.wp P a w K Q := by
 obtain ⟨v', w', hr, hg⟩ := run_append_any (P := P) w t o.type base e i z size bytes ht hi hz hsize hby hzs hsz v n xs hown A m c news hsrc h63 hbytes hbase
 unfold Oper.wp execOp
 simp only [ho, resolve, invoke, builtin, Sem.run_bind, Sem.run_pure, Result.andThen_ok, List.map_toArray, List.map_cons, List.map_nil, hs, hx, hr]
 exact h v' w' hg
theorem wpList_append_any {ops : Array Oper} {rest : List Oper} {o : Oper} {a : Act} {Q : Exit → Act → World → Prop} (hgd : o.guard = none) (s x : Operand) (t : TypeId)
  (ho : o.op = .call { callee := .builtin .append, args := #[s, x], argTypes := #[t, t] })
  (base : Nat) (e : TypeId) (i : TypeInfo) (z : Value) (size bytes : Nat) (ht : P.underlying t = some (.slice e)) (hi : P.info? e = some i) (hz : i.zero = some z)
  (hsize : i.size = size) (hby : i.bytes = bytes) (hzs : z.cells.size = size) (hsz : 0 < size)
  (v : Value) (n : Nat) (xs : List Value) (hs : a.eval s = v) (hown : w.ownsRow base e size v n xs)
  (A : Option Addr) (m c : Nat) (news : List Value) (hx : a.eval x = .slice A m c) (hsrc : Src w A m c size news)
  (h63 : n + m ≤ maxLen) (hbytes : (n + m) * bytes ≤ 140737488355328) (hbase : base ≤ w.heap.size)
  (h : ∀ v' w', Grew w w' base e size v v' (n + m) (xs ++ news) → wpList P ops Q rest (a.put o.dst v') w') : wpList P ops Q (o :: rest) a w :=
 wpList_plain hgd fun _ hK => wp_append_any w s x t ho base e i z size bytes ht hi hz hsize hby hzs hsz v n xs hs hown A m c news hx hsrc h63 hbytes hbase fun v' w' hg => hK _ _ (h v' w' hg)
theorem step_append_any {ops : Array Oper} {o : Oper} {a : Act} {K : Act → World → Prop} {Q : Exit → Act → World → Prop} {E : Prop} (hgd : o.guard = none) (s x : Operand) (t : TypeId)
  (ho : o.op = .call { callee := .builtin .append, args := #[s, x], argTypes := #[t, t] })
  (base : Nat) (e : TypeId) (i : TypeInfo) (z : Value) (size bytes : Nat) (ht : P.underlying t = some (.slice e)) (hi : P.info? e = some i) (hz : i.zero = some z)
  (hsize : i.size = size) (hby : i.bytes = bytes) (hzs : z.cells.size = size) (hsz : 0 < size)
  (v : Value) (n : Nat) (xs : List Value) (hs : a.eval s = v) (hown : w.ownsRow base e size v n xs)
  (A : Option Addr) (m c : Nat) (news : List Value) (hx : a.eval x = .slice A m c) (hsrc : Src w A m c size news)
  (h63 : n + m ≤ maxLen) (hbytes : (n + m) * bytes ≤ 140737488355328) (hbase : base ≤ w.heap.size)
  (h : ∀ v' w', Grew w w' base e size v v' (n + m) (xs ++ news) → K (a.put o.dst v') w') :
  if Region.wanted o (yielded ops a.tmps) = true then Oper.wp P o a w K Q else E := by
 have hw : Region.wanted o (yielded ops a.tmps) = true := by simp [Region.wanted, hgd]
 rw [if_pos hw]
 exact wp_append_any w s x t ho base e i z size bytes ht hi hz hsize hby hzs hsz v n xs hs hown A m c news hx hsrc h63 hbytes hbase h
end
theorem Grew.below {w0 w w1 : World} {base : Nat} {e : TypeId} {size : Nat} {v v' : Value} {n k : Nat} {xs ys : List Value} (h : Grew w w1 base e size v v' n xs) (hb : Below w0.heap.size w0 w) (hv : w.ownsRow w0.heap.size e size v k ys) : Below w0.heap.size w0 w1 :=
 hb.grown h.grow hb.size (fun q hq => (hv.lt q hq).1)
end Go.Proofs.YtablocpcgknmaaaGreatDoor

namespace Go.Proofs.YtablocpcgknmaaaGreatDoor
open Go.Lib (hid)
open Go.RowKit
set_option linter.unusedVariables false

theorem grown_setCell (w : World) (a : Addr) (u : Value) : w.grownBy (w.setCell a u) (some a.block) :=
 ⟨rfl, rfl, rfl, by simp, fun k _ hk => heap_setCell_other w a k u (fun e => hk (by rw [e]))⟩
/-- Block `g`, that had at least `l` cells of the call's own, has been written; all others are as they were. -/
structure Wrote (w w' : World) (g l : Nat) : Prop where
 grow : w.grownBy w' (some g)
 there : w'.there g 0 l
theorem Wrote.start {w : World} {base : Nat} {e : TypeId} {n c : Nat} {g : Nat} {xs : List Value} {size : Nat} (h : w.ownsRow base e size (.slice (some ⟨g, 0, none⟩) n c) n xs) : Wrote w w g (n * size) :=
 ⟨⟨rfl, rfl, rfl, Nat.le_refl _, fun _ _ _ => rfl⟩, fun j hj => ⟨by
  rw [Nat.zero_add, h.cellAt j hj, List.getElem?_eq_getElem (by rw [h.1]; exact hj)]; rfl, by rw [Nat.zero_add]; exact h.frozenAt j⟩⟩
theorem Wrote.set {w w' : World} {g l : Nat} (h : Wrote w w' g l) (j : Nat) (u : Value) : Wrote w (w'.setCell ⟨g, j, none⟩ u) g l :=
 ⟨h.grow.trans (grown_setCell w' ⟨g, j, none⟩ u), World.there_setCells h.there g j [u]⟩
theorem Wrote.below {w0 w w' : World} {g l : Nat} (h : Wrote w w' g l) (hb : Below w0.heap.size w0 w) (hg : w0.heap.size ≤ g) : Below w0.heap.size w0 w' :=
 hb.grown h.grow hb.size (fun k hk => by cases hk; exact hg)
end Go.Proofs.YtablocpcgknmaaaGreatDoor

namespace Go.Proofs.YtablocpcgknmaaaGreatDoor
open Go.Lib (hid)
open Go.RowKit
set_option linter.unusedVariables false

/-- The slice at `A`, of `n` elements of `sz` cells; element `j` is `L j`. -/
structure Rws (w : World) (A : Option Addr) (n c sz : Nat) (L : Nat → List Value) : Prop where
 len : ∀ j, j < n → (L j).length = sz
 one : ∀ j, j < n → ∀ u ∈ L j, u.oneCell' = true
 big : n ≤ maxLen
 nil : A = none → n = 0 ∧ c = 0
 at_ : n = 0 ∨ ∃ b off, A = some ⟨b, off, none⟩ ∧ b < w.heap.size ∧ ∀ j, j < n → ∀ i v, (L j)[i]? = some v → w.cell? ⟨b, off + j * sz + i, none⟩ = some v
theorem Rws.below {w w1 : World} {A : Option Addr} {n c sz : Nat} {L : Nat → List Value} (h : Rws w A n c sz L) (hb : Below w.heap.size w w1) : Rws w1 A n c sz L :=
 ⟨h.len, h.one, h.big, h.nil, h.at_.imp id fun ⟨b, off, e, hlt, hc⟩ => ⟨b, off, e, Nat.lt_of_lt_of_le hlt hb.size, fun j hj i v hv => (hb.cell (p := ⟨b, off + j * sz + i, none⟩) hlt).trans (hc j hj i v hv)⟩⟩
theorem Rws.get {w : World} {A : Option Addr} {n c sz : Nat} {L : Nat → List Value} (h : Rws w A n c sz L) {j : Nat} (hj : j < n) :
  ∃ b off, A = some ⟨b, off, none⟩ ∧ b < w.heap.size ∧ World.rangeAt w b (off + j * sz) (L j) := by
 rcases h.at_ with h0 | ⟨b, off, e, hlt, hc⟩
 ·omega
 ·exact ⟨b, off, e, hlt, fun i v hv => hc j hj i v hv⟩
theorem Rws.congr {w : World} {A : Option Addr} {n c sz : Nat} {L M : Nat → List Value} (h : Rws w A n c sz L) (e : ∀ j, j < n → M j = L j) : Rws w A n c sz M :=
 ⟨fun j hj => by rw [e j hj]; exact h.len j hj, fun j hj => by rw [e j hj]; exact h.one j hj, h.big, h.nil, h.at_.imp id fun ⟨b, off, e', hlt, hc⟩ => ⟨b, off, e', hlt, fun j hj => by rw [e j hj]; exact hc j hj⟩⟩
theorem Rws.zero (w : World) (A : Option Addr) (c sz : Nat) (L : Nat → List Value) (h : A = none → c = 0) : Rws w A 0 c sz L :=
 ⟨fun j hj => absurd hj (Nat.not_lt_zero _), fun j hj => absurd hj (Nat.not_lt_zero _), Nat.zero_le _, fun e => ⟨rfl, h e⟩, .inl rfl⟩

/-- All cells, one behind the other. -/
def flat (n : Nat) (L : Nat → List Value) : List Value := (List.range n).flatMap L
theorem flat_succ (n : Nat) (L : Nat → List Value) : flat (n + 1) L = flat n L ++ L n := by
 unfold flat
 rw [List.range_succ, List.flatMap_append]
 simp
theorem flat_len {n sz : Nat} {L : Nat → List Value} (h : ∀ j, j < n → (L j).length = sz) : (flat n L).length = n * sz := by
 induction n with
 | zero => simp [flat]
 | succ n ih => rw [flat_succ, List.length_append, ih fun j hj => h j (by omega), h n (by omega), Nat.succ_mul]
theorem flat_get {n sz : Nat} {L : Nat → List Value} (h : ∀ j, j < n → (L j).length = sz) {j i : Nat} (hj : j < n) (hi : i < sz) : (flat n L)[j * sz + i]? = (L j)[i]? := by
 induction n with
 | zero => omega
 | succ n ih =>
  have hl := flat_len (n := n) (L := L) fun j hj => h j (by omega)
  rw [flat_succ]
  by_cases e : j = n
  ·subst e
   rw [List.getElem?_append_right (by omega), hl]
   congr 1
   omega
  ·have hjn : j < n := by omega
   have : j * sz + i < n * sz := by
    have : (j + 1) * sz ≤ n * sz := Nat.mul_le_mul_right _ hjn
    rw [Nat.succ_mul] at this
    omega
   rw [List.getElem?_append_left (by omega)]
   exact ih (fun j hj => h j (by omega)) hjn
theorem flat_at {n sz : Nat} {L : Nat → List Value} (h : ∀ j, j < n → (L j).length = sz) {k : Nat} {u : Value} (hk : (flat n L)[k]? = some u) : ∃ j i, j < n ∧ i < sz ∧ k = j * sz + i ∧ (L j)[i]? = some u := by
 have hlt : k < n * sz := by rw [← flat_len h]; exact (List.getElem?_eq_some_iff.1 hk).1
 have hsz : 0 < sz := by
  rcases Nat.eq_zero_or_pos sz with h0 | h0
  ·rw [h0, Nat.mul_zero] at hlt; omega
  ·exact h0
 have hj : k / sz < n := (Nat.div_lt_iff_lt_mul hsz).2 hlt
 have hi : k % sz < sz := Nat.mod_lt _ hsz
 have e : k = k / sz * sz + k % sz := by rw [Nat.mul_comm]; exact (Nat.div_add_mod k sz).symm
 refine ⟨k / sz, k % sz, hj, hi, e, ?_⟩
 rw [← flat_get h hj hi, ← e]
 exact hk
theorem flat_congr {n : Nat} {L M : Nat → List Value} (e : ∀ j, j < n → M j = L j) : flat n M = flat n L := by
 induction n with
 | zero => rfl
 | succ n ih => rw [flat_succ, flat_succ, ih fun j hj => e j (by omega), e n (by omega)]
theorem flat_one {n : Nat} {L : Nat → List Value} (h : ∀ j, j < n → ∀ u ∈ L j, u.oneCell' = true) : ∀ u ∈ flat n L, u.oneCell' = true := by
 intro u hu
 obtain ⟨j, hj, hu⟩ := List.mem_flatMap.1 hu
 exact h j (List.mem_range.1 hj) u hu

theorem Rws.src {w : World} {A : Option Addr} {n c sz : Nat} {L : Nat → List Value} (h : Rws w A n c sz L) : Src w A n c sz (flat n L) := by
 refine ⟨flat_len h.len, h.nil, h.at_.imp id fun ⟨b, off, e, hlt, hc⟩ => ⟨b, off, e, hlt, fun k u hu => ?_⟩, flat_one h.one⟩
 obtain ⟨j, i, hj, hi, rfl, hv⟩ := flat_at h.len hu
 rw [← Nat.add_assoc]
 exact hc j hj i u hv
/-- A row of the call's own is read so. -/
theorem own_rows {w : World} {B : Nat} {e : TypeId} {sz : Nat} {A : Option Addr} {n c : Nat} {L : Nat → List Value} (h : w.ownsRow B e sz (.slice A n c) n (flat n L)) (hl : ∀ j, j < n → (L j).length = sz)
  (h1 : ∀ j, j < n → ∀ u ∈ L j, u.oneCell' = true) (hm : n ≤ maxLen) : Rws w A n c sz L := by
 refine ⟨hl, h1, hm, fun e => ?_, ?_⟩
 ·rcases h.2 with ⟨hv, h0⟩ | ⟨g, cap, cur, hv, _⟩
  ·simp only [Value.slice.injEq] at hv; exact ⟨h0, hv.2.2⟩
  ·simp only [Value.slice.injEq] at hv; rw [e] at hv; cases hv.1
 ·rcases h.2 with ⟨_, h0⟩ | ⟨g, cap, cur, hv, _, hg, _⟩
  ·exact .inl h0
  ·simp only [Value.slice.injEq] at hv
   obtain ⟨rfl, _, rfl⟩ := hv
   refine .inr ⟨g, 0, rfl, (h.lt g rfl).2, fun j hj i v hv => ?_⟩
   have hi : i < sz := by rw [← hl j hj]; exact (List.getElem?_eq_some_iff.1 hv).1
   have hk : j * sz + i < n * sz := by
    have : (j + 1) * sz ≤ n * sz := Nat.mul_le_mul_right _ hj
    rw [Nat.succ_mul] at this
    omega
   rw [Nat.zero_add, h.cellAt _ hk, flat_get hl hj hi]
   exact hv
/-- A value that owns a row is a slice. -/
theorem own_slice {w : World} {B : Nat} {e : TypeId} {sz n : Nat} {v : Value} {xs : List Value} (h : w.ownsRow B e sz v n xs) : ∃ A c, v = .slice A n c := by
 rcases Joins.ownsRow_forms h with ⟨rfl, rfl⟩ | ⟨g, cap, rfl⟩
 ·exact ⟨none, 0, rfl⟩
 ·exact ⟨_, _, rfl⟩
/-- It survives whatever leaves the blocks below the heap's end alone. -/
theorem own_below {w w1 : World} {B : Nat} {e : TypeId} {sz n : Nat} {v : Value} {xs : List Value} (h : w.ownsRow B e sz v n xs) (hb : Below w.heap.size w w1) : w1.ownsRow B e sz v n xs := by
 refine ⟨h.1, h.2.imp id fun ⟨g, cap, cur, e, hg, hx, r⟩ => ⟨g, cap, cur, e, hg, ?_, r⟩⟩
 rw [hb.block g (by rcases Nat.lt_or_ge g w.heap.size with h | h; exact h; rw [Array.getElem?_eq_none h] at hx; cases hx)]
 exact hx
/-- A copy in new memory. -/
structure CopyR (w w' : World) (e : TypeId) (sz n : Nat) (L : Nat → List Value) (A : Option Addr) (c : Nat) : Prop where
 own : w'.ownsRow w.heap.size e sz (.slice A n c) n (flat n L)
 bel : Below w.heap.size w w'
theorem CopyR.rows {w w' : World} {e : TypeId} {sz n c : Nat} {L : Nat → List Value} {A : Option Addr} (h : CopyR w w' e sz n L A c) {A0 : Option Addr} {c0 : Nat} {w0 : World} (h0 : Rws w0 A0 n c0 sz L) : Rws w' A n c sz L :=
 own_rows h.own h0.len h0.one h0.big
end Go.Proofs.YtablocpcgknmaaaGreatDoor

namespace Go.Proofs.YtablocpcgknmaaaGreatDoor
open Go.Lib (hid)
open Go.RowKit
set_option linter.unusedVariables false
theorem clone_nil (w : World) (e : TypeId) (sz : Nat) (L : Nat → List Value) : CopyR w w e sz 0 L none 0 := ⟨World.ownsRow_nil w _ e sz, Below.refl _ _⟩
theorem clone_grew {w w' : World} {e : TypeId} {sz n : Nat} {L : Nat → List Value} {v' : Value} (h : Grew (w.alloc (.cells #[] e)) w' w.heap.size e sz (.slice (some ⟨w.heap.size, 0, none⟩) 0 0) v' (0 + n) ([] ++ flat n L)) :
  ∃ A c, v' = .slice A n c ∧ CopyR w w' e sz n L A c := by
 have ho := h.own
 rw [Nat.zero_add, List.nil_append] at ho
 obtain ⟨A, c, rfl⟩ := own_slice ho
 exact ⟨A, c, rfl, ho, Grew.below (w0 := w) h ((Below.refl _ w).alloc (Nat.le_refl _) _) (World.ownsRow_made w #[] 0 (Nat.le_refl _) (by decide) (by simp))⟩
end Go.Proofs.YtablocpcgknmaaaGreatDoor

namespace Go.Proofs.YtablocpcgknmaaaGreatDoor
open Go.Lib (hid)
open Go.RowKit
set_option linter.unusedVariables false

/-- Block `t` of `w` is the row `cs`. -/
structure Blk (w : World) (t : Nat) (cs : List Value) (T : TypeId) : Prop where
 heap : w.heap[t]? = some (.cells cs.toArray T (0, 0))
section
variable {w w1 : World} {t : Nat} {cs : List Value} {T : TypeId}
theorem Blk.lt (h : Blk w t cs T) : t < w.heap.size := by
 rcases Nat.lt_or_ge t w.heap.size with h1 | h1
 ·exact h1
 ·have := h.heap; rw [Array.getElem?_eq_none h1] at this; cases this
theorem Blk.cell (h : Blk w t cs T) {i : Nat} {v : Value} (hv : cs[i]? = some v) : w.cell? ⟨t, i, none⟩ = some v := by
 rw [cell_of_row w t i _ T _ h.heap, List.getElem?_toArray]; exact hv
theorem Blk.free (h : Blk w t cs T) (i : Nat) : w.frozen? ⟨t, i, none⟩ = false := frozen_of_row w t i _ T h.heap
theorem Blk.below (h : Blk w t cs T) (hb : Below w.heap.size w w1) : Blk w1 t cs T := ⟨(hb.block t h.lt).trans h.heap⟩
theorem Blk.at_ {B : Nat} (h : Blk w t cs T) (hb : Below B w w1) (ht : t < B) : Blk w1 t cs T := ⟨(hb.block t ht).trans h.heap⟩
theorem blk_new (w : World) (cs : List Value) (T : TypeId) : Blk (w.alloc (.cells cs.toArray T)) w.heap.size cs T := ⟨heap_alloc_new w _⟩
theorem Blk.alloc (h : Blk w t cs T) (o : Obj) : Blk (w.alloc o) t cs T := h.below ((Below.refl _ w).alloc (Nat.le_refl _) o)
theorem Blk.drew (h : Blk w t cs T) : Blk w.drew t cs T := ⟨h.heap⟩
theorem Blk.set (h : Blk w t cs T) (i : Nat) (v : Value) : Blk (w.setCell ⟨t, i, none⟩ v) t (cs.set i v) T := by
 refine ⟨?_⟩
 rw [heap_setCell_same w t i _ T v h.heap, List.setIfInBounds_toArray]
theorem Blk.other (h : Blk w t cs T) (a : Addr) (v : Value) (hne : t ≠ a.block) : Blk (w.setCell a v) t cs T := ⟨(heap_setCell_other w a t v hne).trans h.heap⟩
theorem Blk.range (h : Blk w t cs T) : World.rangeAt w t 0 cs := fun j v hv => by rw [Nat.zero_add]; exact h.cell hv
theorem Blk.mid (h : Blk w t cs T) (o n : Nat) : World.rangeAt w t o ((cs.drop o).take n) := fun j v hv => by
 refine h.cell ?_
 rw [List.getElem?_take] at hv
 split at hv
 ·rw [List.getElem?_drop] at hv; exact hv
 ·cases hv
theorem Blk.there (h : Blk w t cs T) {n : Nat} (hn : n ≤ cs.length) : w.there t 0 n := fun j hj =>
 ⟨by rw [Nat.zero_add, h.cell (List.getElem?_eq_getElem (by omega))]; rfl, h.free _⟩
theorem set_all : ∀ (vs pre post : List Value) (w : World) (_ : Blk w t (pre ++ post) T) (_ : vs.length = post.length), Blk (w.setCells t pre.length vs) t (pre ++ vs) T
 | [], pre, post, w, h, e => by
  have : post = [] := List.eq_nil_of_length_eq_zero e.symm
  subst this
  exact h
 | v :: vs, pre, [], w, h, e => by simp at e
 | v :: vs, pre, p :: post, w, h, e => by
  have h1 := h.set pre.length v
  rw [List.set_append_right _ _ (Nat.le_refl _), Nat.sub_self, List.set_cons_zero, show pre ++ v :: post = (pre ++ [v]) ++ post by simp] at h1
  have h2 := set_all vs (pre ++ [v]) post _ h1 (by simpa using e)
  rw [List.length_append, List.length_singleton, List.append_assoc, List.singleton_append] at h2
  exact h2
theorem Blk.setAll (h : Blk w t cs T) (vs : List Value) (e : vs.length = cs.length) : Blk (w.setCells t 0 vs) t vs T := set_all vs [] cs w h e
theorem Blk.otherAll (h : Blk w t cs T) (g o : Nat) (vs : List Value) (hne : t ≠ g) : Blk (w.setCells g o vs) t cs T := ⟨(World.heap_setCells_other w g o vs h.lt hne).trans h.heap⟩
end
theorem below_setAll {B b : Nat} {a : World} (hb : B ≤ b) : ∀ (vs : List Value) (o : Nat) (w : World), Below B a w → Below B a (w.setCells b o vs)
 | [], _, _, h => h
 | v :: r, o, w, h => below_setAll hb r (o + 1) _ (h.setCell (p := ⟨b, o, none⟩) hb v)
theorem size_setAll (b : Nat) : ∀ (vs : List Value) (o : Nat) (w : World), (w.setCells b o vs).heap.size = w.heap.size
 | [], _, _ => rfl
 | v :: r, o, w => (size_setAll b r (o + 1) _).trans (by simp)
/-- Rows in other blocks stand. -/
theorem Rws.other {w : World} {A : Option Addr} {n c sz : Nat} {L : Nat → List Value} (h : Rws w A n c sz L) (a : Addr) (v : Value) (hne : 0 < n → ∀ b off, A = some ⟨b, off, none⟩ → b ≠ a.block) : Rws (w.setCell a v) A n c sz L := by
 refine ⟨h.len, h.one, h.big, h.nil, ?_⟩
 rcases Nat.eq_zero_or_pos n with h0 | h0
 ·exact .inl h0
 ·refine h.at_.imp id fun ⟨b, off, e, hlt, hc⟩ => ⟨b, off, e, by simpa using hlt, fun j hj i u hu => ?_⟩
  have := heap_setCell_other w a b v (hne h0 b off e)
  exact (World.cell?_of_block (a := ⟨b, off + j * sz + i, none⟩) this).trans (hc j hj i u hu)
theorem Rws.otherAll {w : World} {A : Option Addr} {n c sz : Nat} {L : Nat → List Value} (h : Rws w A n c sz L) (g o : Nat) (vs : List Value) (hne : 0 < n → ∀ b off, A = some ⟨b, off, none⟩ → b ≠ g) : Rws (w.setCells g o vs) A n c sz L := by
 refine ⟨h.len, h.one, h.big, h.nil, ?_⟩
 rcases Nat.eq_zero_or_pos n with h0 | h0
 ·exact .inl h0
 ·refine h.at_.imp id fun ⟨b, off, e, hlt, hc⟩ => ⟨b, off, e, by rw [size_setAll]; exact hlt, fun j hj i u hu => ?_⟩
  have := World.heap_setCells_other w g o vs hlt (hne h0 b off e)
  exact (World.cell?_of_block (a := ⟨b, off + j * sz + i, none⟩) this).trans (hc j hj i u hu)
/-- The row lies in the call's own memory. -/
def New (w : World) (n : Nat) (A : Option Addr) : Prop := 0 < n → ∀ b off, A = some ⟨b, off, none⟩ → w.heap.size ≤ b
theorem New.ne {w : World} {n : Nat} {A : Option Addr} (h : New w n A) {t : Nat} (ht : t < w.heap.size) : 0 < n → ∀ b off, A = some ⟨b, off, none⟩ → b ≠ t := fun h0 b off e => by
 have := h h0 b off e; omega
theorem New.mono {w w1 : World} {n : Nat} {A : Option Addr} (h : New w1 n A) (hs : w.heap.size ≤ w1.heap.size) : New w n A := fun h0 b off e => Nat.le_trans hs (h h0 b off e)
theorem CopyR.new {w w' : World} {e : TypeId} {sz n c : Nat} {L : Nat → List Value} {A : Option Addr} (h : CopyR w w' e sz n L A c) : New w n A := by
 rintro h0 b off rfl
 exact (h.own.lt b rfl).1
/-- .. or in memory that was there. -/
theorem Rws.old {w : World} {A : Option Addr} {n c sz : Nat} {L : Nat → List Value} (h : Rws w A n c sz L) {t : Nat} (ht : w.heap.size ≤ t) : 0 < n → ∀ b off, A = some ⟨b, off, none⟩ → b ≠ t := by
 rintro h0 b off rfl
 rcases h.at_ with h1 | ⟨b', off', e, hlt, _⟩
 ·omega
 ·cases e; omega
/-- One result, held in a block. -/
theorem results_cell_mid {P : Program} {fn : Func} {p : Tmp} {ty : TypeId} (h : fn.results = #[.cell p ty]) (tmps : Array Value) (w : World) (t : Nat) (cs : List Value) (T : TypeId) (d : TypeDesc)
  (hp : tmps.getD p undef = .pointer (some ⟨t, 0, none⟩)) (hc : Blk w t cs T) (hu : P.underlying ty = some d) (hd : (match d with | .struct _ | .array _ _ => true | _ => false) = true) (hi : (P.info? ty).map (·.size) = some cs.length) :
  (results fn tmps).run P w = .ok (.agg cs.toArray) w :=
 results_cell_row h tmps w t T cs.toArray (0, 0) d hp hc.heap hu hd (by simpa using hi)
theorem results_cell_tmp_blk {P : Program} {fn : Func} {p u : Tmp} {ty : TypeId} (h : fn.results = #[.cell p ty, .tmp u]) (tmps : Array Value) (w : World) (t : Nat) (cs : List Value) (T : TypeId) (d : TypeDesc)
  (hp : tmps.getD p undef = .pointer (some ⟨t, 0, none⟩)) (hc : Blk w t cs T) (hu : P.underlying ty = some d) (hd : (match d with | .struct _ | .array _ _ => true | _ => false) = true) (hi : (P.info? ty).map (·.size) = some cs.length) :
  (results fn tmps).run P w = .ok (.tuple #[.agg cs.toArray, tmps.getD u undef]) w := by
 have hi' : (P.info? ty).map (·.size) = some cs.toArray.size := by simpa using hi
 rw [results_cell_tmp h, hp]
 simp [asAddr, Result.andThen, run_loadVar_row (P := P) w t T ty cs.toArray (0, 0) d hc.heap hu hd hi']
end Go.Proofs.YtablocpcgknmaaaGreatDoor

namespace Go.Proofs.YtablocpcgknmaaaGreatDoor
open Go.Lib (hid)
open Go.RowKit Go.ChangeShapes Go.WideShapes
set_option linter.unusedVariables false

theorem rws_of {w : World} {a : Addr} {len cap sz : Nat} {L : Nat → List Value} (hm : len ≤ maxLen) (hsz : 0 < sz) (hl : ∀ j, j < len → (L j).length = sz) (h1 : ∀ j, j < len → ∀ u ∈ L j, u.oneCell' = true)
  (hc : ∀ j, j < len → ∀ i v, (L j)[i]? = some v → w.cell? (a.add (j * sz + i)) = some v) : Rws w (some a) len cap sz L := by
 refine ⟨hl, h1, hm, (fun h => by cases h), ?_⟩
 rcases Nat.eq_zero_or_pos len with h0 | h0
 ·exact .inl h0
 ·right
  obtain ⟨b, off, sp⟩ := a
  have hg : (L 0)[0]? = some ((L 0)[0]'(by rw [hl 0 h0]; exact hsz)) := List.getElem?_eq_getElem _
  have hf := hc 0 h0 0 _ hg
  have hsp : sp = none := by simpa [Addr.add] using World.cell?_spot hf
  subst hsp
  rw [Addr.add_lit] at hf
  refine ⟨b, off, rfl, World.block_lt_of_cell? w _ hf, fun j hj i v hv => ?_⟩
  have := hc j hj i v hv
  rw [Addr.add_lit, ← Nat.add_assoc] at this
  exact this
section
variable {H : Type} {en : TypeId × Value → H} {P : Program} {w : World} {base : Nat} {spare : Nat → Bool} {held : Bool}
theorem choose_below {α : Type} {p : Nat → α → Prop} {n : Nat} (d : α) (h : ∀ i, i < n → ∃ a, p i a) : ∃ F : Nat → α, ∀ i, i < n → p i (F i) :=
 ⟨fun i => if hi : i < n then Classical.choose (h i hi) else d, fun i hi => by simp only [hi, dif_pos]; exact Classical.choose_spec (h i hi)⟩
/-- A slice of structs of a string and an integer. -/
theorem open_rows_si {t e : TypeId} {f0 f1 : Field} {k : IntKind} {fuel : Nat} {A : Option Addr} {len cap : Nat} {x : DataW H × List MemPlace} (ht : P.underlying t = some (.slice e)) (he : P.underlying e = some (.struct #[f0, f1]))
  (ce : P.cellsOf e = 2) (o0 : f0.offset = 0) (o1 : f1.offset = 1) (c0 : P.cellsOf f0.type = 1) (c1 : P.cellsOf f1.type = 1) (u0 : P.underlying f0.type = some .string) (u1 : P.underlying f1.type = some (.int k))
  (h : DataW.trod en P w base spare held fuel t [.slice A len cap] = some x) :
  ∃ U : Nat → ByteArray × Int, Rws w A len cap 2 (fun j => [.string (U j).1, .int k (U j).2]) ∧ ∀ j, j < len → (U j).1.size ≤ maxLen ∧ (Lit.int k (U j).2).wf = true := by
 rcases Go.Deep.open_slice_pairs ht he ce o0 o1 c0 c1 h with ⟨hcs, _⟩ | ⟨a, l, c, m, n, V0, V1, D0, D1, P0, P1, hcs, _, hl, hm, hmm, _, hx⟩
 ·simp at hcs
  obtain ⟨rfl, rfl, rfl⟩ := hcs
  exact ⟨fun _ => (⟨#[]⟩, 0), Rws.zero _ _ _ _ _ (fun _ => rfl), fun j hj => absurd hj (Nat.not_lt_zero _)⟩
 ·simp at hcs
  obtain ⟨rfl, rfl, rfl⟩ := hcs
  have hlm : len ≤ m := by rw [hmm]; split <;> omega
  obtain ⟨U, hU⟩ := choose_below (n := len) (p := fun i (q : ByteArray × Int) => V0 i = .string q.1 ∧ V1 i = .int k q.2 ∧ q.1.size ≤ maxLen ∧ (Lit.int k q.2).wf = true) (⟨#[]⟩, 0) (fun i hi => by
   obtain ⟨_, _, h3, h4⟩ := hx i (by omega)
   obtain ⟨s, e1, _, w1⟩ := DataW.trod_string u0 h3
   obtain ⟨z, e2, _, w2⟩ := DataW.trod_int u1 h4
   exact ⟨(s, z), by simpa using e1, by simpa using e2, w1, w2⟩)
  refine ⟨U, rws_of (by omega) (by decide) (fun j hj => rfl) (fun j hj u hu => by simp at hu; rcases hu with rfl | rfl <;> rfl) (fun j hj i v hv => ?_), fun j hj => (hU j hj).2.2⟩
  obtain ⟨h1, h2, _, _⟩ := hx j (by omega)
  match i, hv with
  | 0, hv => simp at hv; rw [← hv, ← (hU j hj).1]; exact h1
  | 1, hv => simp at hv; rw [← hv, ← (hU j hj).2.1]; exact h2
/-- A slice of structs of two integers. -/
theorem open_rows_ii {t e : TypeId} {f0 f1 : Field} {k k' : IntKind} {fuel : Nat} {A : Option Addr} {len cap : Nat} {x : DataW H × List MemPlace} (ht : P.underlying t = some (.slice e)) (he : P.underlying e = some (.struct #[f0, f1]))
  (ce : P.cellsOf e = 2) (o0 : f0.offset = 0) (o1 : f1.offset = 1) (c0 : P.cellsOf f0.type = 1) (c1 : P.cellsOf f1.type = 1) (u0 : P.underlying f0.type = some (.int k')) (u1 : P.underlying f1.type = some (.int k))
  (h : DataW.trod en P w base spare held fuel t [.slice A len cap] = some x) :
  ∃ U : Nat → Int × Int, Rws w A len cap 2 (fun j => [.int k' (U j).1, .int k (U j).2]) ∧ ∀ j, j < len → (Lit.int k' (U j).1).wf = true ∧ (Lit.int k (U j).2).wf = true := by
 rcases Go.Deep.open_slice_pairs ht he ce o0 o1 c0 c1 h with ⟨hcs, _⟩ | ⟨a, l, c, m, n, V0, V1, D0, D1, P0, P1, hcs, _, hl, hm, hmm, _, hx⟩
 ·simp at hcs
  obtain ⟨rfl, rfl, rfl⟩ := hcs
  exact ⟨fun _ => (0, 0), Rws.zero _ _ _ _ _ (fun _ => rfl), fun j hj => absurd hj (Nat.not_lt_zero _)⟩
 ·simp at hcs
  obtain ⟨rfl, rfl, rfl⟩ := hcs
  have hlm : len ≤ m := by rw [hmm]; split <;> omega
  obtain ⟨U, hU⟩ := choose_below (n := len) (p := fun i (q : Int × Int) => V0 i = .int k' q.1 ∧ V1 i = .int k q.2 ∧ (Lit.int k' q.1).wf = true ∧ (Lit.int k q.2).wf = true) (0, 0) (fun i hi => by
   obtain ⟨_, _, h3, h4⟩ := hx i (by omega)
   obtain ⟨s, e1, _, w1⟩ := DataW.trod_int u0 h3
   obtain ⟨z, e2, _, w2⟩ := DataW.trod_int u1 h4
   exact ⟨(s, z), by simpa using e1, by simpa using e2, w1, w2⟩)
  refine ⟨U, rws_of (by omega) (by decide) (fun j hj => rfl) (fun j hj u hu => by simp at hu; rcases hu with rfl | rfl <;> rfl) (fun j hj i v hv => ?_), fun j hj => (hU j hj).2.2⟩
  obtain ⟨h1, h2, _, _⟩ := hx j (by omega)
  match i, hv with
  | 0, hv => simp at hv; rw [← hv, ← (hU j hj).1]; exact h1
  | 1, hv => simp at hv; rw [← hv, ← (hU j hj).2.1]; exact h2
end
end Go.Proofs.YtablocpcgknmaaaGreatDoor

namespace Go.Proofs.YtablocpcgknmaaaGreatDoor
open Go.Lib (hid)
open Go.RowKit
set_option linter.unusedVariables false

section
variable {P : Program} {w : World}
/-- What a store into block `t` leaves. -/
structure Put (w w' : World) (t : Nat) : Prop where
 oth : ∀ t' cs' T', t' ≠ t → Blk w t' cs' T' → Blk w' t' cs' T'
 bel : ∀ B, B ≤ t → Below B w w'
end
end Go.Proofs.YtablocpcgknmaaaGreatDoor

namespace Go.Proofs.YtablocpcgknmaaaGreatDoor
open Go.Lib (hid)
open Go.RowKit
set_option linter.unusedVariables false

/-- An event, by its cells. -/
structure Ev where
 v0 : Value
 v1 : Value
 snd : ByteArray
 kd : Int
 v4 : Value
 key : ByteArray
 v6 : Value
 v7 : Value
 v8 : Value
 v9 : Value
 v10 : Value
 n : Int
 v12 : Value
 v13 : Value
 v14 : Value
 aA : Option Addr
 lA : Nat
 cA : Nat
 v16 : Value
 v17 : Value
 v18 : Value
 v19 : Value
 v20 : Value
 v21 : Value
 v22 : Value
 v23 : Value
 v24 : Value
 v25 : Value
 v26 : Value
 v27 : Value
 v28 : Value

def enc (e : Ev) : List Value := [e.v0, e.v1, .string e.snd, .int .i64 e.kd, e.v4, .string e.key, e.v6, e.v7, e.v8, e.v9, e.v10, .int .i64 e.n, e.v12, e.v13, e.v14, .slice e.aA e.lA e.cA, e.v16, e.v17, e.v18, e.v19, e.v20, e.v21, e.v22, e.v23, e.v24, e.v25, e.v26, e.v27, e.v28]
/-- The events `E 0`, `E 1`, .. lie one behind the other. -/
structure Evs (w : World) (b off n : Nat) (E : Nat → Ev) : Prop where
 lt : b < w.heap.size
 big : n ≤ 9223372036854775807
 cell : ∀ j, j < n → ∀ i v, (enc (E j))[i]? = some v → w.cell? ⟨b, off + j * 29 + i, none⟩ = some v
theorem Evs.below {w w1 : World} {b off n : Nat} {E : Nat → Ev} (h : Evs w b off n E) (hb : Below w.heap.size w w1) : Evs w1 b off n E :=
 ⟨Nat.lt_of_lt_of_le h.lt hb.size, h.big, fun j hj i v hi => (hb.cell (p := ⟨b, off + j * 29 + i, none⟩) h.lt).trans (h.cell j hj i v hi)⟩
theorem Evs.snd {w : World} {b off n : Nat} {E : Nat → Ev} (h : Evs w b off n E) {j : Nat} (hj : j < n) : w.cell? ⟨b, off + j * 29 + 2, none⟩ = some (.string (E j).snd) := h.cell j hj 2 _ rfl
theorem Evs.kd {w : World} {b off n : Nat} {E : Nat → Ev} (h : Evs w b off n E) {j : Nat} (hj : j < n) : w.cell? ⟨b, off + j * 29 + 3, none⟩ = some (.int .i64 (E j).kd) := h.cell j hj 3 _ rfl
theorem Evs.key {w : World} {b off n : Nat} {E : Nat → Ev} (h : Evs w b off n E) {j : Nat} (hj : j < n) : w.cell? ⟨b, off + j * 29 + 5, none⟩ = some (.string (E j).key) := h.cell j hj 5 _ rfl
/-- A list of events, empty or not. -/
def EvsA (w : World) (A : Option Addr) (n : Nat) (E : Nat → Ev) : Prop := n = 0 ∨ ∃ b off, A = some ⟨b, off, none⟩ ∧ Evs w b off n E
theorem EvsA.below {w w1 : World} {A : Option Addr} {n : Nat} {E : Nat → Ev} (h : EvsA w A n E) (hb : Below w.heap.size w w1) : EvsA w1 A n E :=
 h.imp id fun ⟨b, off, e, h⟩ => ⟨b, off, e, h.below hb⟩
theorem EvsA.at_ {w : World} {A : Option Addr} {n : Nat} {E : Nat → Ev} (h : EvsA w A n E) {k : Nat} (hk : k < n) : ∃ b off, A = some ⟨b, off, none⟩ ∧ Evs w b off n E := by
 rcases h with rfl | h
 ·omega
 ·exact h


end Go.Proofs.YtablocpcgknmaaaGreatDoor

namespace Go.Proofs.YtablocpcgknmaaaGreatDoor
open Go.Lib (hid)
open Go.RowKit
set_option linter.unusedVariables false

theorem size28 : (Tryz.prog.info? 28).map (·.size) = some 9 := by kernel_rfl
def isU (U : Nat → ByteArray × Int) (u : ByteArray) (j : Nat) : Bool := ((U j).1.toList == u.toList)
def UserPost (U : Nat → ByteArray × Int) (u : ByteArray) (n : Nat) (d r : Int) : Prop :=
 (∃ k, k < n ∧ isU U u k = true ∧ (∀ j, j < k → isU U u j = false) ∧ r = (U k).2) ∨ ((∀ j, j < n → isU U u j = false) ∧ r = d)

theorem UserPost.one {U : Nat → ByteArray × Int} {u : ByteArray} {n : Nat} {d r s : Int} (h : UserPost U u n d r) (k : UserPost U u n d s) : r = s := by
 rcases h with ⟨i, hi, gi, li, rfl⟩ | ⟨hn, rfl⟩ <;> rcases k with ⟨j, hj, gj, lj, rfl⟩ | ⟨kn, rfl⟩
 ·rcases Nat.lt_trichotomy i j with h | h | h
  ·rw [lj i h] at gi; cases gi
  ·rw [h]
  ·rw [li j h] at gj; cases gj
 ·rw [kn i hi] at gi; cases gi
 ·rw [hn j hj] at gj; cases gj
 ·rfl
structure Lvl where
 nU : Nat
 U : Nat → ByteArray × Int
 nK : Nat
 K : Nat → Int × Int
 d : Int
 x3 : Int
 x4 : Int
 x5 : Int
 x6 : Int
 x7 : Int
 x8 : Int
def rowU (U : Nat → ByteArray × Int) (j : Nat) : List Value := [.string (U j).1, .int .i64 (U j).2]
def rowK (K : Nat → Int × Int) (j : Nat) : List Value := [.int .i64 (K j).1, .int .i64 (K j).2]
/-- The cells of levels whose users lie at `uA`, its kinds at `kA`. -/
abbrev lvc (uA : Option Addr) (nU uC : Nat) (kA : Option Addr) (nK kC : Nat) (d x3 x4 x5 x6 x7 x8 : Int) : List Value := [.slice uA nU uC, .slice kA nK kC, .int .i64 d, .int .i64 x3, .int .i64 x4, .int .i64 x5, .int .i64 x6, .int .i64 x7, .int .i64 x8]
/-- The cells `cs` are the levels `L`. -/
def IsLv (w : World) (cs : List Value) (L : Lvl) : Prop :=
 ∃ uA uC kA kC, cs = lvc uA L.nU uC kA L.nK kC L.d L.x3 L.x4 L.x5 L.x6 L.x7 L.x8 ∧ Rws w uA L.nU uC 2 (rowU L.U) ∧ Rws w kA L.nK kC 2 (rowK L.K)
theorem IsLv.below {w w1 : World} {cs : List Value} {L : Lvl} (h : IsLv w cs L) (hb : Below w.heap.size w w1) : IsLv w1 cs L := by
 obtain ⟨uA, uC, kA, kC, e, h1, h2⟩ := h
 exact ⟨uA, uC, kA, kC, e, h1.below hb, h2.below hb⟩
theorem Rws.user {w : World} {A : Option Addr} {n c : Nat} {U : Nat → ByteArray × Int} (h : Rws w A n c 2 (rowU U)) {j : Nat} (hj : j < n) :
  ∃ b off, A = some ⟨b, off, none⟩ ∧ w.cell? ⟨b, off + j * 2, none⟩ = some (.string (U j).1) ∧ w.cell? ⟨b, off + j * 2 + 1, none⟩ = some (.int .i64 (U j).2) := by
 obtain ⟨b, off, e, _, hr⟩ := h.get hj
 exact ⟨b, off, e, hr 0 _ rfl, hr 1 _ rfl⟩

/-- The box of levels, and what stands in it. -/
structure Box (w : World) (t : Nat) (cs : List Value) : Prop where
 lt : t < w.heap.size
 at_ : ∀ (i : Nat) (v : Value), cs[i]? = some v → w.cell? ⟨t, i, none⟩ = some v
theorem Box.below {w w1 : World} {t : Nat} {cs : List Value} (h : Box w t cs) (hb : Below w.heap.size w w1) : Box w1 t cs :=
 ⟨Nat.lt_of_lt_of_le h.lt hb.size, fun j v hv => (hb.cell (p := ⟨t, j, none⟩) h.lt).trans (h.at_ j v hv)⟩
end Go.Proofs.YtablocpcgknmaaaGreatDoor

namespace Go.Proofs.YtablocpcgknmaaaGreatDoor
open Go.Lib (hid)
open Go.RowKit
set_option linter.unusedVariables false

theorem info55 : (Tryz.prog.info? 73).map (fun i => (i.zero, i.size, i.bytes)) = some (some (.agg #[.string ByteArray.empty, .int .i64 0]), 2, 24) := by kernel_rfl
set_option maxHeartbeats 1000000 in
theorem clone31 (A : Option Addr) (n c : Nat) (L : Nat → List Value) (w : World) (h : Rws w A n c 2 L) (hb : n * 24 ≤ 140737488355328) :
  Calls Tryz.prog 202 #[.slice A n c] w fun e w' => ∃ A' c', e = .returned (.slice A' n c') ∧ CopyR w w' 73 2 n L A' c' := by
 obtain ⟨i0, hi, hz0, hz1, hz2⟩ := info_parts info55
 have HI := hid (And.intro hi (And.intro hz0 (And.intro hz1 hz2)))
 clear hi hz0 hz1 hz2
 have kn := fun (w : World) (a : Option Addr) (n c n' c' : Nat) => Lib.run_eql_slice_nil (P := Tryz.prog) w 25 73 a n c n' c' Tryz.underlying25
 cases A with
 | none =>
  obtain ⟨rfl, rfl⟩ := h.nil rfl
  clear h HI hb
  go_enter Tryz.func202, Tryz.ntmps202
  go_wp2
  go_ret
  exact ⟨none, 0, rfl, clone_nil w 73 2 L⟩
 | some ad =>
  have HS := hid (h.src.below ((Below.refl _ w).alloc (Nat.le_refl _) (.cells #[] 73)))
  have HO := hid (World.ownsRow_made (base := w.heap.size) (e := 73) (size := 2) w #[] 0 (Nat.le_refl _) (by decide) (by simp))
  clear h
  go_enter Tryz.func202, Tryz.ntmps202
  go_wp2_with (at_builtin; refine wpList_append_any _ rfl _ _ 25 rfl w.heap.size 73 i0 _ 2 24 Tryz.underlying25 HI.out.1 HI.out.2.1 HI.out.2.2.1 HI.out.2.2.2 rfl (by decide) _ 0 [] rfl HO.out (some ad) n c (flat n L) rfl HS.out (by unfold maxLen; omega) (by omega) (by simp) ?_; intro v3 w3 hgr; have HX := hid (clone_grew hgr); clear hgr)
  go_ret
  obtain ⟨A', c', rfl, hc⟩ := HX.out
  exact ⟨A', c', rfl, hc⟩

theorem info61 : (Tryz.prog.info? 131).map (fun i => (i.zero, i.size, i.bytes)) = some (some (.agg #[.int .i64 0, .int .i64 0]), 2, 16) := by kernel_rfl
set_option maxHeartbeats 1000000 in
theorem clone32 (A : Option Addr) (n c : Nat) (L : Nat → List Value) (w : World) (h : Rws w A n c 2 L) (hb : n * 16 ≤ 140737488355328) :
  Calls Tryz.prog 203 #[.slice A n c] w fun e w' => ∃ A' c', e = .returned (.slice A' n c') ∧ CopyR w w' 131 2 n L A' c' := by
 obtain ⟨i0, hi, hz0, hz1, hz2⟩ := info_parts info61
 have HI := hid (And.intro hi (And.intro hz0 (And.intro hz1 hz2)))
 clear hi hz0 hz1 hz2
 have kn := fun (w : World) (a : Option Addr) (n c n' c' : Nat) => Lib.run_eql_slice_nil (P := Tryz.prog) w 26 131 a n c n' c' Tryz.underlying26
 cases A with
 | none =>
  obtain ⟨rfl, rfl⟩ := h.nil rfl
  clear h HI hb
  go_enter Tryz.func203, Tryz.ntmps203
  go_wp2
  go_ret
  exact ⟨none, 0, rfl, clone_nil w 131 2 L⟩
 | some ad =>
  have HS := hid (h.src.below ((Below.refl _ w).alloc (Nat.le_refl _) (.cells #[] 131)))
  have HO := hid (World.ownsRow_made (base := w.heap.size) (e := 131) (size := 2) w #[] 0 (Nat.le_refl _) (by decide) (by simp))
  clear h
  go_enter Tryz.func203, Tryz.ntmps203
  go_wp2_with (at_builtin; refine wpList_append_any _ rfl _ _ 26 rfl w.heap.size 131 i0 _ 2 16 Tryz.underlying26 HI.out.1 HI.out.2.1 HI.out.2.2.1 HI.out.2.2.2 rfl (by decide) _ 0 [] rfl HO.out (some ad) n c (flat n L) rfl HS.out (by unfold maxLen; omega) (by omega) (by simp) ?_; intro v3 w3 hgr; have HX := hid (clone_grew hgr); clear hgr)
  go_ret
  obtain ⟨A', c', rfl, hc⟩ := HX.out
  exact ⟨A', c', rfl, hc⟩

end Go.Proofs.YtablocpcgknmaaaGreatDoor

namespace Go.Proofs.YtablocpcgknmaaaGreatDoor
open Go.Lib (hid)
open Go.RowKit
set_option linter.unusedVariables false

theorem lvc_one (uA : Option Addr) (nU uC : Nat) (kA : Option Addr) (nK kC : Nat) (d x3 x4 x5 x6 x7 x8 : Int) : (lvc uA nU uC kA nK kC d x3 x4 x5 x6 x7 x8).toArray.all (·.oneCell') = true := by simp [Value.oneCell']
/-- What a function gives that makes levels. -/
def LvPost2 (w : World) (L : Lvl) (e : Ending) (w' : World) : Prop := ∃ uA uC kA kC, e = .returned (.agg (lvc uA L.nU uC kA L.nK kC L.d L.x3 L.x4 L.x5 L.x6 L.x7 L.x8).toArray) ∧ Rws w' uA L.nU uC 2 (rowU L.U) ∧ Rws w' kA L.nK kC 2 (rowK L.K) ∧ Below w.heap.size w w' ∧ New w L.nU uA ∧ New w L.nK kA
abbrev lzc : List Value := lvc none 0 0 none 0 0 0 0 0 0 0 0 0
set_option maxHeartbeats 2000000 in
theorem clone26 (uA : Option Addr) (nU uC : Nat) (kA : Option Addr) (nK kC : Nat) (U : Nat → ByteArray × Int) (K : Nat → Int × Int) (d x3 x4 x5 x6 x7 x8 : Int) (w : World)
  (hU : Rws w uA nU uC 2 (rowU U)) (hK : Rws w kA nK kC 2 (rowK K)) (bU : nU * 24 ≤ 140737488355328) (bK : nK * 16 ≤ 140737488355328) :
  Calls Tryz.prog 172 #[.agg (lvc uA nU uC kA nK kC d x3 x4 x5 x6 x7 x8).toArray] w (LvPost2 w ⟨nU, U, nK, K, d, x3, x4, x5, x6, x7, x8⟩) := by
 have B0 := hid (((Below.refl w.heap.size w).alloc (Nat.le_refl _) (.cells (lvc uA nU uC kA nK kC d x3 x4 x5 x6 x7 x8).toArray 28)).alloc (by simp) (.cells lzc.toArray 28))
 have X0 := hid ((blk_new w (lvc uA nU uC kA nK kC d x3 x4 x5 x6 x7 x8) 28).alloc (.cells lzc.toArray 28))
 have Y0 := hid (show Blk ((w.alloc (.cells (lvc uA nU uC kA nK kC d x3 x4 x5 x6 x7 x8).toArray 28)).alloc (.cells lzc.toArray 28)) (w.heap.size + 1) lzc 28 by
  have := blk_new (w.alloc (.cells (lvc uA nU uC kA nK kC d x3 x4 x5 x6 x7 x8).toArray 28)) lzc 28
  have e : (w.alloc (.cells (lvc uA nU uC kA nK kC d x3 x4 x5 x6 x7 x8).toArray 28)).heap.size = w.heap.size + 1 := by simp
  rw [e] at this
  exact this)
 have HU := hid hU
 have HK := hid hK
 have HbU := hid bU
 have HbK := hid bK
 clear hU hK bU bK
 show Calls Tryz.prog 172 #[.agg #[.slice uA nU uC, .slice kA nK kC, .int .i64 d, .int .i64 x3, .int .i64 x4, .int .i64 x5, .int .i64 x6, .int .i64 x7, .int .i64 x8]] w _
 go_enter Tryz.func172, Tryz.ntmps172
 go_wp2_with (first
  | (go_at_call 202; refine (clone31 uA nU uC (rowU U) _ (HU.out.below B0.out) HbU.out).mono ?_; rintro e w1 ⟨A1, c1, rfl, k1⟩; have K1 := hid k1; have X1 := hid (X0.out.below k1.bel); have Y1 := hid (Y0.out.below k1.bel); have B1 := hid (B0.out.trans (k1.bel.mono B0.out.size)); have i0 := X1.out.cell (i := 0) rfl; have i1 := X1.out.cell (i := 1) rfl; have z0 := X1.out.free 0; clear k1)
  | (go_at_call 203; refine (clone32 kA nK kC (rowK K) _ (HK.out.below (B1.out.setCell (p := ⟨w.heap.size, 0, none⟩) (Nat.le_refl _) _)) HbK.out).mono ?_; rintro e w2 ⟨A2, c2, rfl, k2⟩; have K2 := hid k2; have X2 := hid ((X1.out.set 0 (.slice A1 nU c1)).below k2.bel); have Y2 := hid ((Y1.out.other ⟨w.heap.size, 0, none⟩ (.slice A1 nU c1) (by simp)).below k2.bel); have B2 := hid ((B1.out.setCell (p := ⟨w.heap.size, 0, none⟩) (Nat.le_refl _) (.slice A1 nU c1)).trans (k2.bel.mono (by have := B1.out.size; simpa using this))); clear i0 i1 z0; have i1 := X2.out.cell (i := 1) rfl; have z1 := X2.out.free 1; clear k2)
  | (refine wpList_load_mid rfl 28 _ rfl w.heap.size 0 rfl (lvc A1 nU c1 A2 nK c2 d x3 x4 x5 x6 x7 x8) _ (X2.out.set 1 (.slice A2 nK c2)).range Tryz.underlying28 rfl size28 ?_)
  | (refine wpList_store_mid rfl 28 _ _ rfl (w.heap.size + 1) 0 (lvc A1 nU c1 A2 nK c2 d x3 x4 x5 x6 x7 x8).toArray rfl rfl (Blk.there (n := 9) (Y2.out.other ⟨w.heap.size, 1, none⟩ (.slice A2 nK c2) (by simp)) (by decide)) size28 (lvc_one _ _ _ _ _ _ _ _ _ _ _ _ _) ?_))
 (try simp only [Exit.inBlock, Exit.then])
 refine bodyPost_ret (results_cell_mid rfl _ _ (w.heap.size + 1) (lvc A1 nU c1 A2 nK c2 d x3 x4 x5 x6 x7 x8) 28 _ rfl ((Y2.out.other ⟨w.heap.size, 1, none⟩ (.slice A2 nK c2) (by simp)).setAll _ rfl) Tryz.underlying28 rfl size28) rfl ?_
 have hs : w.heap.size + 1 + 1 ≤ w1.heap.size := by have := K1.out.bel.size; simpa using this
 have R1 : Rws w1 A1 nU c1 2 (rowU U) := K1.out.rows HU.out
 have R1' : Rws (w1.setCell ⟨w.heap.size, 0, none⟩ (.slice A1 nU c1)) A1 nU c1 2 (rowU U) := R1.other _ _ (K1.out.new.ne (by simp <;> omega))
 have R2 : Rws w2 A1 nU c1 2 (rowU U) := R1'.below K2.out.bel
 have Q2 : Rws w2 A2 nK c2 2 (rowK K) := K2.out.rows HK.out
 refine ⟨A1, c1, A2, c2, rfl, ?_, ?_, below_setAll (by omega) _ _ _ (B2.out.setCell (Nat.le_refl _) _), K1.out.new.mono (by simp <;> omega), K2.out.new.mono (by simp <;> omega)⟩
 ·exact (R2.other _ _ (K1.out.new.ne (by simp <;> omega))).otherAll _ _ _ (K1.out.new.ne (by simp <;> omega))
 ·exact (Q2.other _ _ (K2.out.new.ne (by simp <;> omega))).otherAll _ _ _ (K2.out.new.ne (by simp <;> omega))

end Go.Proofs.YtablocpcgknmaaaGreatDoor

namespace Go.Proofs.YtablocpcgknmaaaGreatDoor
open Go.Lib (hid)
open Go.RowKit
set_option linter.unusedVariables false

theorem info9k : (Tryz.prog.info? 9).map (fun i => (i.zero, i.size, i.bytes)) = some (some (.string ByteArray.empty), 1, 16) := by kernel_rfl
set_option maxHeartbeats 1000000 in
theorem clone27 (A : Option Addr) (n c : Nat) (L : Nat → List Value) (w : World) (h : Rws w A n c 1 L) (hb : n * 16 ≤ 140737488355328) :
  Calls Tryz.prog 165 #[.slice A n c] w fun e w' => ∃ A' c', e = .returned (.slice A' n c') ∧ CopyR w w' 9 1 n L A' c' := by
 obtain ⟨i0, hi, hz0, hz1, hz2⟩ := info_parts info9k
 have HI := hid (And.intro hi (And.intro hz0 (And.intro hz1 hz2)))
 clear hi hz0 hz1 hz2
 have kn := fun (w : World) (a : Option Addr) (n c n' c' : Nat) => Lib.run_eql_slice_nil (P := Tryz.prog) w 24 9 a n c n' c' Tryz.underlying24
 cases A with
 | none =>
  obtain ⟨rfl, rfl⟩ := h.nil rfl
  clear h HI hb
  go_enter Tryz.func165, Tryz.ntmps165
  go_wp2
  go_ret
  exact ⟨none, 0, rfl, clone_nil w 9 1 L⟩
 | some ad =>
  have HS := hid (h.src.below ((Below.refl _ w).alloc (Nat.le_refl _) (.cells #[] 9)))
  have HO := hid (World.ownsRow_made (base := w.heap.size) (e := 9) (size := 1) w #[] 0 (Nat.le_refl _) (by decide) (by simp))
  clear h
  go_enter Tryz.func165, Tryz.ntmps165
  go_wp2_with (at_builtin; refine wpList_append_any _ rfl _ _ 24 rfl w.heap.size 9 i0 _ 1 16 Tryz.underlying24 HI.out.1 HI.out.2.1 HI.out.2.2.1 HI.out.2.2.2 rfl (by decide) _ 0 [] rfl HO.out (some ad) n c (flat n L) rfl HS.out (by unfold maxLen; omega) (by omega) (by simp) ?_; intro v3 w3 hgr; have HX := hid (clone_grew hgr); clear hgr)
  go_ret
  obtain ⟨A', c', rfl, hc⟩ := HX.out
  exact ⟨A', c', rfl, hc⟩

def rowS (zs : List ByteArray) (j : Nat) : List Value := [.string (zs.getD j ByteArray.empty)]
/-- The slice at A has n texts, which are zs. -/
structure Txs (w : World) (A : Option Addr) (n c : Nat) (zs : List ByteArray) : Prop where
 rws : Rws w A n c 1 (rowS zs)
 len : zs.length = n
 cap : n ≤ c
 fit : ∀ s ∈ zs, s.size ≤ 9223372036854775807
theorem Txs.below {w w1 : World} {A : Option Addr} {n c : Nat} {zs : List ByteArray} (h : Txs w A n c zs) (hb : Below w.heap.size w w1) : Txs w1 A n c zs := ⟨h.rws.below hb, h.len, h.cap, h.fit⟩
theorem Txs.strs {w : World} {A : Option Addr} {n c : Nat} {zs : List ByteArray} (h : Txs w A n c zs) : Strs w A n zs := by
 refine ⟨h.len, h.rws.big, h.fit, fun h0 => ?_⟩
 rcases h.rws.at_ with h1 | ⟨b, off, e, hlt, hc⟩
 ·omega
 ·exact ⟨b, off, e, hlt, fun i hi => by have := hc i hi 0 _ rfl; rw [Nat.mul_one, Nat.add_zero] at this; exact this⟩
theorem Txs.get {w : World} {A : Option Addr} {n c : Nat} {zs : List ByteArray} (h : Txs w A n c zs) {k : Nat} (hk : k < n) : ∃ b off, A = some ⟨b, off, none⟩ ∧ ∃ t : ByteArray, zs.getD k ByteArray.empty = t ∧ t.size ≤ 9223372036854775807 ∧ w.cell? ⟨b, off + k, none⟩ = some (.string t) := by
 obtain ⟨b, off, ha, t, ht, hs, _, hc⟩ := h.strs.str hk
 exact ⟨b, off, ha, t, ht.symm, hs, hc⟩
theorem Txs.nil (w : World) : Txs w none 0 0 [] := ⟨Rws.zero _ _ _ _ _ (fun _ => rfl), rfl, Nat.le_refl _, by simp⟩
theorem CopyR.txs {w w' : World} {n c c0 : Nat} {zs : List ByteArray} {A A0 : Option Addr} {w0 : World} (h : CopyR w w' 9 1 n (rowS zs) A c) (h0 : Txs w0 A0 n c0 zs) : Txs w' A n c zs := by
 refine ⟨h.rows h0.rws, h0.len, ?_, h0.fit⟩
 rcases h.own.2 with ⟨hv, h1⟩ | ⟨g, cap, cur, hv, _, _, hnc, _⟩
 ·omega
 ·simp only [Value.slice.injEq, true_and] at hv
  rw [hv.2]; exact hnc
/-- A content. -/
structure Ct where
 tx : ByteArray
 n : Int
 tg : Int
 th : Bool
 via : ByteArray
 nA : Nat
 al : List ByteArray
 nD : Nat
 dn : List ByteArray
 lv : Lvl
/-- Its cells. -/
abbrev ctc (tx : ByteArray) (n tg : Int) (th : Bool) (via : ByteArray) (aA : Option Addr) (nA aC : Nat) (dA : Option Addr) (nD dC : Nat) (uA : Option Addr) (nU uC : Nat) (kA : Option Addr) (nK kC : Nat) (d x3 x4 x5 x6 x7 x8 : Int) : List Value :=
 [.string tx, .int .i64 n, .int .i64 tg, .bool th, .string via, .slice aA nA aC, .slice dA nD dC, .slice uA nU uC, .slice kA nK kC, .int .i64 d, .int .i64 x3, .int .i64 x4, .int .i64 x5, .int .i64 x6, .int .i64 x7, .int .i64 x8]
/-- Where its lists lie. -/
structure Ads where
 aA : Option Addr
 aC : Nat
 dA : Option Addr
 dC : Nat
 uA : Option Addr
 uC : Nat
 kA : Option Addr
 kC : Nat
abbrev cells (C : Ct) (a : Ads) : List Value := ctc C.tx C.n C.tg C.th C.via a.aA C.nA a.aC a.dA C.nD a.dC a.uA C.lv.nU a.uC a.kA C.lv.nK a.kC C.lv.d C.lv.x3 C.lv.x4 C.lv.x5 C.lv.x6 C.lv.x7 C.lv.x8
/-- What stands behind them. -/
structure IsCt (w : World) (C : Ct) (a : Ads) : Prop where
 al : Txs w a.aA C.nA a.aC C.al
 dn : Txs w a.dA C.nD a.dC C.dn
 us : Rws w a.uA C.lv.nU a.uC 2 (rowU C.lv.U)
 ks : Rws w a.kA C.lv.nK a.kC 2 (rowK C.lv.K)
theorem IsCt.below {w w1 : World} {C : Ct} {a : Ads} (h : IsCt w C a) (hb : Below w.heap.size w w1) : IsCt w1 C a := ⟨h.al.below hb, h.dn.below hb, h.us.below hb, h.ks.below hb⟩
theorem size28c : (Tryz.prog.info? 30).map (·.size) = some 16 := by kernel_rfl
/-- The empty content. -/
def ct0 : Ct := ⟨⟨#[]⟩, 0, 0, false, ⟨#[]⟩, 0, [], 0, [], ⟨0, fun _ => (⟨#[]⟩, 0), 0, fun _ => (0, 0), 0, 0, 0, 0, 0, 0, 0⟩⟩
def ad0 : Ads := ⟨none, 0, none, 0, none, 0, none, 0⟩
end Go.Proofs.YtablocpcgknmaaaGreatDoor

namespace Go.Proofs.YtablocpcgknmaaaGreatDoor
open Go.Lib (hid)
open Go.RowKit
set_option linter.unusedVariables false

theorem Blk.thereAt {w : World} {t : Nat} {cs : List Value} {T : TypeId} (h : Blk w t cs T) (o n : Nat) (hn : o + n ≤ cs.length) : w.there t o n := fun j hj =>
 ⟨by rw [h.cell (List.getElem?_eq_getElem (by omega))]; rfl, h.free _⟩
theorem Blk.setEnd {w : World} {t : Nat} {pre post vs : List Value} {T : TypeId} (h : Blk w t (pre ++ post) T) (e : vs.length = post.length) : Blk (w.setCells t pre.length vs) t (pre ++ vs) T := set_all vs pre post w h e
theorem X3e {w : World} {t : Nat} {a b c d e f g : Value} {p vs : List Value} {T : TypeId} (h : Blk w t (a :: b :: c :: d :: e :: f :: g :: p) T) (hl : vs.length = p.length) : Blk (w.setCells t 7 vs) t (a :: b :: c :: d :: e :: f :: g :: vs) T :=
 Blk.setEnd (pre := [a, b, c, d, e, f, g]) (post := p) h hl
/-- Few enough to be copied. -/
structure Sm (C : Ct) : Prop where
 a : C.nA ≤ 100000
 d : C.nD ≤ 100000
 u : C.lv.nU ≤ 100000
 k : C.lv.nK ≤ 100000
/-- Its lists are not in the block g. -/
structure Apart (g : Nat) (C : Ct) (a : Ads) : Prop where
 al : 0 < C.nA → ∀ b off, a.aA = some ⟨b, off, none⟩ → b ≠ g
 dn : 0 < C.nD → ∀ b off, a.dA = some ⟨b, off, none⟩ → b ≠ g
 us : 0 < C.lv.nU → ∀ b off, a.uA = some ⟨b, off, none⟩ → b ≠ g
 ks : 0 < C.lv.nK → ∀ b off, a.kA = some ⟨b, off, none⟩ → b ≠ g
theorem IsCt.otherAll {w : World} {C : Ct} {a : Ads} (h : IsCt w C a) (g o : Nat) (vs : List Value) (hp : Apart g C a) : IsCt (w.setCells g o vs) C a :=
 ⟨⟨h.al.rws.otherAll g o vs hp.al, h.al.len, h.al.cap, h.al.fit⟩, ⟨h.dn.rws.otherAll g o vs hp.dn, h.dn.len, h.dn.cap, h.dn.fit⟩, h.us.otherAll g o vs hp.us, h.ks.otherAll g o vs hp.ks⟩
def CtP (w : World) (C : Ct) (e : Ending) (w' : World) : Prop := ∃ a, e = .returned (.agg (cells C a).toArray) ∧ IsCt w' C a ∧ (∀ g, g < w.heap.size → Apart g C a) ∧ Below w.heap.size w w'
theorem Txs.other {w : World} {A : Option Addr} {n c : Nat} {zs : List ByteArray} (h : Txs w A n c zs) (a : Addr) (v : Value) (hne : 0 < n → ∀ b off, A = some ⟨b, off, none⟩ → b ≠ a.block) : Txs (w.setCell a v) A n c zs := ⟨h.rws.other a v hne, h.len, h.cap, h.fit⟩
theorem Txs.otherAll {w : World} {A : Option Addr} {n c : Nat} {zs : List ByteArray} (h : Txs w A n c zs) (g o : Nat) (vs : List Value) (hne : 0 < n → ∀ b off, A = some ⟨b, off, none⟩ → b ≠ g) : Txs (w.setCells g o vs) A n c zs := ⟨h.rws.otherAll g o vs hne, h.len, h.cap, h.fit⟩
theorem store_mid_as {P : Program} {ops : Array Oper} {rest : List Oper} {op : Oper} {a : Act} {w : World} {Q : Exit → Act → World → Prop} (hgd : op.guard = none) (ty : TypeId) (x y : Operand) (ho : op.op = .store ty x y)
  (b o : Nat) (cells : Array Value) (hx : a.eval x = .pointer (some ⟨b, o, none⟩)) (hy : a.eval y = .agg cells)
  (ht : w.there b o cells.size) (hi : (P.info? ty).map (·.size) = some cells.size) (h1 : cells.all (·.oneCell') = true)
  (h : ∀ w4, w4 = w.setCells b o cells.toList → wpList P ops Q rest (a.put op.dst undef) w4) : wpList P ops Q (op :: rest) a w :=
 wpList_store_mid hgd ty x y ho b o cells hx hy ht hi h1 (h _ rfl)
abbrev c16 : List Value := [.string ⟨#[]⟩, .int .i64 0, .int .i64 0, .bool false, .string ⟨#[]⟩, .slice none 0 0, .slice none 0 0, .slice none 0 0, .slice none 0 0, .int .i64 0, .int .i64 0, .int .i64 0, .int .i64 0, .int .i64 0, .int .i64 0, .int .i64 0]
set_option maxHeartbeats 4000000 in
theorem clone22 (tx : ByteArray) (n tg : Int) (th : Bool) (via : ByteArray) (aA : Option Addr) (nA aC : Nat) (dA : Option Addr) (nD dC : Nat) (uA : Option Addr) (nU uC : Nat) (kA : Option Addr) (nK kC : Nat) (d x3 x4 x5 x6 x7 x8 : Int) (al dn : List ByteArray) (U : Nat → ByteArray × Int) (K : Nat → Int × Int) (w : World)
  (hA : Txs w aA nA aC al) (hD : Txs w dA nD dC dn) (hU : Rws w uA nU uC 2 (rowU U)) (hK : Rws w kA nK kC 2 (rowK K)) (hs : Sm ⟨tx, n, tg, th, via, nA, al, nD, dn, ⟨nU, U, nK, K, d, x3, x4, x5, x6, x7, x8⟩⟩) :
  Calls Tryz.prog 124 #[.agg (ctc tx n tg th via aA nA aC dA nD dC uA nU uC kA nK kC d x3 x4 x5 x6 x7 x8).toArray] w (CtP w ⟨tx, n, tg, th, via, nA, al, nD, dn, ⟨nU, U, nK, K, d, x3, x4, x5, x6, x7, x8⟩⟩) := by
 obtain ⟨s1, s2, s3, s4⟩ := hs
 have b1 : nA * 16 ≤ 140737488355328 := by simp at s1; omega
 have b2 : nD * 16 ≤ 140737488355328 := by simp at s2; omega
 have b3 : nU * 24 ≤ 140737488355328 := by simp at s3; omega
 have b4 : nK * 16 ≤ 140737488355328 := by simp at s4; omega
 have B0 := hid (((Below.refl w.heap.size w).alloc (Nat.le_refl _) (.cells (ctc tx n tg th via aA nA aC dA nD dC uA nU uC kA nK kC d x3 x4 x5 x6 x7 x8).toArray 30)).alloc (by simp) (.cells c16.toArray 30))
 have X0 := hid ((blk_new w (ctc tx n tg th via aA nA aC dA nD dC uA nU uC kA nK kC d x3 x4 x5 x6 x7 x8) 30).alloc (.cells c16.toArray 30))
 have Y0 := hid (show Blk ((w.alloc (.cells (ctc tx n tg th via aA nA aC dA nD dC uA nU uC kA nK kC d x3 x4 x5 x6 x7 x8).toArray 30)).alloc (.cells c16.toArray 30)) (w.heap.size + 1) c16 30 by
  have := blk_new (w.alloc (.cells (ctc tx n tg th via aA nA aC dA nD dC uA nU uC kA nK kC d x3 x4 x5 x6 x7 x8).toArray 30)) c16 30
  have e : (w.alloc (.cells (ctc tx n tg th via aA nA aC dA nD dC uA nU uC kA nK kC d x3 x4 x5 x6 x7 x8).toArray 30)).heap.size = w.heap.size + 1 := by simp
  rw [e] at this
  exact this)
 have HA := hid hA
 have HD := hid hD
 have HU := hid hU
 have HK := hid hK
 have HS := hid (And.intro b1 (And.intro b2 (And.intro b3 b4)))
 clear hA hD hU hK s1 s2 s3 s4 b1 b2 b3 b4
 show Calls Tryz.prog 124 #[.agg #[.string tx, .int .i64 n, .int .i64 tg, .bool th, .string via, .slice aA nA aC, .slice dA nD dC, .slice uA nU uC, .slice kA nK kC, .int .i64 d, .int .i64 x3, .int .i64 x4, .int .i64 x5, .int .i64 x6, .int .i64 x7, .int .i64 x8]] w _
 go_enter Tryz.func124, Tryz.ntmps124
 go_wp2_with (first
  | (go_at_call 165; (with_reducible refine (clone27 aA nA aC (rowS al) _ (HA.out.below B0.out).rws HS.out.1).mono ?_); rintro e w1 ⟨A1, c1, rfl, k1⟩; have K1 := hid k1; have X1 := hid (X0.out.below k1.bel); have Y1 := hid (Y0.out.below k1.bel); have B1 := hid (B0.out.trans (k1.bel.mono B0.out.size)); have i5 := X1.out.cell (i := 5) rfl; have i6 := X1.out.cell (i := 6) rfl; have z5 := X1.out.free 5; clear k1; have B1s := hid (B1.out.setCell (p := ⟨w.heap.size, 5, none⟩) (Nat.le_refl _) (.slice A1 nA c1)))
  | (go_at_call 165; refine (clone27 dA nD dC (rowS dn) _ (HD.out.below B1s.out).rws HS.out.2.1).mono ?_; rintro e w2 ⟨A2, c2, rfl, k2⟩; have K2 := hid k2; have X2 := hid ((X1.out.set 5 (.slice A1 nA c1)).below k2.bel); have Y2 := hid ((Y1.out.other ⟨w.heap.size, 5, none⟩ (.slice A1 nA c1) (by simp)).below k2.bel); have B2 := hid (B1s.out.trans (k2.bel.mono B1s.out.size)); clear i5 i6 z5; have i6 := X2.out.cell (i := 6) rfl; have z6 := X2.out.free 6; clear k2; have B2s := hid (B2.out.setCell (p := ⟨w.heap.size, 6, none⟩) (Nat.le_refl _) (.slice A2 nD c2)); have X2s := hid (X2.out.set 6 (.slice A2 nD c2)); have Y2s := hid (Y2.out.other ⟨w.heap.size, 6, none⟩ (.slice A2 nD c2) (by simp)))
  | (refine wpList_load_mid rfl 28 _ rfl w.heap.size 7 rfl (lvc uA nU uC kA nK kC d x3 x4 x5 x6 x7 x8) _ (X2s.out.mid 7 9) Tryz.underlying28 rfl size28 ?_)
  | (go_at_call 172; refine (clone26 uA nU uC kA nK kC U K d x3 x4 x5 x6 x7 x8 _ (HU.out.below B2s.out) (HK.out.below B2s.out) HS.out.2.2.1 HS.out.2.2.2).mono ?_; rintro e w3 ⟨A3, c3, A4, c4, rfl, k3, k4, kb, n3, n4⟩; have K3 := hid k3; have K4 := hid k4; have KB := hid kb; have N3 := hid n3; have N4 := hid n4; have X3 := hid (show Blk w3 w.heap.size (ctc tx n tg th via A1 nA c1 A2 nD c2 uA nU uC kA nK kC d x3 x4 x5 x6 x7 x8) 30 from X2s.out.below kb); have Y3 := hid (Y2s.out.below kb); have B3 := hid (B2s.out.trans (kb.mono B2s.out.size)); clear k3 k4 kb n3 n4 i6 z6)
  | (refine store_mid_as rfl 28 _ _ rfl w.heap.size 7 (lvc A3 nU c3 A4 nK c4 d x3 x4 x5 x6 x7 x8).toArray rfl rfl (X3.out.thereAt 7 9 (show (7 : Nat) + 9 ≤ 16 from by decide)) size28 (lvc_one _ _ _ _ _ _ _ _ _ _ _ _ _) ?_; intro w4 e4; have E4 : Hid (w4 = w3.setCells w.heap.size 7 (lvc A3 nU c3 A4 nK c4 d x3 x4 x5 x6 x7 x8)) := hid e4; clear e4; have X4 : Hid (Blk w4 w.heap.size (ctc tx n tg th via A1 nA c1 A2 nD c2 A3 nU c3 A4 nK c4 d x3 x4 x5 x6 x7 x8) 30) := hid (by rw [E4.out]; exact X3e (vs := lvc A3 nU c3 A4 nK c4 d x3 x4 x5 x6 x7 x8) X3.out rfl); have Y4 : Hid (Blk w4 (w.heap.size + 1) c16 30) := hid (by rw [E4.out]; exact Y3.out.otherAll w.heap.size 7 (lvc A3 nU c3 A4 nK c4 d x3 x4 x5 x6 x7 x8) (by omega)); have B4 : Hid (Below w.heap.size w w4) := hid (by rw [E4.out]; exact below_setAll (Nat.le_refl w.heap.size) (lvc A3 nU c3 A4 nK c4 d x3 x4 x5 x6 x7 x8) 7 _ B3.out); clear X3 Y3 B3)
  | (refine wpList_load_mid rfl 30 _ rfl w.heap.size 0 rfl (ctc tx n tg th via A1 nA c1 A2 nD c2 A3 nU c3 A4 nK c4 d x3 x4 x5 x6 x7 x8) _ X4.out.range Tryz.underlying30 rfl size28c ?_)
  | (refine wpList_store_mid rfl 30 _ _ rfl (w.heap.size + 1) 0 (ctc tx n tg th via A1 nA c1 A2 nD c2 A3 nU c3 A4 nK c4 d x3 x4 x5 x6 x7 x8).toArray rfl rfl (Blk.there (n := 16) Y4.out (by decide)) size28c (by simp [Value.oneCell']) ?_))
 (try simp only [Exit.inBlock, Exit.then])
 refine bodyPost_ret (results_cell_mid rfl _ _ (w.heap.size + 1) (ctc tx n tg th via A1 nA c1 A2 nD c2 A3 nU c3 A4 nK c4 d x3 x4 x5 x6 x7 x8) 30 _ rfl (Y4.out.setAll _ rfl) Tryz.underlying30 rfl size28c) rfl ?_
 have hs0 : w.heap.size + 1 + 1 ≤ w1.heap.size := by have := K1.out.bel.size; simpa using this
 have hs1 : w1.heap.size ≤ w2.heap.size := by have := K2.out.bel.size; simpa using this
 have hs2 : w2.heap.size ≤ w3.heap.size := by have := KB.out.size; simpa using this
 have q1 : 0 < nA → ∀ b off, A1 = some ⟨b, off, none⟩ → w.heap.size + 2 ≤ b := by intro h0 b off e; have := K1.out.new h0 b off e; simpa using this
 have q2 : 0 < nD → ∀ b off, A2 = some ⟨b, off, none⟩ → w.heap.size + 2 ≤ b := by intro h0 b off e; have := K2.out.new h0 b off e; simp at this; omega
 have q3 : 0 < nU → ∀ b off, A3 = some ⟨b, off, none⟩ → w.heap.size + 2 ≤ b := by intro h0 b off e; have := N3.out h0 b off e; simp at this; omega
 have q4 : 0 < nK → ∀ b off, A4 = some ⟨b, off, none⟩ → w.heap.size + 2 ≤ b := by intro h0 b off e; have := N4.out h0 b off e; simp at this; omega
 have T1 : Txs w1 A1 nA c1 al := K1.out.txs HA.out
 have T1s : Txs (w1.setCell ⟨w.heap.size, 5, none⟩ (.slice A1 nA c1)) A1 nA c1 al := T1.other _ _ (fun h0 b off e => by have := q1 h0 b off e; simp; omega)
 have T2 : Txs w2 A1 nA c1 al := T1s.below K2.out.bel
 have S2 : Txs w2 A2 nD c2 dn := K2.out.txs HD.out
 have T2s : Txs (w2.setCell ⟨w.heap.size, 6, none⟩ (.slice A2 nD c2)) A1 nA c1 al := T2.other _ _ (fun h0 b off e => by have := q1 h0 b off e; simp; omega)
 have S2s : Txs (w2.setCell ⟨w.heap.size, 6, none⟩ (.slice A2 nD c2)) A2 nD c2 dn := S2.other _ _ (fun h0 b off e => by have := q2 h0 b off e; simp; omega)
 have T3 := T2s.below KB.out
 have S3 := S2s.below KB.out
 have T4 : Txs w4 A1 nA c1 al := by rw [E4.out]; exact T3.otherAll _ _ _ (fun h0 b off e => by have := q1 h0 b off e; omega)
 have S4 : Txs w4 A2 nD c2 dn := by rw [E4.out]; exact S3.otherAll _ _ _ (fun h0 b off e => by have := q2 h0 b off e; omega)
 have U4 : Rws w4 A3 nU c3 2 (rowU U) := by rw [E4.out]; exact K3.out.otherAll _ _ _ (fun h0 b off e => by have := q3 h0 b off e; omega)
 have V4 : Rws w4 A4 nK c4 2 (rowK K) := by rw [E4.out]; exact K4.out.otherAll _ _ _ (fun h0 b off e => by have := q4 h0 b off e; omega)
 refine ⟨⟨A1, c1, A2, c2, A3, c3, A4, c4⟩, rfl, ⟨?_, ?_, ?_, ?_⟩, fun g hg => ⟨fun h0 b off e => by have := q1 h0 b off e; omega, fun h0 b off e => by have := q2 h0 b off e; omega, fun h0 b off e => by have := q3 h0 b off e; omega, fun h0 b off e => by have := q4 h0 b off e; omega⟩, below_setAll (by omega) _ _ _ B4.out⟩
 ·exact T4.otherAll _ _ _ (fun h0 b off e => by have := q1 h0 b off e; omega)
 ·exact S4.otherAll _ _ _ (fun h0 b off e => by have := q2 h0 b off e; omega)
 ·exact U4.otherAll _ _ _ (fun h0 b off e => by have := q3 h0 b off e; omega)
 ·exact V4.otherAll _ _ _ (fun h0 b off e => by have := q4 h0 b off e; omega)
end Go.Proofs.YtablocpcgknmaaaGreatDoor
