/- A copy of levels whose entries grow: its box and its two rows; the order of entries that are all different does not matter. -/
import Derived.Test.YthhmbcelicfopaaN13
namespace Go.Proofs.Ythhmbcelicfopaa
open Go.RowKit
set_option linter.unusedVariables false
structure TInv (w : World) (B t : Nat) (A1 : Option Addr) (l1 c1 : Nat) (A2 : Option Addr) (l2 c2 : Nat) (d x3 x4 x5 x6 x7 x8 : Int) (xs ys : List Value) : Prop where
  ct : Blk w t (lvc A1 l1 c1 A2 l2 c2 d x3 x4 x5 x6 x7 x8) 25
  o1 : w.ownsRow B 51 2 (.slice A1 l1 c1) l1 xs
  o2 : w.ownsRow B 54 2 (.slice A2 l2 c2) l2 ys
  hB : B ≤ t
section
variable {w w1 w3 : World} {B t : Nat} {A1 : Option Addr} {l1 c1 : Nat} {A2 : Option Addr} {l2 c2 : Nat} {d x3 x4 x5 x6 x7 x8 : Int} {xs ys : List Value}
theorem TInv.hS (h : TInv w B t A1 l1 c1 A2 l2 c2 d x3 x4 x5 x6 x7 x8 xs ys) : B ≤ w.heap.size := Nat.le_trans h.hB (Nat.le_of_lt h.ct.lt)
theorem TInv.below (h : TInv w B t A1 l1 c1 A2 l2 c2 d x3 x4 x5 x6 x7 x8 xs ys) (hb : Below w.heap.size w w1) : TInv w1 B t A1 l1 c1 A2 l2 c2 d x3 x4 x5 x6 x7 x8 xs ys :=
  ⟨h.ct.below hb, own_below h.o1 hb, own_below h.o2 hb, h.hB⟩
theorem TInv.ne1 (h : TInv w B t A1 l1 c1 A2 l2 c2 d x3 x4 x5 x6 x7 x8 xs ys) : (Value.slice A1 l1 c1).ownBlock ≠ some t := fun e => by
  obtain ⟨c, fz, hc⟩ := Lib.ownsRow_kind h.o1 t e
  rw [h.ct.heap] at hc
  cases hc
theorem TInv.ne2 (h : TInv w B t A1 l1 c1 A2 l2 c2 d x3 x4 x5 x6 x7 x8 xs ys) : (Value.slice A2 l2 c2).ownBlock ≠ some t := fun e => by
  obtain ⟨c, fz, hc⟩ := Lib.ownsRow_kind h.o2 t e
  rw [h.ct.heap] at hc
  cases hc
theorem TInv.ne21 (h : TInv w B t A1 l1 c1 A2 l2 c2 d x3 x4 x5 x6 x7 x8 xs ys) : (Value.slice A2 l2 c2).ownBlock = none ∨ (Value.slice A2 l2 c2).ownBlock ≠ (Value.slice A1 l1 c1).ownBlock := by
  cases h2 : (Value.slice A2 l2 c2).ownBlock with
  | none => exact .inl rfl
  | some g =>
    refine .inr fun e => ?_
    obtain ⟨c, fz, hc⟩ := Lib.ownsRow_kind h.o2 g h2
    obtain ⟨c', fz', hc'⟩ := Lib.ownsRow_kind h.o1 g e.symm
    rw [hc] at hc'
    cases hc'
theorem TInv.ne12 (h : TInv w B t A1 l1 c1 A2 l2 c2 d x3 x4 x5 x6 x7 x8 xs ys) : (Value.slice A1 l1 c1).ownBlock = none ∨ (Value.slice A1 l1 c1).ownBlock ≠ (Value.slice A2 l2 c2).ownBlock := by
  rcases h.ne21 with e | e
  · rw [e]
    cases (Value.slice A1 l1 c1).ownBlock with
    | none => exact .inl rfl
    | some g => exact .inr (fun e => by cases e)
  · exact .inr fun h => e h.symm
theorem TInv.pushed1 {v' : Value} {news : List Value} (h : TInv w B t A1 l1 c1 A2 l2 c2 d x3 x4 x5 x6 x7 x8 xs ys) (hg : Grew w w3 B 51 2 (.slice A1 l1 c1) v' (l1 + 1) (xs ++ news)) :
    ∃ A' c', v' = .slice A' (l1 + 1) c' ∧ TInv (w3.setCell ⟨t, 0, none⟩ (.slice A' (l1 + 1) c')) B t A' (l1 + 1) c' A2 l2 c2 d x3 x4 x5 x6 x7 x8 (xs ++ news) ys ∧ w.heap.size ≤ w3.heap.size ∧ Blk w3 t (lvc A1 l1 c1 A2 l2 c2 d x3 x4 x5 x6 x7 x8) 25 ∧ Below B w (w3.setCell ⟨t, 0, none⟩ (.slice A' (l1 + 1) c')) := by
  obtain ⟨A', c', rfl⟩ := own_slice hg.own
  have hna : (Value.slice A' (l1 + 1) c').ownBlock ≠ some t := by
    rcases hg.at_ with e | e <;> rw [e]
    · exact h.ne1
    · intro e2
      have := h.ct.lt
      simp only [Option.some.injEq] at e2
      omega
  have ht3 : Blk w3 t (lvc A1 l1 c1 A2 l2 c2 d x3 x4 x5 x6 x7 x8) 25 := ⟨(hg.grow.block t h.ct.lt (fun e => h.ne1 e.symm)).trans h.ct.heap⟩
  have hoth := (h.o2.kept hg.grow h.ne21).kept (grown_setCell w3 ⟨t, 0, none⟩ (.slice A' (l1 + 1) c')) (.inr h.ne2)
  have hown := hg.own.kept (grown_setCell w3 ⟨t, 0, none⟩ (.slice A' (l1 + 1) c')) (.inr hna)
  refine ⟨A', c', rfl, ⟨ht3.set 0 _, hown, hoth, h.hB⟩, hg.grow.size, ht3, ?_⟩
  exact Below.setCell (Below.grown (Below.refl B w) hg.grow h.hS (fun q hq => (h.o1.lt q hq).1)) h.hB _
theorem TInv.pushed2 {v' : Value} {news : List Value} (h : TInv w B t A1 l1 c1 A2 l2 c2 d x3 x4 x5 x6 x7 x8 xs ys) (hg : Grew w w3 B 54 2 (.slice A2 l2 c2) v' (l2 + 1) (ys ++ news)) :
    ∃ A' c', v' = .slice A' (l2 + 1) c' ∧ TInv (w3.setCell ⟨t, 1, none⟩ (.slice A' (l2 + 1) c')) B t A1 l1 c1 A' (l2 + 1) c' d x3 x4 x5 x6 x7 x8 xs (ys ++ news) ∧ w.heap.size ≤ w3.heap.size ∧ Blk w3 t (lvc A1 l1 c1 A2 l2 c2 d x3 x4 x5 x6 x7 x8) 25 ∧ Below B w (w3.setCell ⟨t, 1, none⟩ (.slice A' (l2 + 1) c')) := by
  obtain ⟨A', c', rfl⟩ := own_slice hg.own
  have hna : (Value.slice A' (l2 + 1) c').ownBlock ≠ some t := by
    rcases hg.at_ with e | e <;> rw [e]
    · exact h.ne2
    · intro e2
      have := h.ct.lt
      simp only [Option.some.injEq] at e2
      omega
  have ht3 : Blk w3 t (lvc A1 l1 c1 A2 l2 c2 d x3 x4 x5 x6 x7 x8) 25 := ⟨(hg.grow.block t h.ct.lt (fun e => h.ne2 e.symm)).trans h.ct.heap⟩
  have hoth := (h.o1.kept hg.grow h.ne12).kept (grown_setCell w3 ⟨t, 1, none⟩ (.slice A' (l2 + 1) c')) (.inr h.ne1)
  have hown := hg.own.kept (grown_setCell w3 ⟨t, 1, none⟩ (.slice A' (l2 + 1) c')) (.inr hna)
  refine ⟨A', c', rfl, ⟨ht3.set 1 _, hoth, hown, h.hB⟩, hg.grow.size, ht3, ?_⟩
  exact Below.setCell (Below.grown (Below.refl B w) hg.grow h.hS (fun q hq => (h.o2.lt q hq).1)) h.hB _
end
def rev {α : Type} (n : Nat) (U : Nat → α) : Nat → α := fun j => U (n - 1 - j)
def Apart (n : Nat) (p : Nat → Nat → Prop) (r : Nat) : Prop := ∀ i, r ≤ i → i < n → ∀ k, k < i → ¬ p k i
theorem rev_user {U : Nat → ByteArray × Int} {n : Nat} {x : ByteArray} {d r : Int} (h : UserPost U x n d r) (ha : Apart n (fun k i => (U k).1.toList = (U i).1.toList) 0) : UserPost (rev n U) x n d r := by
  rcases h with ⟨k, hk, hg, hl, rfl⟩ | ⟨hn, rfl⟩
  · refine .inl ⟨n - 1 - k, by omega, ?_, fun j hj => ?_, ?_⟩
    · show isU U x (n - 1 - (n - 1 - k)) = true
      rw [show n - 1 - (n - 1 - k) = k by omega]; exact hg
    · show isU U x (n - 1 - j) = false
      have h1 := ha (n - 1 - j) (by omega) (by omega) k (by omega)
      cases h2 : isU U x (n - 1 - j) with
      | false => rfl
      | true => exact absurd ((eq_of_beq hg).trans (eq_of_beq h2).symm) h1
    · show _ = (U (n - 1 - (n - 1 - k))).2
      rw [show n - 1 - (n - 1 - k) = k by omega]
  · exact .inr ⟨fun j hj => hn (n - 1 - j) (by omega), rfl⟩
theorem rev_need {K : Nat → Int × Int} {n : Nat} {k x3 x4 r : Int} (h : NeedPost K k n x3 x4 r) (ha : Apart n (fun k i => (K k).1 = (K i).1) 0) : NeedPost (rev n K) k n x3 x4 r := by
  rcases h with ⟨i, hi, hg, hl, rfl⟩ | ⟨hn, rfl⟩
  · refine .inl ⟨n - 1 - i, by omega, ?_, fun j hj => ?_, ?_⟩
    · show (K (n - 1 - (n - 1 - i))).1 = k
      rw [show n - 1 - (n - 1 - i) = i by omega]; exact hg
    · show (K (n - 1 - j)).1 ≠ k
      intro h2
      exact ha (n - 1 - j) (by omega) (by omega) i (by omega) (hg.trans h2.symm)
    · show _ = (K (n - 1 - (n - 1 - i))).2
      rw [show n - 1 - (n - 1 - i) = i by omega]
  · exact .inr ⟨fun j hj => hn (n - 1 - j) (by omega), rfl⟩
theorem rev_kinds {K : Nat → Int × Int} {n : Nat} (k : Int) : k ∈ kinds (rev n K) n ↔ k ∈ kinds K n := by
  unfold kinds
  simp only [List.mem_map, List.mem_range]
  constructor
  · rintro ⟨j, hj, e⟩
    exact ⟨n - 1 - j, by omega, e⟩
  · rintro ⟨j, hj, e⟩
    exact ⟨n - 1 - j, by omega, by show (K (n - 1 - (n - 1 - j))).1 = k; rw [show n - 1 - (n - 1 - j) = j by omega]; exact e⟩
theorem rev_ch {n m nK mK : Nat} {U V : Nat → ByteArray × Int} {K M : Nat → Int × Int} {us vs : ByteArray → Int} {nd ne : Int → Int} {f g : Nat → Int} {user : ByteArray} :
    ChOK n m nK mK (rev n U) V (rev nK K) M us vs nd ne f g user ↔ ChOK n m nK mK U V K M us vs nd ne f g user := by
  constructor
  · rintro ⟨h1, h2, h3, h4⟩
    refine ⟨h1, fun k hk => h2 k ?_, fun j hj => ?_, h4⟩
    · rw [List.mem_append] at hk ⊢; exact hk.imp (rev_kinds k).2 id
    · have := h3 (n - 1 - j) (by omega)
      unfold rev at this
      rw [show n - 1 - (n - 1 - j) = j by omega] at this
      exact this
  · rintro ⟨h1, h2, h3, h4⟩
    refine ⟨h1, fun k hk => h2 k ?_, fun j hj => h3 (n - 1 - j) (by omega), h4⟩
    rw [List.mem_append] at hk ⊢; exact hk.imp (rev_kinds k).1 id
theorem ch_refl2 (n nK : Nat) (U U2 : Nat → ByteArray × Int) (K K2 : Nat → Int × Int) (us : ByteArray → Int) (nd : Int → Int) (f : Nat → Int) (user : ByteArray) : true = true ↔ ChOK n n nK nK U U2 K K2 us us nd nd f f user := by
  have hm : ∀ x y : Int, mayN x x y = true := fun x y => by unfold mayN; simp
  have hg : ∀ x : ByteArray, goodU us us user x = true := fun x => by unfold goodU mayU; rw [hm]; simp
  exact ⟨fun _ => ⟨fun j _ => hm _ _, fun k _ => hm _ _, fun j _ => hg _, fun j _ => hg _⟩, fun _ => rfl⟩
theorem flat_rev_succ (n i : Nat) (L : Nat → List Value) (h : i < n) : flat (n - i) (rev n L) = flat (n - (i + 1)) (rev n L) ++ L i := by
  rw [show n - i = (n - (i + 1)) + 1 by omega, flat_succ]
  congr 1
  unfold rev
  rw [show n - 1 - (n - (i + 1)) = i by omega]
theorem rev_rowU (n : Nat) (U : Nat → ByteArray × Int) : rev n (rowU U) = rowU (rev n U) := rfl
theorem rev_rowK (n : Nat) (K : Nat → Int × Int) : rev n (rowK K) = rowK (rev n K) := rfl
theorem TInv.rowsU {w : World} {B t : Nat} {A1 : Option Addr} {n c1 : Nat} {A2 : Option Addr} {l2 c2 : Nat} {d x3 x4 x5 x6 x7 x8 : Int} {U : Nat → ByteArray × Int} {ys : List Value} (h : TInv w B t A1 n c1 A2 l2 c2 d x3 x4 x5 x6 x7 x8 (flat n (rowU U)) ys) (hm : n ≤ maxLen) : Rws w A1 n c1 2 (rowU U) :=
  own_rows h.o1 (fun j hj => rfl) (fun j hj v hv => by simp [rowU] at hv; rcases hv with rfl | rfl <;> rfl) hm
theorem TInv.rowsK {w : World} {B t : Nat} {A1 : Option Addr} {l1 c1 : Nat} {A2 : Option Addr} {n c2 : Nat} {d x3 x4 x5 x6 x7 x8 : Int} {K : Nat → Int × Int} {xs : List Value} (h : TInv w B t A1 l1 c1 A2 n c2 d x3 x4 x5 x6 x7 x8 xs (flat n (rowK K))) (hm : n ≤ maxLen) : Rws w A2 n c2 2 (rowK K) :=
  own_rows h.o2 (fun j hj => rfl) (fun j hj v hv => by simp [rowK] at hv; rcases hv with rfl | rfl <;> rfl) hm
end Go.Proofs.Ythhmbcelicfopaa
