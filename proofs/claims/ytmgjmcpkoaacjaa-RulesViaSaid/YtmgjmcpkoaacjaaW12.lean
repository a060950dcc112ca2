/- The rule and its copy of the rooms, called on any list of events; what stores into a copy leave. -/
import Derived.Test.YtmgjmcpkoaacjaaW11
import Derived.Test.YtmgjmcpkoaacjaaG2
import Derived.Lib.SmallJoins
namespace Go.Proofs.Ytmgjmcpkoaacjaa
open Go.RowKit
set_option linter.unusedVariables false

/-- A list of events, empty or not. -/
def EvsA (w : World) (A : Option Addr) (n : Nat) (E : Nat → Ev) : Prop := n = 0 ∨ ∃ b off, A = some ⟨b, off, none⟩ ∧ Evs w b off n E
theorem EvsA.below {w w1 : World} {A : Option Addr} {n : Nat} {E : Nat → Ev} (h : EvsA w A n E) (hb : Below w.heap.size w w1) : EvsA w1 A n E :=
  h.imp id fun ⟨b, off, e, h⟩ => ⟨b, off, e, h.below hb⟩
theorem EvsA.at_ {w : World} {A : Option Addr} {n : Nat} {E : Nat → Ev} (h : EvsA w A n E) {k : Nat} (hk : k < n) : ∃ b off, A = some ⟨b, off, none⟩ ∧ Evs w b off n E := by
  rcases h with rfl | h
  · omega
  · exact h

theorem of_zero (A : Option Addr) (c : Nat) (E : Nat → Ev) (Z : Nat → List ByteArray) (w : World) : Calls Try.prog 9 #[.slice A 0 c] w (OfPost E Z 0 w) := by
  go_enter Try.func9, Try.ntmps9
  go_wp2
  go_loopg [4, 7] 0 (fun gg _ s7 wr => s7 = .int .i64 (0 : Nat) ∧ w = wr)
  case atStart => exact ⟨rfl, rfl⟩
  case round =>
    obtain ⟨rfl, rfl⟩ := hrel
    go_wp2
    go_ret2
    exact .inr ⟨fun j hj => absurd hj (Nat.not_lt_zero _), rfl, Below.refl _ _⟩
theorem rof_zero (A : Option Addr) (c : Nat) (E : Nat → Ev) (Z : Nat → List ByteArray) (w : World) : Calls Try.prog 10 #[.slice A 0 c] w (OfPost E Z 0 w) := by
  go_enter Try.func10, Try.ntmps10
  go_wp2
  go_loopg [4] 0 (fun gg s4 wr => s4 = .int .i64 (0 : Nat) ∧ w = wr)
  case atStart => exact ⟨rfl, rfl⟩
  case round =>
    obtain ⟨rfl, rfl⟩ := hrel
    go_wp2
    go_ret2
    exact .inr ⟨fun j hj => absurd hj (Nat.not_lt_zero _), rfl, Below.refl _ _⟩
/-- What the statement asks of the events. -/
structure Few (w : World) (A : Option Addr) (n : Nat) (E : Nat → Ev) (Z : Nat → List ByteArray) : Prop where
  evs : EvsA w A n E
  txt : ∀ j, j < n → Texts w (E j).aA (E j).lA (Z j)
  nil : ∀ j, j < n → (E j).aA = none → (E j).lA = 0 ∧ (E j).cA = 0
theorem Few.below {w w1 : World} {A : Option Addr} {n : Nat} {E : Nat → Ev} {Z : Nat → List ByteArray} (h : Few w A n E Z) (hb : Below w.heap.size w w1) : Few w1 A n E Z :=
  ⟨h.evs.below hb, fun j hj => (h.txt j hj).below hb, h.nil⟩
theorem of_few {w : World} {A : Option Addr} {n : Nat} {E : Nat → Ev} {Z : Nat → List ByteArray} (c : Nat) (h : Few w A n E Z) : Calls Try.prog 9 #[.slice A n c] w (OfPost E Z n w) := by
  rcases h.evs with rfl | ⟨b, off, rfl, hE⟩
  · exact of_zero A c E Z w
  · exact of_any b off n c E Z w hE h.txt
theorem rof_few {w : World} {A : Option Addr} {n : Nat} {E : Nat → Ev} {Z : Nat → List ByteArray} (c : Nat) (h : Few w A n E Z) : Calls Try.prog 10 #[.slice A n c] w (OfPost E Z n w) := by
  rcases h.evs with rfl | ⟨b, off, rfl, hE⟩
  · exact rof_zero A c E Z w
  · exact rof_any b off n c E Z w hE h.txt h.nil

/-- A copy of `zs` at `A`. -/
structure CopyAt (w w' : World) (l : Nat) (zs : List ByteArray) (A : Option Addr) (c : Nat) : Prop where
  own : w'.ownsRow w.heap.size 9 1 (.slice A l c) l (zs.map Value.string)
  bel : Below w.heap.size w w'
theorem CopyPost.at_ {w w' : World} {l : Nat} {zs : List ByteArray} {v : Value} (h : CopyPost w l zs v w') : ∃ A c, v = .slice A l c ∧ CopyAt w w' l zs A c := by
  rcases Joins.ownsRow_forms h.1 with ⟨rfl, rfl⟩ | ⟨g, cap, rfl⟩
  · exact ⟨none, 0, rfl, h.1, h.2⟩
  · exact ⟨_, _, rfl, h.1, h.2⟩
theorem CopyAt.form {w w' : World} {l c : Nat} {zs : List ByteArray} {A : Option Addr} (h : CopyAt w w' l zs A c) : l = 0 ∨ ∃ g, A = some ⟨g, 0, none⟩ ∧ w.heap.size ≤ g ∧ g < w'.heap.size := by
  rcases h.own.2 with ⟨_, h0⟩ | ⟨g, cap, cur, hv, hb, hg, _⟩
  · exact .inl h0
  · right
    simp only [Value.slice.injEq] at hv
    refine ⟨g, hv.1, hb, ?_⟩
    have := h.own.lt g (by rw [hv.1]; rfl)
    exact this.2
theorem CopyAt.texts {w w' : World} {l c : Nat} {zs : List ByteArray} {A : Option Addr} (h : CopyAt w w' l zs A c) (hl : l * 16 ≤ 140737488355328) : Texts w' A l zs := by
  have hz : zs.length = l := by have := h.own.1; rw [List.length_map] at this; omega
  refine ⟨hz, hl, ?_⟩
  rcases h.form with h0 | ⟨g, rfl, _, hlt⟩
  · exact .inl h0
  · refine .inr ⟨g, 0, rfl, hlt, fun j hj => ?_⟩
    rw [Nat.zero_add, h.own.cellAt j (by omega), List.getElem?_map, List.getD_eq_getElem?_getD, List.getElem?_eq_getElem (by omega)]
    rfl
theorem of_yes {w : World} {A : Option Addr} {n : Nat} {E : Nat → Ev} {Z : Nat → List ByteArray} (F : Nat) (hF : F = 9 ∨ F = 10) (c k : Nat) (hk : k < n) (h4 : (E k).kd = 4) (hl : ∀ j, j < k → (E j).kd ≠ 4) (h : Few w A n E Z) :
    Calls Try.prog F #[.slice A n c] w fun e w' => ∃ A1 c1, e = .returned (.tuple #[.int .i64 (E k).n, .slice A1 (E k).lA c1]) ∧ CopyAt w w' (E k).lA (Z k) A1 c1 := by
  have key : Calls Try.prog F #[.slice A n c] w (OfPost E Z n w) := by
    rcases hF with rfl | rfl
    · exact of_few c h
    · exact rof_few c h
  refine key.mono fun e w' hp => ?_
  rcases hp with ⟨i, hi, i4, il, v, he, hc⟩ | ⟨hn, _⟩
  · obtain rfl : i = k := by
      rcases Nat.lt_trichotomy i k with h | h | h
      · exact absurd i4 (hl i h)
      · exact h
      · exact absurd h4 (il k h)
    obtain ⟨A1, c1, rfl, h1⟩ := hc.at_
    exact ⟨A1, c1, he, h1⟩
  · exact absurd h4 (hn k hk)
theorem of_no {w : World} {A : Option Addr} {n : Nat} {E : Nat → Ev} {Z : Nat → List ByteArray} (F : Nat) (hF : F = 9 ∨ F = 10) (c : Nat) (hn : ∀ j, j < n → (E j).kd ≠ 4) (h : Few w A n E Z) :
    Calls Try.prog F #[.slice A n c] w fun e w' => e = .returned (.tuple #[.int .i64 0, .slice none 0 0]) ∧ Below w.heap.size w w' := by
  have key : Calls Try.prog F #[.slice A n c] w (OfPost E Z n w) := by
    rcases hF with rfl | rfl
    · exact of_few c h
    · exact rof_few c h
  refine key.mono fun e w' hp => ?_
  rcases hp with ⟨i, hi, i4, il, v, he, hc⟩ | ⟨_, he, hb⟩
  · exact absurd i4 (hn i hi)
  · exact ⟨he, hb⟩
/-- A copy has been written into. -/
def Spoilt (w w' : World) (A : Option Addr) (l : Nat) : Prop := (l = 0 ∧ w = w') ∨ ∃ g, A = some ⟨g, 0, none⟩ ∧ Wrote w w' g l
theorem CopyAt.spoilt {w w' w2 : World} {l c : Nat} {zs : List ByteArray} {A : Option Addr} (h : CopyAt w w' l zs A c) (hb : Below w'.heap.size w' w2) : Spoilt w2 w2 A l := by
  rcases h.form with h0 | ⟨g, rfl, hg, hlt⟩
  · exact .inl ⟨h0, rfl⟩
  · have := (Wrote.start h.own).there
    refine .inr ⟨g, rfl, ⟨rfl, rfl, rfl, Nat.le_refl _, fun _ _ _ => rfl⟩, fun j hj => ?_⟩
    obtain ⟨h1, h2⟩ := this j (by omega)
    exact ⟨by rw [hb.cell (p := ⟨g, 0 + j, none⟩) hlt]; exact h1, by rw [hb.frozen (p := ⟨g, 0 + j, none⟩) hlt]; exact h2⟩
/-- The second copy is as it was, and so is what lay there before both. -/
theorem Spoilt.keeps {w w1 w2 w3 : World} {l c1 c2 : Nat} {zs : List ByteArray} {A1 A2 : Option Addr} (h : Spoilt w2 w3 A1 l) (c : CopyAt w w1 l zs A1 c1) (d : CopyAt w1 w2 l zs A2 c2) (hl : l * 16 ≤ 140737488355328) :
    Texts w3 A2 l zs ∧ Below w.heap.size w w3 ∧ w2.heap.size ≤ w3.heap.size := by
  have hB : Below w.heap.size w w2 := c.bel.trans (d.bel.mono c.bel.size)
  rcases h with ⟨h0, rfl⟩ | ⟨g, rfl, hw⟩
  · exact ⟨d.texts hl, hB, Nat.le_refl _⟩
  · have T := d.texts hl
    rcases c.form with h0 | ⟨g', e, hg, hlt⟩
    · exact ⟨⟨T.sz, T.le, .inl h0⟩, by
        have h1 : Below w.heap.size w w3 → Below w.heap.size w w3 := id
        rcases c.own.2 with ⟨hv, _⟩ | ⟨g2, _, _, hv, hgb, _⟩
        · cases hv
        · simp only [Value.slice.injEq, Option.some.injEq, Addr.mk.injEq] at hv
          exact hw.below hB (by omega), hw.grow.size⟩
    · cases e
      refine ⟨⟨T.sz, T.le, ?_⟩, hw.below hB hg, hw.grow.size⟩
      rcases d.form with h0 | ⟨g2, rfl, hg2, hlt2⟩
      · exact .inl h0
      · rcases T.at_ with h0 | ⟨b, off, e, hb, hc⟩
        · exact .inl h0
        · cases e
          refine .inr ⟨_, _, rfl, Nat.lt_of_lt_of_le hb hw.grow.size, fun j hj => ?_⟩
          rw [← hc j hj]
          exact hw.grow.cell_far _ hb (fun e => by simp only [Option.some.injEq] at e; omega)

end Go.Proofs.Ytmgjmcpkoaacjaa
