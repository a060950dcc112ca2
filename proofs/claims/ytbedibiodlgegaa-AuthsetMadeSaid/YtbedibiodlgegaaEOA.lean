/- An argument that is a list of events, opened: its cells and its allowed rooms. -/
import Derived.Test.YtbedibiodlgegaaE1
import Derived.Test.YtbedibiodlgegaaG6
import Derived.Deep.Slices
import Derived.ChangeSame
import Derived.SliceStrings
import Derived.Lib.SliceRun
namespace Go.Proofs.Ytbedibiodlgegaa
open Go.RowKit Go.ChangeShapes Go.WideShapes
set_option linter.unusedVariables false
set_option maxRecDepth 100000

section
variable {H : Type} {en : TypeId × Value → H} {w : World} {base : Nat} {spare : Nat → Bool} {held : Bool}
theorem ce31 : Try.prog.cellsOf 22 = 1 := by kernel_rfl
theorem ce9 : Try.prog.cellsOf 9 = 1 := by kernel_rfl
theorem ce3 : Try.prog.cellsOf 3 = 1 := by kernel_rfl
theorem ce24 : Try.prog.cellsOf 24 = 1 := by kernel_rfl
theorem ce30 : Try.prog.cellsOf 30 = 16 := by kernel_rfl
theorem ce36 : Try.prog.cellsOf 34 = 29 := by kernel_rfl
/-- The strings at `A`, as they are read. -/
def TextsAt (w : World) (A : Option Addr) (l c : Nat) (zs : List ByteArray) : Prop :=
  (A = none ∧ l = 0 ∧ c = 0) ∨ ∃ a, A = some a ∧ l ≤ c ∧ (∀ i, i < l → w.cell? (a.add i) = some (.string (zs.getD i ByteArray.empty))) ∧ (∀ s ∈ zs, s.size ≤ maxLen) ∧ l ≤ zs.length
theorem ev_open {fuel : Nat} {cs : List Value} {y : DataW H × List MemPlace} (hl : cs.length = 29) (h : DataW.trod en Try.prog w base spare held fuel 34 cs = some y) :
    ∃ e : Ev, enc e = cs ∧ ∃ Z, TextsAt w e.aA e.lA e.cA Z := by
  obtain ⟨xs, n, _, _, _, hxl, hf⟩ := DataW.trod_struct Try.underlying34 h
  match cs, hl with
  | [v0, v1, v2, v3, v4, v5, v6, v7, v8, v9, v10, v11, v12, v13, v14, v15, v16, v17, v18, v19, v20, v21, v22, v23, v24, v25, v26, v27, v28], _ =>
    have g2 : DataW.trod en Try.prog w base spare held n 9 (List.take (Try.prog.cellsOf 9) (List.drop 2 [v0, v1, v2, v3, v4, v5, v6, v7, v8, v9, v10, v11, v12, v13, v14, v15, v16, v17, v18, v19, v20, v21, v22, v23, v24, v25, v26, v27, v28])) = xs[2]? := hf 2 _ rfl
    have g3 : DataW.trod en Try.prog w base spare held n 22 (List.take (Try.prog.cellsOf 22) (List.drop 3 [v0, v1, v2, v3, v4, v5, v6, v7, v8, v9, v10, v11, v12, v13, v14, v15, v16, v17, v18, v19, v20, v21, v22, v23, v24, v25, v26, v27, v28])) = xs[3]? := hf 3 _ rfl
    have g5 : DataW.trod en Try.prog w base spare held n 9 (List.take (Try.prog.cellsOf 9) (List.drop 5 [v0, v1, v2, v3, v4, v5, v6, v7, v8, v9, v10, v11, v12, v13, v14, v15, v16, v17, v18, v19, v20, v21, v22, v23, v24, v25, v26, v27, v28])) = xs[5]? := hf 5 _ rfl
    have g10 : DataW.trod en Try.prog w base spare held n 30 (List.take (Try.prog.cellsOf 30) (List.drop 10 [v0, v1, v2, v3, v4, v5, v6, v7, v8, v9, v10, v11, v12, v13, v14, v15, v16, v17, v18, v19, v20, v21, v22, v23, v24, v25, v26, v27, v28])) = xs[10]? := hf 10 _ rfl
    have l13 : xs.length = 13 := hxl
    rw [List.getElem?_eq_getElem (by omega)] at g2 g3 g5 g10
    rw [ce9] at g2 g5
    rw [ce31] at g3
    rw [ce30] at g10
    obtain ⟨s2, e2, _⟩ := DataW.trod_string Try.underlying9 g2
    obtain ⟨k3, e3, _⟩ := DataW.trod_int Try.underlying22 g3
    obtain ⟨s5, e5, _⟩ := DataW.trod_string Try.underlying9 g5
    obtain ⟨ys, m, _, _, _, hyl, hg⟩ := DataW.trod_struct Try.underlying30 g10
    have l8 : ys.length = 8 := hyl
    have q1 : DataW.trod en Try.prog w base spare held m 3 (List.take (Try.prog.cellsOf 3) (List.drop 1 [v10, v11, v12, v13, v14, v15, v16, v17, v18, v19, v20, v21, v22, v23, v24, v25])) = ys[1]? := hg 1 _ rfl
    have q5 : DataW.trod en Try.prog w base spare held m 24 (List.take (Try.prog.cellsOf 24) (List.drop 5 [v10, v11, v12, v13, v14, v15, v16, v17, v18, v19, v20, v21, v22, v23, v24, v25])) = ys[5]? := hg 5 _ rfl
    rw [List.getElem?_eq_getElem (by omega)] at q1 q5
    rw [ce3] at q1
    rw [ce24] at q5
    obtain ⟨k11, e11, _⟩ := DataW.trod_int Try.underlying3 q1
    have f2 : v2 = .string s2 := by simpa using e2
    have f3 : v3 = .int .i64 k3 := by simpa using e3
    have f5 : v5 = .string s5 := by simpa using e5
    have f11 : v11 = .int .i64 k11 := by simpa using e11
    rcases open_strings Try.underlying24 Try.underlying9 (by kernel_rfl) q5 with ⟨hcs, _⟩ | ⟨a, l, c, zs, hcs, _, hlc, hm, hz, _, hcell, hwz⟩
    · have f15 : v15 = .slice none 0 0 := by simpa using hcs
      subst f2 f3 f5 f11 f15
      exact ⟨⟨v0, v1, s2, k3, v4, s5, v6, v7, v8, v9, v10, k11, v12, v13, v14, none, 0, 0, v16, v17, v18, v19, v20, v21, v22, v23, v24, v25, v26, v27, v28⟩, rfl, [], .inl ⟨rfl, rfl, rfl⟩⟩
    · have f15 : v15 = .slice (some a) l c := by simpa using hcs
      subst f2 f3 f5 f11 f15
      have hlz : l ≤ zs.length := by rw [hz]; split <;> omega
      exact ⟨⟨v0, v1, s2, k3, v4, s5, v6, v7, v8, v9, v10, k11, v12, v13, v14, some a, l, c, v16, v17, v18, v19, v20, v21, v22, v23, v24, v25, v26, v27, v28⟩, rfl, zs, .inr ⟨a, rfl, hlc, fun i hi => hcell i (Nat.lt_of_lt_of_le hi hlz), hwz, hlz⟩⟩
/-- A LIST OF EVENTS that is not empty: where its cells lie, and what each event's allowed rooms are. -/
theorem open_events {fuel : Nat} {A : Option Addr} {len cap : Nat} {x : DataW H × List MemPlace} (h : DataW.trod en Try.prog w base spare held fuel 44 [.slice A len cap] = some x) (h0 : 0 < len) :
    len ≤ cap ∧ ∃ (b off : Nat) (E : Nat → Ev) (Z : Nat → List ByteArray), A = some ⟨b, off, none⟩ ∧ Evs w b off len E ∧ ∀ j, j < len → TextsAt w (E j).aA (E j).lA (E j).cA (Z j) := by
  rcases Go.Deep.open_slice Try.underlying44 h with ⟨hcs, _⟩ | ⟨a, l, c, m, n, D, Pl, hcs, hb, hl, hm, hmm, hx, hi⟩
  · simp at hcs; omega
  · simp at hcs
    obtain ⟨rfl, rfl, rfl⟩ := hcs
    have hlm : len ≤ m := by rw [hmm]; split <;> omega
    have each : ∀ i, i < len → ∃ q : Ev × List ByteArray, (∀ k v, (enc q.1)[k]? = some v → w.cell? (a.add (i * 29 + k)) = some v) ∧ TextsAt w q.1.aA q.1.lA q.1.cA q.2 := by
      intro i hil
      obtain ⟨cs', h1, h2⟩ := hi i (by omega)
      rw [ce36] at h1
      obtain ⟨_, hlen, hcell⟩ := World.cells?_some h1
      obtain ⟨e, he, Z, hZ⟩ := ev_open hlen h2
      refine ⟨(e, Z), fun k v hv => ?_, hZ⟩
      have hv' : cs'[k]? = some v := by rw [← he]; exact hv
      have hk : k < 29 := by rw [← hlen]; exact (List.getElem?_eq_some_iff.1 hv').1
      rw [← Go.Deep.add_add, hcell k hk]
      exact hv'
    obtain ⟨b, off, sp⟩ := a
    have hsp : sp = none := by
      obtain ⟨q, hq, _⟩ := each 0 h0
      simpa [Addr.add] using World.cell?_spot (hq 0 _ rfl)
    subst hsp
    have hlt : b < w.heap.size := by
      obtain ⟨q, hq, _⟩ := each 0 h0
      exact World.block_lt_of_cell? w _ (hq 0 _ rfl)
    have pick : ∃ F : Nat → Ev × List ByteArray, ∀ i, i < len → (∀ k v, (enc (F i).1)[k]? = some v → w.cell? ((⟨b, off, none⟩ : Addr).add (i * 29 + k)) = some v) ∧ TextsAt w (F i).1.aA (F i).1.lA (F i).1.cA (F i).2 :=
      ⟨fun i => if hi : i < len then Classical.choose (each i hi) else Classical.choose (each 0 h0), fun i hi => by
        simp only [hi, dif_pos]
        exact Classical.choose_spec (each i hi)⟩
    obtain ⟨F, hF⟩ := pick
    unfold maxLen at hm
    refine ⟨hl, b, off, fun i => (F i).1, fun i => (F i).2, rfl, ⟨hlt, by omega, fun j hj i v hv => ?_⟩, fun j hj => (hF j hj).2⟩
    have := (hF j hj).1 i v hv
    rw [Addr.add_lit, ← Nat.add_assoc] at this
    exact this
end
end Go.Proofs.Ytbedibiodlgegaa
