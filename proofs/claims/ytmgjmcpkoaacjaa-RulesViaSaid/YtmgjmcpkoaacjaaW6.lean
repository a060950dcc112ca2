/- The levels of a room that has no power event. -/
import Derived.Test.YtmgjmcpkoaacjaaW5
namespace Go.Proofs.Ytmgjmcpkoaacjaa
open Go.RowKit
set_option linter.unusedVariables false

theorem below_setCells {B b : Nat} {a : World} (hb : B ≤ b) : ∀ (vs : List Value) (o : Nat) (w : World), Below B a w → Below B a (w.setCells b o vs)
  | [], _, _, h => h
  | v :: r, o, w, h => below_setCells hb r (o + 1) _ (h.setCell (p := ⟨b, o, none⟩) hb v)
theorem there_row (w : World) (g : Nat) (C : Array Value) (t : TypeId) (n : Nat) (hg : w.heap[g]? = some (.cells C t (0, 0))) (hn : n ≤ C.size) : w.there g 0 n := fun j hj =>
  ⟨by rw [cell_of_row w g _ C t _ hg]; simp; omega, by simp [World.frozen?, hg]⟩
theorem results_cell_tmp_mid {P : Program} {fn : Func} {p u : Tmp} {ty : TypeId} (h : fn.results = #[.cell p ty, .tmp u]) (tmps : Array Value) (w : World) (b o : Nat) (cs : List Value) (d : TypeDesc)
    (hp : tmps.getD p undef = .pointer (some ⟨b, o, none⟩)) (hc : w.rangeAt b o cs) (hu : P.underlying ty = some d) (hd : d.isRow = true) (hi : (P.info? ty).map (·.size) = some cs.length) :
    (results fn tmps).run P w = .ok (.tuple #[.agg cs.toArray, tmps.getD u undef]) w := by
  rw [results_cell_tmp h, hp]
  simp [asAddr, Result.andThen, run_loadVar_mid w b o ty cs d hc hu hd hi]

theorem FirstPost.one {E : Nat → Ev} {k : Int} {n : Nat} {r s : Int} (h : FirstPost E k n r) (g : FirstPost E k n s) : r = s := by
  rcases h with ⟨i, hi, gi, li, rfl⟩ | ⟨hn, rfl⟩ <;> rcases g with ⟨j, hj, gj, lj, rfl⟩ | ⟨kn, rfl⟩
  · rcases Nat.lt_trichotomy i j with h | h | h
    · exact absurd gi (lj i h)
    · rw [h]
    · exact absurd gj (li j h)
  · exact absurd gi (kn i hi)
  · exact absurd gj (hn j hj)
  · rfl
theorem first_is (b off n c : Nat) (E : Nat → Ev) (k r : Int) (w : World) (hE : Evs w b off n E) (hr : FirstPost E k n r) :
    Calls Try.prog 25 #[.slice (some ⟨b, off, none⟩) n c, .int .i64 k] w fun e w' => e = .returned (.int .i64 r) ∧ Below w.heap.size w w' :=
  (first_any b off n c E k w hE).mono fun e w' ⟨s, he, hs, hb⟩ => ⟨by rw [he, hs.one hr], hb⟩

abbrev lvs (g : Nat) : List Value := [.slice (some ⟨g, 0, none⟩) 1 1, .slice none 0 0, .int .i64 0, .int .i64 0, .int .i64 0, .int .i64 0, .int .i64 50, .int .i64 50, .int .i64 50]
abbrev lz : Array Value := #[.slice none 0 0, .slice none 0 0, .int .i64 0, .int .i64 0, .int .i64 0, .int .i64 0, .int .i64 0, .int .i64 0, .int .i64 0]
theorem lvs_one (g : Nat) : (lvs g).toArray.all (·.oneCell') = true := by simp [Value.oneCell']
def OfLv (s : ByteArray) (w : World) (g : Nat) (w' : World) : Prop := w.heap.size ≤ g ∧ LvPost s w g w'

theorem lv_stored {w w2 w3 : World} {s : ByteArray} {g : Nat} (D : Below (w.alloc (.cells lz 28)).heap.size (w.alloc (.cells lz 28)) w2) (h : LvPost s w2 g w3) :
    OfLv s w g (w3.setCells w.heap.size 0 (lvs g)) := by
  have h0 : w.heap.size < w2.heap.size := Nat.lt_of_lt_of_le (by simp) D.size
  obtain ⟨hg, h1, h2, h3, h4⟩ := h
  have hne : g ≠ w.heap.size := by omega
  have B3 : Below w.heap.size w w3 := ((Below.refl _ w).alloc (Nat.le_refl _) _).trans ((D.mono (by simp)).trans (h4.mono (by omega)))
  have B4 := below_setCells (Nat.le_refl _) (lvs g) 0 w3 B3
  have hs := (below_setCells (B := 0) (a := w3) (b := w.heap.size) (Nat.zero_le _) (lvs g) 0 w3 (Below.refl 0 w3)).size
  refine ⟨by omega, by omega, Nat.lt_of_lt_of_le h1 hs, ?_, ?_, B4⟩
  · rw [World.cell?_setCells_out _ _ _ _ ⟨g, 0, none⟩ (fun e _ => absurd e hne)]; exact h2
  · rw [World.cell?_setCells_out _ _ _ _ ⟨g, 1, none⟩ (fun e _ => absurd e hne)]; exact h3

set_option maxHeartbeats 2000000 in
theorem levels_none (b off n c : Nat) (E : Nat → Ev) (s : ByteArray) (i : Nat) (w : World) (hE : Evs w b off n E) (hi : i < n) (h1 : FirstPost E 1 n i) (h3 : FirstPost E 3 n (-1)) (hs : (E i).snd = s) (hn : (s.toList == []) = false) :
    Calls Try.prog 19 #[.slice (some ⟨b, off, none⟩) n c] w fun e w' => ∃ g, e = .returned (.tuple #[lv g, .string s]) ∧ OfLv s w g w' := by
  have HW := Lib.hid (Below.alloc (Below.refl w.heap.size w) (Nat.le_refl _) (.cells lz 28))
  have HE0 := Lib.hid (hE.below HW.out)
  have HT := Lib.hid (show (w.alloc (.cells lz 28)).heap[w.heap.size]? = some (.cells lz 28 (0, 0)) from heap_alloc_new w _)
  have HL := Lib.hid (show w.heap.size < (w.alloc (.cells lz 28)).heap.size by simp)
  have H1 := Lib.hid h1
  have H3 := Lib.hid h3
  have HN := Lib.hid hn
  have HI := Lib.hid hi
  have HSn := Lib.hid hs
  have hii : (i : Int) < (n : Int) := by omega
  have hgi : decide ((0 : Int) ≤ (i : Int)) = true := by simp
  clear hE h1 h3 hn hi hs
  go_enter Try.func19, Try.ntmps19
  go_wp2_with (first
    | (go_at_call 25; (with_reducible refine (first_is b off n c E 1 i _ HE0.out H1.out).mono ?_); rintro e w1 ⟨rfl, hb1⟩; have D1 := Lib.hid hb1; have cs0 := ((HE0.out.below hb1).snd HI.out); rw [HSn.out] at cs0; clear hb1)
    | (go_at_call 25; (with_reducible refine (first_is b off n c E 3 (-1) _ (HE0.out.below D1.out) H3.out).mono ?_); rintro e w2 ⟨rfl, hb2⟩; have D2 := Lib.hid (D1.out.trans (hb2.mono D1.out.size)); clear hb2)
    | (go_at_call 27; refine (default_any s HN.out w2).mono ?_; rintro e w3 ⟨g, rfl, hl⟩; have HLv := Lib.hid hl; clear hl)
    | (refine wpList_store_mid rfl 28 _ _ rfl w.heap.size 0 (lvs g).toArray rfl rfl (there_row w3 w.heap.size lz 28 9 (((HLv.out.2.2.2.2).block _ (Nat.lt_of_lt_of_le HL.out D2.out.size)).trans ((D2.out.block _ HL.out).trans HT.out)) (by decide)) size28 (lvs_one g) ?_))
  (try simp only [Exit.inBlock, Exit.then])
  have hth : w3.there w.heap.size 0 9 := there_row w3 w.heap.size lz 28 9 (((HLv.out.2.2.2.2).block _ (Nat.lt_of_lt_of_le HL.out D2.out.size)).trans ((D2.out.block _ HL.out).trans HT.out)) (by decide)
  refine bodyPost_ret (results_cell_tmp_mid rfl _ _ w.heap.size 0 (lvs g) _ rfl (World.rangeAt_setCells_same _ _ _ _ hth) Try.underlying28 rfl size28) rfl ?_
  exact ⟨g, rfl, lv_stored D2.out HLv.out⟩

end Go.Proofs.Ytmgjmcpkoaacjaa
