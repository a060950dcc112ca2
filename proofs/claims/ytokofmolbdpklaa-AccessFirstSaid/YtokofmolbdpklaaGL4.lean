/- The walk of cut: the pieces of a pattern between its stars. -/
import Derived.Test.YtokofmolbdpklaaGL3
import Derived.OwnWalk
import Derived.Laws.OwnMore
namespace Go.Proofs.Ytokofmolbdpklaa.GL
open Go.RowKit
set_option linter.unusedVariables false

theorem info35 : (Try.prog.info? 69).map (fun i => (i.zero, i.size, i.bytes)) = some (some (.slice none 0 0), 1, 24) := by kernel_rfl

structure Cuts (w : World) (zs : List Int) (k f : Nat) (ps : List (List Int)) (xs : List Value) : Prop where
  len : xs.length = ps.length
  own : ∀ i, i < ps.length → ∃ a l c, xs[i]? = some (.slice a l c) ∧ Byt w a l (ps.getD i [])
  cut : zs.take k = G.whole ps ((zs.take k).drop f)
  le : f ≤ k
  no : ∀ x ∈ ps, ∀ c ∈ x, c ≠ 42
  nol : ∀ c ∈ (zs.take k).drop f, c ≠ 42
  many : ps.length ≤ k

theorem own_shape {w : World} {base : Nat} {e : TypeId} {size : Nat} {v : Value} {n : Nat} {xs : List Value} (h : w.ownsRow base e size v n xs) : ∃ A c, v = .slice A n c := by
  rcases h.2 with ⟨rfl, rfl⟩ | ⟨g, cap, cur, rfl, _⟩
  · exact ⟨none, 0, rfl⟩
  · exact ⟨_, _, rfl⟩
theorem Cuts.start (w : World) (zs : List Int) : Cuts w zs 0 0 [] [] :=
  ⟨rfl, fun i hi => by simp at hi, by simp [G.whole], by omega, by simp, by simp, Nat.le_refl _⟩
theorem take_snoc (zs : List Int) (k : Nat) (z : Int) (hk : k < zs.length) (hz : zs.getD k 0 = z) : zs.take (k + 1) = zs.take k ++ [z] := by
  rw [List.take_succ_eq_append_getElem hk, ← hz, List.getD_eq_getElem?_getD, List.getElem?_eq_getElem hk]; rfl
theorem Cuts.skip {w : World} {zs : List Int} {k f : Nat} {ps : List (List Int)} {xs : List Value} (h : Cuts w zs k f ps xs) (hk : k < zs.length) (z : Int) (hz : zs.getD k 0 = z) (hn : z ≠ 42) :
    Cuts w zs (k + 1) f ps xs := by
  obtain ⟨h1, h2, h3, h4, h5, h6, h7⟩ := h
  have e := take_snoc zs k z hk hz
  have e2 : (zs.take (k + 1)).drop f = (zs.take k).drop f ++ [z] := by
    rw [e, List.drop_append_of_le_length (by rw [List.length_take]; omega)]
  refine ⟨h1, h2, ?_, by omega, h5, ?_, by omega⟩
  · rw [e2, e]
    conv => lhs; rw [h3]
    unfold G.whole
    rw [List.append_assoc]
  · rw [e2]
    intro c hc
    rcases List.mem_append.1 hc with hc | hc
    · exact h6 c hc
    · simp at hc; omega
theorem Cuts.star {w : World} {zs : List Int} {k f : Nat} {ps : List (List Int)} {xs : List Value} (h : Cuts w zs k f ps xs) (hk : k < zs.length) (hz : zs.getD k 0 = 42)
    (a : Option Addr) (l c : Nat) (hb : Byt w a l ((zs.take k).drop f)) : Cuts w zs (k + 1) (k + 1) (ps ++ [(zs.take k).drop f]) (xs ++ [.slice a l c]) := by
  obtain ⟨h1, h2, h3, h4, h5, h6, h7⟩ := h
  have e := take_snoc zs k 42 hk hz
  have e2 : (zs.take (k + 1)).drop (k + 1) = [] := by rw [List.drop_eq_nil_iff, List.length_take]; omega
  refine ⟨by simp [h1], fun i hi => ?_, ?_, Nat.le_refl _, ?_, by rw [e2]; simp, by simp; omega⟩
  · by_cases hlt : i < ps.length
    · obtain ⟨a', l', c', e1, hb'⟩ := h2 i hlt
      refine ⟨a', l', c', by rw [List.getElem?_append_left (by omega)]; exact e1, ?_⟩
      rw [List.getD_eq_getElem?_getD, List.getElem?_append_left hlt, ← List.getD_eq_getElem?_getD]; exact hb'
    · have : i = ps.length := by simp at hi; omega
      subst this
      refine ⟨a, l, c, by rw [← h1]; simp, ?_⟩
      rw [List.getD_eq_getElem?_getD]; simpa using hb
  · rw [e2, G.whole_snoc, e]
    conv => lhs; rw [h3]
    unfold G.whole
    rw [List.append_assoc]
  · intro x hx
    rcases List.mem_append.1 hx with hx | hx
    · exact h5 x hx
    · simp at hx; subst hx; exact h6
theorem Byt.part {w : World} {b o len : Nat} {zs : List Int} (h : Byt w (some ⟨b, o, none⟩) len zs) (f k : Nat) (hf : f ≤ k) (hk : k ≤ len) :
    Byt w (some ⟨b, o + f, none⟩) (k - f) ((zs.take k).drop f) := by
  obtain ⟨h1, h2, h3, h4⟩ := h
  refine ⟨by rw [List.length_drop, List.length_take]; omega, fun z hz => h2 z (List.mem_of_mem_take (List.mem_of_mem_drop hz)), by omega, fun h0 => ?_⟩
  obtain ⟨b', off', e, hl, hc⟩ := h4 (by omega)
  injection e with e
  injection e with e1 e2
  subst e1 e2
  refine ⟨b, o + f, rfl, hl, fun i hi => ?_⟩
  rw [show o + f + i = o + (f + i) by omega, hc (f + i) (by omega), List.getD_eq_getElem?_getD, List.getD_eq_getElem?_getD, List.getElem?_drop, List.getElem?_take, if_pos (by omega)]

/-- What cut leaves: the pieces, each a slice of the pattern's bytes, in a row of its own. -/
def CutPost (w : World) (zs : List Int) (e : Ending) (w' : World) : Prop :=
  ∃ (ps : List (List Int)) (last : List Int) (g c : Nat), e = .returned (.slice (some ⟨g, 0, none⟩) (ps.length + 1) c) ∧ zs = G.whole ps last ∧ (∀ x ∈ ps, ∀ c ∈ x, c ≠ 42) ∧ (∀ c ∈ last, c ≠ 42) ∧
    ps.length ≤ zs.length ∧ ps.length + 1 ≤ c ∧ w.heap.size ≤ g ∧ g < w'.heap.size ∧ (∀ i, i < ps.length + 1 → ∃ a l c, w'.cell? ⟨g, i, none⟩ = some (.slice a l c) ∧ Byt w a l ((ps ++ [last]).getD i [])) ∧ Below w.heap.size w w'
theorem cut_fin {w w1 : World} {zs : List Int} {k f : Nat} {ps : List (List Int)} {xs : List Value} {a : Option Addr} {l c : Nat} {v : Value} (h : Cuts w zs k f ps xs) (hk : zs.length ≤ k)
    (ho : w1.ownsRow w.heap.size 69 1 v (ps.length + 1) (xs ++ [.slice a l c])) (hv : v ≠ .slice none 0 0) (hb : Byt w a l (zs.drop f)) (hw : Below w.heap.size w w1) : CutPost w zs (.returned v) w1 := by
  obtain ⟨h1, h2, h3, h4, h5, h6, h7⟩ := h
  have ht : zs.take k = zs := List.take_of_length_le hk
  rw [ht] at h3 h6
  obtain ⟨hl, hr⟩ := ho
  rcases hr with ⟨hn, _⟩ | ⟨g, cap, cur, rfl, hg, hh, hnc, hcm, hcs, htk⟩
  · exact absurd hn hv
  · have hle : ps.length ≤ zs.length := by
      have := congrArg List.length h3
      have h8 : ∀ (qs : List (List Int)) (r : List Int), qs.length ≤ (G.whole qs r).length := by
        intro qs r
        induction qs with
        | nil => simp
        | cons x qs ih => rw [G.whole_cons]; simp; omega
      rw [this]; exact h8 _ _
    refine ⟨ps, zs.drop f, g, cap, rfl, h3, h5, h6, hle, hnc, hg, lt_of_block hh, fun i hi => ?_, hw⟩
    have hc : w1.cell? ⟨g, i, none⟩ = (xs ++ [Value.slice a l c])[i]? :=
      World.ownsRow.cellAt (base := w.heap.size) (e := 69) (size := 1) (cap := cap) ⟨hl, .inr ⟨g, cap, cur, rfl, hg, hh, hnc, hcm, hcs, htk⟩⟩ i (by omega)
    by_cases hlt : i < ps.length
    · obtain ⟨a', l', c', e1, hb'⟩ := h2 i hlt
      refine ⟨a', l', c', by rw [hc, List.getElem?_append_left (by omega)]; exact e1, ?_⟩
      rw [List.getD_eq_getElem?_getD, List.getElem?_append_left hlt, ← List.getD_eq_getElem?_getD]; exact hb'
    · have : i = ps.length := by omega
      subst this
      refine ⟨a, l, c, by rw [hc, ← h1]; simp, ?_⟩
      rw [List.getD_eq_getElem?_getD]; simpa using hb

set_option maxHeartbeats 800000 in
theorem cut_any (a : Option Addr) (len cap : Nat) (zs : List Int) (w : World) (h : Byt w a len zs) (hc : len ≤ cap) (hm : len ≤ 64) :
    Calls Try.prog 36 #[.slice a len cap] w (CutPost w zs) := by
  have HL := Lib.hid h.1
  have H := Lib.hid h
  clear h
  obtain ⟨i0, hi, hz0, hz1, hz2⟩ := info_parts info35
  go_enter Try.func36, Try.ntmps36
  go_wp2
  go_loopw [3, 4, 5, 6, 10] (fun v u _ _ i wr => ∃ (k f : Nat) (ps : List (List Int)) (xs : List Value), k ≤ len ∧ i = .int .i64 k ∧ f ≤ k ∧ u = .int .i64 f ∧ Hid (Cuts w zs k f ps xs) ∧ Hid (wr.ownsRow w.heap.size 69 1 v ps.length xs) ∧ v ≠ .slice none 0 0 ∧ Hid (Below w.heap.size w wr)) (fun _ _ _ _ i _ => len - (intOf i).toNat)
  case atStart =>
    exact ⟨0, 0, [], [], by omega, rfl, by omega, rfl, Lib.hid (Cuts.start w zs), Lib.hid (World.ownsRow_lit w #[] 0 (Nat.le_refl _) (by decide) rfl), by simp, Lib.hid ((Below.refl _ _).alloc (Nat.le_refl _) _)⟩
  case round =>
    obtain ⟨k, f, ps, xs, hk, rfl, hf, rfl, HC, HW, hnn, HB⟩ := hrel
    obtain ⟨A, C, rfl⟩ := own_shape HW.out
    have Hnn := Lib.hid hnn
    have hpk := HC.out.many
    clear hnn
    by_cases hlt : k < len
    · obtain ⟨b, o, rfl, z, hz, hzk, hcell0⟩ := H.out.byte hlt
      have hcell := (HB.out.cell (p := ⟨b, o + k, none⟩) (World.block_lt_of_cell? w ⟨b, o + k, none⟩ hcell0)).trans hcell0
      have HZK := Lib.hid hzk
      clear hcell0 hzk
      by_cases hs : z = 42
      · have e1 : ((z : Int) == 42) = true := beq_iff_eq.2 (by omega)
        have HS := Lib.hid hs
        clear hs
        rcases Nat.lt_or_ge f k with hfk | hfk
        · have hfk2 : ¬ k = f := by omega
          go_wp2_with (at_builtin; refine wpList_append_own _ rfl _ _ 67 rfl w.heap.size 69 i0 (.slice none 0 0) 1 24 Try.underlying67 hi hz0 hz1 hz2 rfl (by decide) _ _ _ rfl (HW.out.alloc _) ⟨wr.heap.size, 0, none⟩ 1 1 [.slice (some ⟨b, o + f, none⟩) (k - f) (k - f)] rfl rfl ?c1 ?c2 ?c3 ?c4 ?c5 ?_)
          case c1 =>
            intro j u hj
            match j, hj with
            | 0, hj => simp at hj; subst hj; simp [Addr.add]
          case c2 => intro u hu; simp at hu; subst hu; rfl
          case c3 => unfold maxLen; omega
          case c4 => omega
          case c5 => have := HB.out.size; simp; omega
          intro v1 w1 hown1 hg1 hn1
          have R := Lib.hid hown1
          have hv1 : v1 ≠ .slice none 0 0 := fun e => hn1 e
          have B1 := Lib.hid ((HB.out.alloc HB.out.size (.cells #[.slice (some ⟨b, o + f, none⟩) (k - f) (k - f)] 69)).grown hg1 (by have := HB.out.size; simp; omega) (fun j hj => (HW.out.lt j hj).1))
          clear hown1 hg1 hn1
          go_wp2
          go_roundw
          case rel => exact ⟨k + 1, k + 1, _, _, by omega, by go_num, by omega, by go_num, Lib.hid (HC.out.star (by rw [HL.out]; exact hlt) (by rw [HZK.out]; have := HS.out; omega) _ (k - f) (k - f) (H.out.part f k hf (by omega))), Lib.hid (by rw [List.length_append]; exact R.out), hv1, B1⟩
          case measure => simp [intOf]; omega
        · obtain rfl : f = k := by omega
          go_wp2_with (at_builtin; refine wpList_append_own _ rfl _ _ 67 rfl w.heap.size 69 i0 (.slice none 0 0) 1 24 Try.underlying67 hi hz0 hz1 hz2 rfl (by decide) _ _ _ rfl (HW.out.alloc _) ⟨wr.heap.size, 0, none⟩ 1 1 [.slice (some ⟨b, o, none⟩) 0 0] rfl rfl ?d1 ?d2 ?d3 ?d4 ?d5 ?_)
          case d1 =>
            intro j u hj
            match j, hj with
            | 0, hj => simp at hj; subst hj; simp [Addr.add]
          case d2 => intro u hu; simp at hu; subst hu; rfl
          case d3 => unfold maxLen; omega
          case d4 => omega
          case d5 => have := HB.out.size; simp; omega
          intro v1 w1 hown1 hg1 hn1
          have R := Lib.hid hown1
          have hv1 : v1 ≠ .slice none 0 0 := fun e => hn1 e
          have B1 := Lib.hid ((HB.out.alloc HB.out.size (.cells #[.slice (some ⟨b, o, none⟩) 0 0] 69)).grown hg1 (by have := HB.out.size; simp; omega) (fun j hj => (HW.out.lt j hj).1))
          have P0 := Lib.hid (show Byt w (some ⟨b, o, none⟩) 0 ((zs.take f).drop f) from ⟨by simp, by simp, by omega, by omega⟩)
          clear hown1 hg1 hn1
          go_wp2
          go_roundw
          case rel => exact ⟨f + 1, f + 1, _, _, by omega, by go_num, by omega, by go_num, Lib.hid (HC.out.star (by rw [HL.out]; exact hlt) (by rw [HZK.out]; have := HS.out; omega) _ 0 0 P0.out), Lib.hid (by rw [List.length_append]; exact R.out), hv1, B1⟩
          case measure => simp [intOf]; omega
      · have e1 : ((z : Int) == 42) = false := beq_eq_false_iff_ne.2 (by omega)
        have HS := Lib.hid hs
        clear hs
        go_wp2
        go_roundw
        case rel => exact ⟨k + 1, f, ps, xs, by omega, by go_num, by omega, rfl, Lib.hid (HC.out.skip (by rw [HL.out]; exact hlt) z HZK.out (by have := HS.out; omega)), HW, Hnn.out, HB⟩
        case measure => simp [intOf]; omega
    · have hbB := HB.out.size
      rcases Nat.lt_or_ge f len with hfk | hfk
      · have hfk2 : ¬ len = f := by omega
        obtain ⟨b, o, rfl, _⟩ := H.out.byte (show 0 < len by omega)
        go_wp2_with (at_builtin; refine wpList_append_own _ rfl _ _ 67 rfl w.heap.size 69 i0 (.slice none 0 0) 1 24 Try.underlying67 hi hz0 hz1 hz2 rfl (by decide) _ _ _ rfl (HW.out.alloc _) ⟨wr.heap.size, 0, none⟩ 1 1 [.slice (some ⟨b, o + f, none⟩) (len - f) (len - f)] rfl rfl ?f1 ?f2 ?f3 ?f4 ?f5 ?_)
        case f1 =>
          intro j u hj
          match j, hj with
          | 0, hj => simp at hj; subst hj; simp [Addr.add]
        case f2 => intro u hu; simp at hu; subst hu; rfl
        case f3 => unfold maxLen; omega
        case f4 => omega
        case f5 => have := HB.out.size; simp; omega
        intro v1 w1 hown1 hg1 hn1
        have B1 := (HB.out.alloc HB.out.size (.cells #[.slice (some ⟨b, o + f, none⟩) (len - f) (len - f)] 69)).grown hg1 (by have := HB.out.size; simp; omega) (fun j hj => (HW.out.lt j hj).1)
        have hv1 : v1 ≠ .slice none 0 0 := fun e => hn1 e
        have hd := H.out.part f len (by omega) (Nat.le_refl _)
        rw [List.take_of_length_le (by rw [HL.out]; exact Nat.le_refl _)] at hd
        have F := Lib.hid (cut_fin HC.out (by rw [HL.out]; omega) hown1 hv1 hd B1)
        clear hown1 hg1 hn1 B1 hd
        go_wp2
        go_ret
        exact F.out
      · obtain rfl : f = len := by omega
        go_wp2_with (at_builtin; refine wpList_append_own _ rfl _ _ 67 rfl w.heap.size 69 i0 (.slice none 0 0) 1 24 Try.underlying67 hi hz0 hz1 hz2 rfl (by decide) _ _ _ rfl (HW.out.alloc _) ⟨wr.heap.size, 0, none⟩ 1 1 [.slice a 0 0] rfl rfl ?g1 ?g2 ?g3 ?g4 ?g5 ?_)
        case g1 =>
          intro j u hj
          match j, hj with
          | 0, hj => simp at hj; subst hj; simp [Addr.add]
        case g2 => intro u hu; simp at hu; subst hu; rfl
        case g3 => unfold maxLen; omega
        case g4 => omega
        case g5 => have := HB.out.size; simp; omega
        intro v1 w1 hown1 hg1 hn1
        have B1 := (HB.out.alloc HB.out.size (.cells #[.slice a 0 0] 69)).grown hg1 (by have := HB.out.size; simp; omega) (fun j hj => (HW.out.lt j hj).1)
        have hv1 : v1 ≠ .slice none 0 0 := fun e => hn1 e
        have F := Lib.hid (cut_fin HC.out (by rw [HL.out]; omega) hown1 hv1 (by rw [List.drop_of_length_le (by rw [HL.out]; exact Nat.le_refl _)]; exact ⟨rfl, by simp, by omega, by omega⟩) B1)
        clear hown1 hg1 hn1 B1
        go_wp2
        go_ret
        exact F.out
end Go.Proofs.Ytokofmolbdpklaa.GL
