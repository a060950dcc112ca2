/- The kinds that have an entry in one of two lists (levels.kindsOf). -/
import Derived.Test.YthhmbcelicfopaaN3
import Derived.Lib.OwnKind
import Derived.Laws.EntriesVeiled
namespace Go.Proofs.Ythhmbcelicfopaa
open Go.RowKit
set_option linter.unusedVariables false

theorem info26 : (Try.prog.info? 26).map (fun i => (i.zero, i.size, i.bytes)) = some (some (.int .i64 0), 1, 8) := by kernel_rfl
/-- The function value `collect`, whose variables lie in blocks `a` and `b`. -/
abbrev colV (a b : Nat) : Value := .func (.func 40) #[] #[.pointer (some ⟨a, 0, none⟩), .pointer (some ⟨b, 0, none⟩)]
/-- `kinds` lies in block `a` and owns `xs`; `collect` lies in block `b`. -/
structure KInv (w : World) (B a b : Nat) (A : Option Addr) (l c : Nat) (xs : List Int) : Prop where
  ca : Blk w a [.slice A l c] 62
  cb : Blk w b [colV a b] 74
  own : w.ownsRow B 26 1 (.slice A l c) l (xs.map (.int .i64 ·))
  hB : B ≤ a
section
variable {w w1 w3 : World} {B a b : Nat} {A : Option Addr} {l c : Nat} {xs : List Int}
theorem KInv.below (h : KInv w B a b A l c xs) (hb : Below w.heap.size w w1) : KInv w1 B a b A l c xs :=
  ⟨h.ca.below hb, h.cb.below hb, own_below h.own hb, h.hB⟩
theorem KInv.ne (h : KInv w B a b A l c xs) : (Value.slice A l c).ownBlock ≠ some a := fun e => by
  obtain ⟨c, fz, hc⟩ := Lib.ownsRow_kind h.own a e
  rw [h.ca.heap] at hc
  cases hc
theorem KInv.ne' (h : KInv w B a b A l c xs) : (Value.slice A l c).ownBlock ≠ some b := fun e => by
  obtain ⟨c, fz, hc⟩ := Lib.ownsRow_kind h.own b e
  rw [h.cb.heap] at hc
  cases hc
theorem KInv.ab (h : KInv w B a b A l c xs) : a ≠ b := fun e => by
  have h1 := h.ca.heap
  rw [e, h.cb.heap] at h1
  cases h1
theorem KInv.pushed {v' : Value} {k : Int} (h : KInv w B a b A l c xs) (hg : Grew w w3 B 26 1 (.slice A l c) v' (l + 1) (xs.map (.int .i64 ·) ++ [.int .i64 k])) :
    ∃ A' c', v' = .slice A' (l + 1) c' ∧ KInv (w3.setCell ⟨a, 0, none⟩ (.slice A' (l + 1) c')) B a b A' (l + 1) c' (xs ++ [k]) := by
  obtain ⟨A', c', rfl⟩ := own_slice hg.own
  have hna : (Value.slice A' (l + 1) c').ownBlock ≠ some a := by
    rcases hg.at_ with e | e <;> rw [e]
    · exact h.ne
    · intro e2
      have := h.ca.lt
      simp only [Option.some.injEq] at e2
      omega
  have ha3 : Blk w3 a [.slice A l c] 62 := ⟨(hg.grow.block a h.ca.lt (fun e => h.ne e.symm)).trans h.ca.heap⟩
  have hb3 : Blk w3 b [colV a b] 74 := ⟨(hg.grow.block b h.cb.lt (fun e => h.ne' e.symm)).trans h.cb.heap⟩
  refine ⟨A', c', rfl, ha3.set 0 _, hb3.other _ _ (fun e => h.ab e.symm), ?_, h.hB⟩
  have hk := hg.own.kept (grown_setCell w3 ⟨a, 0, none⟩ (.slice A' (l + 1) c')) (.inr hna)
  rw [List.map_append]
  exact hk
end

/-- Kinds of the first `j` entries. -/
def kinds (K : Nat → Int × Int) (j : Nat) : List Int := (List.range j).map fun i => (K i).1
theorem kinds_succ (K : Nat → Int × Int) (j : Nat) : kinds K (j + 1) = kinds K j ++ [(K j).1] := by
  unfold kinds
  rw [List.range_succ, List.map_append]
  rfl
theorem kinds_len (K : Nat → Int × Int) (j : Nat) : (kinds K j).length = j := by unfold kinds; simp
/-- What `collect` leaves. -/
def ColPost (w : World) (B a b : Nat) (ys : List Int) (e : Ending) (w' : World) : Prop := e = .returned (.tuple #[]) ∧ (∃ A c, KInv w' B a b A ys.length c ys) ∧ Below B w w'

theorem collect0 (A : Option Addr) (c B a b : Nat) (vA : Option Addr) (vC l : Nat) (xs : List Int) (w : World) (h : KInv w B a b vA l vC xs) (hl : xs.length = l) :
    Calls Try.prog 40 (#[.slice A 0 c] ++ #[.pointer (some ⟨a, 0, none⟩), .pointer (some ⟨b, 0, none⟩)]) w (ColPost w B a b xs) := by
  have H := Lib.hid h
  have hl := Lib.hid hl
  clear h
  show Calls Try.prog 40 #[.slice A 0 c, .pointer (some ⟨a, 0, none⟩), .pointer (some ⟨b, 0, none⟩)] w _
  go_enter Try.func40, Try.ntmps40
  go_wp2
  go_end0
  exact ⟨rfl, ⟨vA, vC, by rw [hl.out]; exact H.out⟩, Below.refl _ _⟩

set_option maxHeartbeats 4000000 in
theorem collect1 (g B a b : Nat) (kA : Option Addr) (nK kC : Nat) (K : Nat → Int × Int) (v0A : Option Addr) (v0C x0 : Nat) (xs : List Int) (w : World) (h : KInv w B a b v0A x0 v0C xs) (hx0 : xs.length = x0) (hg : g < B) (hc : w.cell? ⟨g, 1, none⟩ = some (.slice kA nK kC)) (hB : B ≤ w.heap.size)
    (hK : ∀ w', Below B w w' → Rws w' kA nK kC 2 (rowK K)) (hbn : (x0 + nK) * 8 ≤ 140737488355328) :
    Calls Try.prog 40 (#[.slice (some ⟨g, 1, none⟩) 1 1] ++ #[.pointer (some ⟨a, 0, none⟩), .pointer (some ⟨b, 0, none⟩)]) w (ColPost w B a b (xs ++ kinds K nK)) := by
  obtain ⟨i0, hi, hz0, hz1, hz2⟩ := info_parts info26
  have HI := Lib.hid (And.intro hi (And.intro hz0 (And.intro hz1 hz2)))
  clear hi hz0 hz1 hz2
  have H := Lib.hid h
  have HX0 := Lib.hid hx0
  have HK := Lib.hid hK
  have HBn := Lib.hid hbn
  have HB0 := Lib.hid hB
  have hbig : nK ≤ 9223372036854775807 := by omega
  have HG := Lib.hid hg
  skip
  have HC := Lib.hid (fun (w' : World) (hb : Below B w w') => (hb.cell (p := ⟨g, 1, none⟩) hg).trans hc)
  clear h hK hbn hg hB hx0 
  show Calls Try.prog 40 #[.slice (some ⟨g, 1, none⟩) 1 1, .pointer (some ⟨a, 0, none⟩), .pointer (some ⟨b, 0, none⟩)] w _
  go_enter Try.func40, Try.ntmps40
  go_wp2
  go_loopg [13] nK (fun gg s13 wr => ∃ kk : Nat, kk ≤ nK ∧ nK - kk ≤ gg ∧ s13 = .int .i64 kk ∧ Hid (Below B w wr) ∧ Hid (∃ vA vC, KInv wr B a b vA (x0 + kk) vC (xs ++ kinds K kk)))
  case atStart => exact ⟨0, Nat.zero_le _, by omega, rfl, Lib.hid (Below.refl _ w), Lib.hid ⟨v0A, v0C, by simpa [kinds] using H.out⟩⟩
  case round =>
    obtain ⟨kk, hkk, hgg, rfl, BW, HV⟩ := hrel
    by_cases hlt : kk < nK
    · have hltz : (kk : Int) < (nK : Int) := by omega
      obtain ⟨vA, vC, hv⟩ := HV.out
      obtain ⟨gk, ok, rfl, cy, cn⟩ := (HK.out wr BW.out).kind hlt
      have HKS := Lib.hid (kinds_succ K kk)
      generalize hky : (K kk).1 = ky at cy HKS
      generalize (K kk).2 = nn at cn
      have hw1 : Below wr.heap.size wr ((wr.alloc (.cells #[.int .i64 ky, .int .i64 nn] 54)).alloc (.cells #[.int .i64 ky] 26)) := (Below.alloc (Below.refl wr.heap.size wr) (Nat.le_refl _) _).alloc (by simp) _
      have HW1 := Lib.hid hw1
      have HV1 := Lib.hid (hv.below hw1)
      have HN := Lib.hid (alloc2_blk wr (.cells #[.int .i64 ky, .int .i64 nn] 54) [.int .i64 ky] 26)
      have ia := hv.ca.cell (i := 0) rfl
      have hna : a ≠ wr.heap.size := Nat.ne_of_lt hv.ca.lt
      have hlta := hv.ca.lt
      have HBz := Lib.hid (Nat.le_trans HB0.out BW.out.size)
      clear hv hky hw1 HV
      go_wp2_with (at_builtin; refine wpList_append_any _ rfl _ _ 62 rfl B 26 i0 _ 1 8 Try.underlying62 HI.out.1 HI.out.2.1 HI.out.2.2.1 HI.out.2.2.2 rfl (by decide) (.slice vA (x0 + kk) vC) (x0 + kk) _ rfl HV1.out.own (some ⟨wr.heap.size + 1, 0, none⟩) 1 1 [.int .i64 ky] rfl ⟨rfl, (fun h => by cases h), .inr ⟨_, _, rfl, HN.out.lt, fun j u hu => by rw [Nat.zero_add]; exact HN.out.cell hu⟩, fun u hu => by simp at hu; rw [hu]; rfl⟩ (by have := HBn.out; unfold maxLen; omega) (by have := HBn.out; omega) (by have := HW1.out.size; have := HBz.out; omega) ?_; intro v3 w3 hgr; obtain ⟨A3, c3, rfl, hp⟩ := HV1.out.pushed hgr; have HP := Lib.hid hp; clear hp; have HX := Lib.hid ((Below.trans BW.out (HW1.out.mono HBz.out)).grown hgr.grow (Nat.le_trans HBz.out HW1.out.size) (fun q hq => (HV1.out.own.lt q hq).1)); have ja1 : w3.cell? ⟨a, 0, none⟩ = some (.slice vA (x0 + kk) vC) := (World.cell?_of_block (a := ⟨a, 0, none⟩) (hgr.grow.block a HV1.out.ca.lt (fun e => HV1.out.ne e.symm))).trans (HV1.out.ca.cell rfl); have ja2 : w3.frozen? ⟨a, 0, none⟩ = false := (World.frozen?_of_block (a := ⟨a, 0, none⟩) (hgr.grow.block a HV1.out.ca.lt (fun e => HV1.out.ne e.symm))).trans (HV1.out.ca.free 0); clear hgr)
      go_roundg (nK - (kk + 1))
      case measure => omega
      case rel => exact ⟨kk + 1, by omega, by omega, by go_num, Lib.hid (HX.out.setCell H.out.hB _), Lib.hid ⟨A3, c3, by rw [HKS.out, ← List.append_assoc]; exact HP.out⟩⟩
    · have hltz : ¬ (kk : Int) < (nK : Int) := by omega
      obtain rfl : nK = kk := by omega
      obtain ⟨vA, vC, hv⟩ := HV.out
      have HL2 := Lib.hid (show (xs ++ kinds K nK).length = x0 + nK by rw [List.length_append, kinds_len, HX0.out])
      have HV2 := Lib.hid hv
      have ib := hv.cb.cell (i := 0) rfl
      clear hv HV
      go_wp2
      go_region_held3 (fun w' => w'.cell? ⟨b, 0, none⟩ = some (.func (.func 40) #[] #[.pointer (some ⟨a, 0, none⟩), .pointer (some ⟨b, 0, none⟩)])) (first | exact ib | go_keep)
        ((go_at_call 40; refine (collect0 _ _ B a b vA vC (x0 + nK) _ _ (HV2.out.below (Below.drew (Below.refl _ wr))) HL2.out).mono ?_; rintro e4 w4 ⟨rfl, hk4, hb4⟩; have HK4 := Lib.hid hk4; have HB4 := Lib.hid (BW.out.drew.trans hb4); clear hk4 hb4; have ib2 : w4.cell? ⟨b, 0, none⟩ = some (.func (.func 40) #[] #[.pointer (some ⟨a, 0, none⟩), .pointer (some ⟨b, 0, none⟩)]) := (by obtain ⟨v5, c5, h5⟩ := HK4.out; exact h5.cb.cell rfl); clear ib; have ib := ib2; clear ib2))
      go_wp2
      go_end0
      exact ⟨rfl, by simpa only [List.append_assoc] using HK4.out, HB4.out⟩

set_option maxHeartbeats 4000000 in
theorem collect2 (g B a b : Nat) (kA : Option Addr) (nK kC : Nat) (K : Nat → Int × Int) (lA : Option Addr) (mK lC : Nat) (M : Nat → Int × Int) (v0A : Option Addr) (v0C x0 : Nat) (xs : List Int) (w : World) (h : KInv w B a b v0A x0 v0C xs) (hx0 : xs.length = x0) (hg : g < B) (hc : w.cell? ⟨g, 0, none⟩ = some (.slice kA nK kC)) (hB : B ≤ w.heap.size)
    (hK : ∀ w', Below B w w' → Rws w' kA nK kC 2 (rowK K)) (hbn : (x0 + nK) * 8 ≤ 140737488355328) (hc2 : w.cell? ⟨g, 1, none⟩ = some (.slice lA mK lC)) (hM : ∀ w', Below B w w' → Rws w' lA mK lC 2 (rowK M)) (hbm : (x0 + nK + mK) * 8 ≤ 140737488355328) :
    Calls Try.prog 40 (#[.slice (some ⟨g, 0, none⟩) 2 2] ++ #[.pointer (some ⟨a, 0, none⟩), .pointer (some ⟨b, 0, none⟩)]) w (ColPost w B a b (xs ++ kinds K nK ++ kinds M mK)) := by
  obtain ⟨i0, hi, hz0, hz1, hz2⟩ := info_parts info26
  have HI := Lib.hid (And.intro hi (And.intro hz0 (And.intro hz1 hz2)))
  clear hi hz0 hz1 hz2
  have H := Lib.hid h
  have HX0 := Lib.hid hx0
  have HK := Lib.hid hK
  have HBn := Lib.hid hbn
  have HB0 := Lib.hid hB
  have hbig : nK ≤ 9223372036854775807 := by omega
  have HG := Lib.hid hg
  have HC2 := Lib.hid (fun (w' : World) (hb : Below B w w') => (hb.cell (p := ⟨g, 1, none⟩) hg).trans hc2)
  have HM := Lib.hid hM
  have HBm := Lib.hid hbm
  have HC := Lib.hid (fun (w' : World) (hb : Below B w w') => (hb.cell (p := ⟨g, 0, none⟩) hg).trans hc)
  clear h hK hbn hg hB hx0 hc2 hM hbm
  show Calls Try.prog 40 #[.slice (some ⟨g, 0, none⟩) 2 2, .pointer (some ⟨a, 0, none⟩), .pointer (some ⟨b, 0, none⟩)] w _
  go_enter Try.func40, Try.ntmps40
  go_wp2
  go_loopg [13] nK (fun gg s13 wr => ∃ kk : Nat, kk ≤ nK ∧ nK - kk ≤ gg ∧ s13 = .int .i64 kk ∧ Hid (Below B w wr) ∧ Hid (∃ vA vC, KInv wr B a b vA (x0 + kk) vC (xs ++ kinds K kk)))
  case atStart => exact ⟨0, Nat.zero_le _, by omega, rfl, Lib.hid (Below.refl _ w), Lib.hid ⟨v0A, v0C, by simpa [kinds] using H.out⟩⟩
  case round =>
    obtain ⟨kk, hkk, hgg, rfl, BW, HV⟩ := hrel
    by_cases hlt : kk < nK
    · have hltz : (kk : Int) < (nK : Int) := by omega
      obtain ⟨vA, vC, hv⟩ := HV.out
      obtain ⟨gk, ok, rfl, cy, cn⟩ := (HK.out wr BW.out).kind hlt
      have HKS := Lib.hid (kinds_succ K kk)
      generalize hky : (K kk).1 = ky at cy HKS
      generalize (K kk).2 = nn at cn
      have hw1 : Below wr.heap.size wr ((wr.alloc (.cells #[.int .i64 ky, .int .i64 nn] 54)).alloc (.cells #[.int .i64 ky] 26)) := (Below.alloc (Below.refl wr.heap.size wr) (Nat.le_refl _) _).alloc (by simp) _
      have HW1 := Lib.hid hw1
      have HV1 := Lib.hid (hv.below hw1)
      have HN := Lib.hid (alloc2_blk wr (.cells #[.int .i64 ky, .int .i64 nn] 54) [.int .i64 ky] 26)
      have ia := hv.ca.cell (i := 0) rfl
      have hna : a ≠ wr.heap.size := Nat.ne_of_lt hv.ca.lt
      have hlta := hv.ca.lt
      have HBz := Lib.hid (Nat.le_trans HB0.out BW.out.size)
      clear hv hky hw1 HV
      go_wp2_with (at_builtin; refine wpList_append_any _ rfl _ _ 62 rfl B 26 i0 _ 1 8 Try.underlying62 HI.out.1 HI.out.2.1 HI.out.2.2.1 HI.out.2.2.2 rfl (by decide) (.slice vA (x0 + kk) vC) (x0 + kk) _ rfl HV1.out.own (some ⟨wr.heap.size + 1, 0, none⟩) 1 1 [.int .i64 ky] rfl ⟨rfl, (fun h => by cases h), .inr ⟨_, _, rfl, HN.out.lt, fun j u hu => by rw [Nat.zero_add]; exact HN.out.cell hu⟩, fun u hu => by simp at hu; rw [hu]; rfl⟩ (by have := HBn.out; unfold maxLen; omega) (by have := HBn.out; omega) (by have := HW1.out.size; have := HBz.out; omega) ?_; intro v3 w3 hgr; obtain ⟨A3, c3, rfl, hp⟩ := HV1.out.pushed hgr; have HP := Lib.hid hp; clear hp; have HX := Lib.hid ((Below.trans BW.out (HW1.out.mono HBz.out)).grown hgr.grow (Nat.le_trans HBz.out HW1.out.size) (fun q hq => (HV1.out.own.lt q hq).1)); have ja1 : w3.cell? ⟨a, 0, none⟩ = some (.slice vA (x0 + kk) vC) := (World.cell?_of_block (a := ⟨a, 0, none⟩) (hgr.grow.block a HV1.out.ca.lt (fun e => HV1.out.ne e.symm))).trans (HV1.out.ca.cell rfl); have ja2 : w3.frozen? ⟨a, 0, none⟩ = false := (World.frozen?_of_block (a := ⟨a, 0, none⟩) (hgr.grow.block a HV1.out.ca.lt (fun e => HV1.out.ne e.symm))).trans (HV1.out.ca.free 0); clear hgr)
      go_roundg (nK - (kk + 1))
      case measure => omega
      case rel => exact ⟨kk + 1, by omega, by omega, by go_num, Lib.hid (HX.out.setCell H.out.hB _), Lib.hid ⟨A3, c3, by rw [HKS.out, ← List.append_assoc]; exact HP.out⟩⟩
    · have hltz : ¬ (kk : Int) < (nK : Int) := by omega
      obtain rfl : nK = kk := by omega
      obtain ⟨vA, vC, hv⟩ := HV.out
      have HL2 := Lib.hid (show (xs ++ kinds K nK).length = x0 + nK by rw [List.length_append, kinds_len, HX0.out])
      have HV2 := Lib.hid hv
      have ib := hv.cb.cell (i := 0) rfl
      clear hv HV
      go_wp2
      go_region_held3 (fun w' => w'.cell? ⟨b, 0, none⟩ = some (.func (.func 40) #[] #[.pointer (some ⟨a, 0, none⟩), .pointer (some ⟨b, 0, none⟩)])) (first | exact ib | go_keep)
        ((go_at_call 40; refine (collect1 g B a b lA mK lC M vA vC (x0 + nK) _ _ (HV2.out.below (Below.drew (Below.refl _ wr))) HL2.out HG.out (HC2.out _ BW.out.drew) (Nat.le_trans HB0.out (Below.drew BW.out).size) (fun w' hb => HM.out w' (BW.out.drew.trans hb)) (by have := HBm.out; omega)).mono ?_; rintro e4 w4 ⟨rfl, hk4, hb4⟩; have HK4 := Lib.hid hk4; have HB4 := Lib.hid (BW.out.drew.trans hb4); clear hk4 hb4; have ib2 : w4.cell? ⟨b, 0, none⟩ = some (.func (.func 40) #[] #[.pointer (some ⟨a, 0, none⟩), .pointer (some ⟨b, 0, none⟩)]) := (by obtain ⟨v5, c5, h5⟩ := HK4.out; exact h5.cb.cell rfl); clear ib; have ib := ib2; clear ib2))
      go_wp2
      go_end0
      exact ⟨rfl, by simpa only [List.append_assoc] using HK4.out, HB4.out⟩

end Go.Proofs.Ythhmbcelicfopaa
