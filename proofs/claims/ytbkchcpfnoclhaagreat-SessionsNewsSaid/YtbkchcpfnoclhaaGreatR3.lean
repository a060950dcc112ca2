/- Records: slices.Clone, slices.IndexFunc (written by tools/rec.py). Bound: at most 1000000 records. -/
import Derived.Test.YtbkchcpfnoclhaaGreatR2
import Derived.Deep.RegionHeld3
import Derived.Deep.LoopGhost
import Derived.Deep.Cut
import Derived.Laws.EntriesVeiled
namespace Go.Proofs.YtbkchcpfnoclhaaGreat
set_option maxRecDepth 100000
open Go.RowKit
set_option linter.unusedVariables false
set_option maxRecDepth 100000
set_option linter.unusedSimpArgs false

theorem info55 : (Tryz.prog.info? 36).map (fun i => (i.zero, i.size, i.bytes)) = some (some (.agg #[.string ⟨#[]⟩, .string ⟨#[]⟩, .int .i64 0]), 3, 40) := by kernel_rfl
set_option maxHeartbeats 1000000 in
theorem clone27 (A : Option Addr) (n c : Nat) (L : Nat → List Value) (w : World) (h : Rws w A n c 3 L) (hb : n * 40 ≤ 140737488355328) :
    Calls Tryz.prog 33 #[.slice A n c] w fun e w' => ∃ A' c', e = .returned (.slice A' n c') ∧ CopyR w w' 36 3 n L A' c' := by
  obtain ⟨i0, hi, hz0, hz1, hz2⟩ := info_parts info55
  have HI := Lib.hid (And.intro hi (And.intro hz0 (And.intro hz1 hz2)))
  clear hi hz0 hz1 hz2
  have kn := fun (w : World) (a : Option Addr) (n c n' c' : Nat) => Lib.run_eql_slice_nil (P := Tryz.prog) w 22 36 a n c n' c' Tryz.underlying22
  cases A with
  | none =>
    obtain ⟨rfl, rfl⟩ := h.nil rfl
    clear h HI hb
    go_enter Tryz.func33, Tryz.ntmps33
    go_wp2
    go_ret
    exact ⟨none, 0, rfl, clone_nil w 36 3 L⟩
  | some ad =>
    have HS := Lib.hid (h.src.below ((Below.refl _ w).alloc (Nat.le_refl _) (.cells #[] 36)))
    have HO := Lib.hid (World.ownsRow_made (base := w.heap.size) (e := 36) (size := 3) w #[] 0 (Nat.le_refl _) (by decide) (by simp))
    clear h
    go_enter Tryz.func33, Tryz.ntmps33
    go_wp2_with (at_builtin; refine wpList_append_any _ rfl _ _ 22 rfl w.heap.size 36 i0 _ 3 40 Tryz.underlying22 HI.out.1 HI.out.2.1 HI.out.2.2.1 HI.out.2.2.2 rfl (by decide) _ 0 [] rfl HO.out (some ad) n c (flat n L) rfl HS.out (by unfold maxLen; omega) (by omega) (by simp) ?_; intro v3 w3 hgr; have HX := Lib.hid (clone_grew hgr); clear hgr)
    go_ret
    obtain ⟨A', c', rfl, hc⟩ := HX.out
    exact ⟨A', c', rfl, hc⟩

/-- The place of the first record that meets a test, or -1. -/
def fidx (q : Rc → Bool) (zs : List Rc) : Int := if zs.findIdx q < zs.length then (zs.findIdx q : Int) else -1
theorem fidx_at {q : Rc → Bool} {zs : List Rc} {k : Nat} (hk : k < zs.length) (h : q (zs.getD k t0) = true) (hn : ∀ j, j < k → q (zs.getD j t0) = false) : fidx q zs = k := by
  have e : zs.findIdx q = k := by
    rw [List.findIdx_eq hk]
    refine ⟨?_, fun j hj => ?_⟩
    · rw [List.getD_eq_getElem?_getD, List.getElem?_eq_getElem hk] at h; exact h
    · have := hn j hj
      rw [List.getD_eq_getElem?_getD, List.getElem?_eq_getElem (by omega)] at this
      exact this
  unfold fidx
  rw [e, if_pos hk]
theorem fidx_no {q : Rc → Bool} {zs : List Rc} (hn : ∀ j, j < zs.length → q (zs.getD j t0) = false) : fidx q zs = -1 := by
  have e : zs.findIdx q = zs.length := by
    rw [List.findIdx_eq_length]
    intro x hx
    obtain ⟨j, hj, rfl⟩ := List.getElem_of_mem hx
    have := hn j hj
    rw [List.getD_eq_getElem?_getD, List.getElem?_eq_getElem hj] at this
    exact this
  unfold fidx
  rw [e, if_neg (Nat.lt_irrefl _)]
theorem fidx_cases (q : Rc → Bool) (zs : List Rc) : (fidx q zs = -1 ∧ ∀ p ∈ zs, q p = false) ∨ ∃ k, k < zs.length ∧ fidx q zs = (k : Int) ∧ q (zs.getD k t0) = true ∧ ∀ p ∈ zs.take k, q p = false := by
  unfold fidx
  by_cases h : zs.findIdx q < zs.length
  · right
    refine ⟨_, h, if_pos h, ?_, fun p hp => ?_⟩
    · rw [List.getD_eq_getElem?_getD, List.getElem?_eq_getElem h]
      exact List.findIdx_getElem (w := h)
    · obtain ⟨j, hj, rfl⟩ := List.getElem_of_mem hp
      have hj' : j < zs.findIdx q := by rw [List.length_take] at hj; omega
      rw [List.getElem_take]
      exact List.not_of_lt_findIdx hj'
  · left
    refine ⟨if_neg h, fun p hp => ?_⟩
    have e : zs.findIdx q = zs.length := Nat.le_antisymm List.findIdx_le_length (by omega)
    exact (List.findIdx_eq_length.1 e) p hp
/-- What is left by a filter, as the calls leave it. -/
def FilP (B : Nat) (w0 : World) (zs : List Rc) (e : Ending) (w' : World) : Prop := ∃ A c, e = .returned (.slice A zs.length c) ∧ Rcs w' A zs.length c zs ∧ Below B w0 w' ∧ ∀ b off, A = some ⟨b, off, none⟩ → B ≤ b
theorem Rcs.at_ {w : World} {A : Option Addr} {n c : Nat} {zs : List Rc} (h : Rcs w A n c zs) {k : Nat} (hk : k < n) :
    ∃ b off, A = some ⟨b, off, none⟩ ∧ b < w.heap.size ∧ w.cell? ⟨b, off + k * 3, none⟩ = some (.string (zs.getD k t0).us) ∧ w.cell? ⟨b, off + k * 3 + 1, none⟩ = some (.string (zs.getD k t0).dv) ∧ w.cell? ⟨b, off + k * 3 + 2, none⟩ = some (.int .i64 (zs.getD k t0).ix) ∧ fitR (zs.getD k t0) := by
  obtain ⟨b, off, e, hlt, hr, hf⟩ := h.get hk
  exact ⟨b, off, e, hlt, hr 0 _ rfl, hr 1 _ rfl, hr 2 _ rfl, hf⟩
set_option maxHeartbeats 1000000 in
theorem index41 (q : Rc → Bool) (c1 : Nat) (A : Option Addr) (n c : Nat) (zs : List Rc) (w : World) (h : Rcs w A n c zs) (hp : ∀ (p : Rc) (u : World), Below w.heap.size w u → Calls Tryz.prog 31 #[.agg #[.string p.us, .string p.dv, .int .i64 p.ix], .pointer (some ⟨c1, 0, none⟩)] u fun e w' => e = .returned (.bool (q p)) ∧ Below u.heap.size u w') :
    Calls Tryz.prog 30 #[.slice A n c, .func (.func 31) #[] #[.pointer (some ⟨c1, 0, none⟩)]] w fun e w' => e = .returned (.int .i64 (fidx q zs)) ∧ Below w.heap.size w w' := by
  have H := Lib.hid h
  have HP := Lib.hid hp
  have hbig := h.rws.big
  unfold maxLen at hbig
  have HL := Lib.hid h.len
  clear h hp
  go_enter Tryz.func30, Tryz.ntmps30
  go_wp2
  go_loopg [5, 8] n (fun gg _ s8 wr => ∃ kk : Nat, kk ≤ n ∧ n - kk ≤ gg ∧ s8 = .int .i64 kk ∧ Hid (Below w.heap.size w wr) ∧ Hid (∀ j, j < kk → q (zs.getD j t0) = false))
  case atStart => exact ⟨0, Nat.zero_le _, by omega, rfl, Lib.hid (Below.refl _ w), Lib.hid (fun j hj => absurd hj (Nat.not_lt_zero _))⟩
  case round =>
    obtain ⟨kk, hkk, hg, rfl, BW, O⟩ := hrel
    by_cases hlt : kk < n
    · have hltz : (kk : Int) < (n : Int) := by omega
      obtain ⟨b, off, rfl, hbl, k0, k1, k2, _⟩ := (H.out.below BW.out).at_ hlt
      have HQ := Lib.hid (HP.out (zs.getD kk t0) wr BW.out)
      have HV : Hid (∀ v, q (zs.getD kk t0) = v → q (zs.getD kk t0) = v) := Lib.hid (fun v h => h)
      generalize hz : zs.getD kk t0 = p at k0 k1 k2 HQ HV
      have HZ := Lib.hid hz
      clear hz
      cases hq : q p with
      | true =>
        have HF := Lib.hid (fidx_at (q := q) (by rw [HL.out]; exact hlt) (by rw [HZ.out]; exact hq) O.out)
        rw [hq] at HQ
        clear hq HV
        go_wp2_with (go_at_call 31; (with_reducible refine HQ.out.mono ?_); rintro e w' ⟨rfl, hb'⟩)
        go_ret
        exact ⟨ret_i64 HF.out.symm, BW.out.trans (hb'.mono BW.out.size)⟩
      | false =>
        have HF := Lib.hid hq
        rw [hq] at HQ
        clear hq HV
        go_wp2_with (go_at_call 31; (with_reducible refine HQ.out.mono ?_); rintro e w' ⟨rfl, hb'⟩)
        go_roundg (n - (kk + 1))
        case measure => omega
        case rel =>
          refine ⟨kk + 1, by omega, by omega, by go_num, Lib.hid (BW.out.trans (hb'.mono BW.out.size)), Lib.hid (fun j hj => ?_)⟩
          by_cases e : j = kk
          · subst e; rw [HZ.out]; exact HF.out
          · exact O.out j (by omega)
    · have hltz : ¬ (kk : Int) < (n : Int) := by omega
      have HF := Lib.hid (fidx_no (q := q) (zs := zs) (fun j hj => O.out j (by rw [HL.out] at hj; omega)))
      go_wp2
      go_ret
      exact ⟨ret_i64 HF.out.symm, BW.out⟩
set_option maxHeartbeats 1000000 in
theorem index37 (q : Rc → Bool) (c1 : Nat) (A : Option Addr) (n c : Nat) (zs : List Rc) (w : World) (h : Rcs w A n c zs) (hp : ∀ (p : Rc) (u : World), Below w.heap.size w u → Calls Tryz.prog 16 #[.agg #[.string p.us, .string p.dv, .int .i64 p.ix], .pointer (some ⟨c1, 0, none⟩)] u fun e w' => e = .returned (.bool (q p)) ∧ Below u.heap.size u w') :
    Calls Tryz.prog 30 #[.slice A n c, .func (.func 16) #[] #[.pointer (some ⟨c1, 0, none⟩)]] w fun e w' => e = .returned (.int .i64 (fidx q zs)) ∧ Below w.heap.size w w' := by
  have H := Lib.hid h
  have HP := Lib.hid hp
  have hbig := h.rws.big
  unfold maxLen at hbig
  have HL := Lib.hid h.len
  clear h hp
  go_enter Tryz.func30, Tryz.ntmps30
  go_wp2
  go_loopg [5, 8] n (fun gg _ s8 wr => ∃ kk : Nat, kk ≤ n ∧ n - kk ≤ gg ∧ s8 = .int .i64 kk ∧ Hid (Below w.heap.size w wr) ∧ Hid (∀ j, j < kk → q (zs.getD j t0) = false))
  case atStart => exact ⟨0, Nat.zero_le _, by omega, rfl, Lib.hid (Below.refl _ w), Lib.hid (fun j hj => absurd hj (Nat.not_lt_zero _))⟩
  case round =>
    obtain ⟨kk, hkk, hg, rfl, BW, O⟩ := hrel
    by_cases hlt : kk < n
    · have hltz : (kk : Int) < (n : Int) := by omega
      obtain ⟨b, off, rfl, hbl, k0, k1, k2, _⟩ := (H.out.below BW.out).at_ hlt
      have HQ := Lib.hid (HP.out (zs.getD kk t0) wr BW.out)
      have HV : Hid (∀ v, q (zs.getD kk t0) = v → q (zs.getD kk t0) = v) := Lib.hid (fun v h => h)
      generalize hz : zs.getD kk t0 = p at k0 k1 k2 HQ HV
      have HZ := Lib.hid hz
      clear hz
      cases hq : q p with
      | true =>
        have HF := Lib.hid (fidx_at (q := q) (by rw [HL.out]; exact hlt) (by rw [HZ.out]; exact hq) O.out)
        rw [hq] at HQ
        clear hq HV
        go_wp2_with (go_at_call 16; (with_reducible refine HQ.out.mono ?_); rintro e w' ⟨rfl, hb'⟩)
        go_ret
        exact ⟨ret_i64 HF.out.symm, BW.out.trans (hb'.mono BW.out.size)⟩
      | false =>
        have HF := Lib.hid hq
        rw [hq] at HQ
        clear hq HV
        go_wp2_with (go_at_call 16; (with_reducible refine HQ.out.mono ?_); rintro e w' ⟨rfl, hb'⟩)
        go_roundg (n - (kk + 1))
        case measure => omega
        case rel =>
          refine ⟨kk + 1, by omega, by omega, by go_num, Lib.hid (BW.out.trans (hb'.mono BW.out.size)), Lib.hid (fun j hj => ?_)⟩
          by_cases e : j = kk
          · subst e; rw [HZ.out]; exact HF.out
          · exact O.out j (by omega)
    · have hltz : ¬ (kk : Int) < (n : Int) := by omega
      have HF := Lib.hid (fidx_no (q := q) (zs := zs) (fun j hj => O.out j (by rw [HL.out] at hj; omega)))
      go_wp2
      go_ret
      exact ⟨ret_i64 HF.out.symm, BW.out⟩
end Go.Proofs.YtbkchcpfnoclhaaGreat
