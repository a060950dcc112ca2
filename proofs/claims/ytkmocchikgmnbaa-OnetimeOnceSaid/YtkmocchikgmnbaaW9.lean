/- One-time keys: sorted. Bound: at most 900000 entries. -/
import Derived.Test.YtkmocchikgmnbaaW8
import Derived.Test.YtkmocchikgmnbaaR3
namespace Go.Proofs.Ytkmocchikgmnbaa
open Go.RowKit
set_option linter.unusedVariables false
set_option linter.unusedSimpArgs false


theorem invK {key : Value} {kl : Lit} (h : keyOf Try.prog 47 key = some kl) : ∃ x : ByteArray × ByteArray, key = mkK x := by
  obtain ⟨m, hm⟩ := types44
  unfold keyOf at h
  rw [Try.underlying47] at h
  simp only [keyT47, hm, Bool.true_and] at h
  split at h
  · rename_i hf
    cases key <;> simp [Value.formed, Try.underlying47, cells47] at hf
    rename_i xs
    obtain ⟨l⟩ := xs
    match l, hf with
    | [a, b], _ =>
      simp only [Value.cells] at h
      have hl : ∃ ls, Try.prog.keyLits (m + 2) 47 [a, b] = some ls := by
        cases hk : Try.prog.keyLits (m + 2) 47 [a, b] with
        | none => simp [hk] at h
        | some ls => exact ⟨ls, rfl⟩
      obtain ⟨ls, hl⟩ := hl
      cases a <;> cases b <;> simp [Program.keyLits, Try.underlying47, Try.underlying9, cells47, cells9] at hl
      exact ⟨(_, _), rfl⟩
  · cases h
theorem invV {v : Value} {y : DataW Value × List MemPlace} (h : RV v = some y) : ∃ c : Rc, v = mkV c := by
  obtain ⟨p, rfl, _, _⟩ := RV_inv h; exact ⟨p, rfl⟩
theorem one_src (w : World) (p : Rc) : Src (w.alloc (.cells #[.string p.us, .string p.dv, .int .i64 p.nx, .int .i64 p.lf] 45)) (some ⟨w.heap.size, 0, none⟩) 1 1 4 (enc p) :=
  ⟨rfl, (fun e => by cases e), .inr ⟨w.heap.size, 0, rfl, by simp, fun j u hu => by rw [Nat.zero_add]; exact (blk_new w (enc p) 45).cell hu⟩, enc_one p⟩
theorem one_src2 (w : World) (o : Obj) (p : Rc) : Src ((w.alloc o).alloc (.cells #[.string p.us, .string p.dv, .int .i64 p.nx, .int .i64 p.lf] 45)) (some ⟨w.heap.size + 1, 0, none⟩) 1 1 4 (enc p) := by
  have := one_src (w.alloc o) p
  rwa [show (w.alloc o).heap.size = w.heap.size + 1 by simp] at this
/-- The iterator's block is none of a row's. -/
theorem own_kept_iter {w w' : World} {B m M r n : Nat} {v : Value} {xs : List Value} {D : DataW Value} {left : Lit → Bool} {cnt : Nat} (h : w.ownsRow B 45 4 v m xs) (hr : w.ranges Try.prog 47 RV M r n D left cnt) (hg : w.grownBy w' (some r)) : w'.ownsRow B 45 4 v m xs := by
  refine h.kept hg (.inr fun e => ?_)
  rcases h.2 with ⟨rfl, _⟩ | ⟨g, cap, cur, rfl, _, hb, _⟩
  · cases e
  · obtain ⟨es, clock, since, seen, c0, _, _, _, _, hi, _⟩ := hr
    simp [Value.ownBlock] at e
    subst e
    rw [hb] at hi
    cases hi
theorem kept_own {w w' : World} {B m M r n : Nat} {v : Value} {xs : List Value} {D : DataW Value} {left : Lit → Bool} {cnt : Nat} (h : w.ownsRow B 45 4 v m xs) (hr : w.ranges Try.prog 47 RV M r n D left cnt) (hg : w.grownBy w' v.ownBlock) (hM : M < B) : w'.ranges Try.prog 47 RV M r n D left cnt := by
  refine hr.kept hg (fun e => ?_) (fun e => ?_)
  · have := (h.lt M e.symm).1
    omega
  · rcases h.2 with ⟨rfl, _⟩ | ⟨g, cap, cur, rfl, _, hb, _⟩
    · cases e
    · obtain ⟨es, clock, since, seen, c0, _, _, _, _, hi, _⟩ := hr
      simp [Value.ownBlock] at e
      subst e
      rw [hb] at hi
      cases hi
/-- What the sort of a map's entries gives. -/
def SortP (w0 : World) (zs : List Rc) (e : Ending) (w' : World) : Prop := ∃ A c ys, e = .returned (.slice A ys.length c) ∧ Rcs w' A ys.length c ys ∧ ys.Perm zs ∧ Srt ys ∧ Below w0.heap.size w0 w' ∧ New w0 ys.length A
theorem perm_fit {ys zs : List Rc} (h : ys.Perm zs) (hf : ∀ p ∈ zs, fitR p) : ∀ p ∈ ys, fitR p := fun p hp => hf p (h.mem_iff.1 hp)
set_option maxRecDepth 100000 in
set_option maxHeartbeats 4000000 in
theorem sorted_any (M n : Nat) (zs : List Rc) (w : World) (h : MapR w M n zs) (hd : Dis zs) (hz : zs ≠ []) (hn : n ≤ 900001) : Calls Try.prog 27 #[.map (some M)] w fun e w' => SortP w zs e w' := by
  have HM := Lib.hid h
  have HD := Lib.hid hd
  have HZ := Lib.hid hz
  have HF := Lib.hid h.fit
  have hMlt := h.lt
  obtain ⟨D, hown0, hrep⟩ := h.ex
  have HR := Lib.hid hrep
  have hsz := hown0.size_le
  obtain ⟨i0, hi, hz0, hz1, hz2⟩ := info_parts info45
  have HI := Lib.hid (And.intro hi (And.intro hz0 (And.intro hz1 hz2)))
  have Hz2 := Lib.hid hz2
  have HO0 := Lib.hid hown0
  have HSF := Lib.hid (fun g cap ys w hH hg hsz => sortF_any g cap ys w hH hg hsz)
  clear h hd hz hz2 hown0 hrep
  go_enter Try.func27, Try.ntmps27
  go_wp2_with (first
    | (at_len; refine wpList_len_own _ rfl _ 52 rfl 47 45 map52 RV M n D rfl HO0.out ?_)
    | (at_make; refine wpList_make_own _ rfl _ _ 22 rfl w.heap.size 45 i0 (mkV t0) 4 Try.underlying22 hi hz0 hz1 _ _ _ (Maps.size D) rfl rfl (by omega) (by rw [Hz2.out]; omega) (by unfold maxLen; omega) (Nat.le_refl _) ?_; intro w1 hown1 hg1; have O1 := Lib.hid hown1; have B1 := Lib.hid ((Below.refl w.heap.size w).grown hg1 (Nat.le_refl _) (by simp)); have M1 := Lib.hid (HO0.out.kept hg1 (by simp)); clear hown1 hg1)
    | (at_range; refine wpList_range_own _ rfl _ 52 rfl 47 45 law47 map52 RV M n D rfl M1.out ?_; intro w2 hrg2 hg2 hs2; have R2 := Lib.hid hrg2; have B2 := Lib.hid (B1.out.grown hg2 B1.out.size (by simp)); have O2 := Lib.hid (O1.out.kept hg2 (.inr (by simp [Value.ownBlock]))); clear hrg2 hg2))
  go_frame
  have hR1 := R2.out.lt
  obtain ⟨r, hr⟩ : ∃ r, r = w1.heap.size := ⟨_, rfl⟩
  rw [← hr] at hs2 R2 ⊢
  have HRB := Lib.hid (show w.heap.size ≤ r by rw [hr]; exact B1.out.size)
  clear hr hi hz0 hz1 hR1 hs2
  go_loopg [3, 5] (Maps.size D) (fun gg s3 _ wr => ∃ (left : Lit → Bool) (cnt m : Nat) (ys : List Rc) (v : Value), cnt ≤ gg ∧ m + cnt ≤ n ∧ v = s3 ∧ Hid (ys.length = m) ∧ Hid (wr.ranges Try.prog 47 RV M r n D left cnt) ∧ Hid (Coll D left ys) ∧ Hid (wr.ownsRow w.heap.size 45 4 v m (cl ys)) ∧ Hid (Below w.heap.size w wr))
  case atStart => exact ⟨_, _, 0, [], _, Nat.le_refl _, by omega, rfl, Lib.hid rfl, R2, Lib.hid (Coll.start D), O2, B2⟩
  case round =>
    obtain ⟨left, cnt, m, ys, v, hc, hmc, rfl, HL, HG, HC, HO, BW⟩ := hrel
    go_wp2_with (first
      | (at_next; refine wpList_next_ranges _ rfl _ rfl 47 law47 RV (fun x : ByteArray × ByteArray => Value.agg #[.string x.1, .string x.2]) (fun p : Rc => Value.agg #[.string p.us, .string p.dv, .int .i64 p.nx, .int .i64 p.lf]) (fun key kl h => invK h) (fun v y h => invV h) M r n D left cnt rfl HG.out ?_ ?_)
      | go_in)
    · intro hc0 hl0
      have HP := Lib.hid (HC.out.done HR.out HD.out hl0)
      have HDs := HC.out.dist
      have hpos : 0 < m := by
        rw [← HL.out, HP.out.length_eq]
        exact List.length_pos_iff.2 HZ.out
      obtain ⟨g, cap, cur, rfl, hgB, hgb, hmcap, hcapm, hcl, htk⟩ := own_pos HO.out hpos
      have HH := Lib.hid (holds_of_blk hgb htk HL.out)
      have HGL := Lib.hid hgb.lt
      have HT := Lib.hid HL.out
      subst hc0
      have HS := Lib.hid (HSF.out g cap ys)
      rw [HL.out] at HS
      clear hl0 hgb htk
      go_wp2_with (first
        | (go_at_call 36; (with_reducible refine (HS.out _ HH.out HGL.out (by omega)).mono ?_); rintro e w3 ⟨rfl, zs3, hp3, hs3, hh3, hg3⟩)
        | go_in)
      go_ret
      have hp4 := hp3.trans HP.out
      have hlen : zs3.length = m := hp3.length_eq.trans HL.out
      refine ⟨some ⟨g, 0, none⟩, cap, zs3, by rw [hlen]; rfl, Rcs.ofHolds hh3 (Nat.lt_of_lt_of_le HGL.out hg3.size) (by omega) (by omega) (perm_fit hp4 HF.out), hp4, srt_of hs3 ?_, BW.out.grown hg3 BW.out.size (fun k e => by cases e; exact hgB), fun _ b off e => by cases e; exact hgB⟩
      exact hp3.symm.pairwise HDs (fun {a b} h k => h (sd_symm k))
    · intro x1 x2 p kl yd yp w3 cnt' hkey hlk hv hat hrg hlt hg3 hs3 hen
      obtain ⟨hfp, hco⟩ := HC.out.step HR.out hlk hv hat
      have B3 := Lib.hid (BW.out.grown hg3 BW.out.size (fun k e => by cases e; exact HRB.out))
      have O3 := Lib.hid (own_kept_iter HO.out HG.out hg3)
      have G3 := Lib.hid hrg
      have C3 := Lib.hid hco
      have HFp := Lib.hid hfp
      clear hs3 hkey hlk hv hat hrg hg3 hco hfp
      go_wp2_with (at_builtin; go_loud (refine wpList_append_any _ rfl _ _ 22 rfl w.heap.size 45 i0 _ 4 48 Try.underlying22 HI.out.1 HI.out.2.1 HI.out.2.2.1 HI.out.2.2.2 rfl (by decide) v m (cl ys) rfl ((O3.out.alloc _).alloc _) (some ⟨w3.heap.size + 1, 0, none⟩) 1 1 (enc p) rfl (one_src2 w3 _ p) (by unfold maxLen; omega) (by omega) (by have := B3.out.size; simp; omega) ?_; intro v4 w4 hgr; have B4 := Lib.hid (hgr.below ((B3.out.alloc B3.out.size _).alloc (by have := B3.out.size; simp; omega) _) ((O3.out.alloc _).alloc _)); have O4 := Lib.hid hgr.own; have G4 := Lib.hid (kept_own ((O3.out.alloc _).alloc _) ((G3.out.alloc _).alloc _) hgr.grow hMlt); clear hgr))
      go_roundg cnt'
      case measure => omega
      case rel => exact ⟨_, cnt', m + 1, ys ++ [p], v4, Nat.le_refl _, by omega, rfl, Lib.hid (by rw [List.length_append, HL.out]; rfl), G4, C3, Lib.hid (by rw [← cl_snoc]; exact O4.out), B4⟩
end Go.Proofs.Ytkmocchikgmnbaa
