/- Who types: the tests of PutNamed, slices.Clone. No condition. -/
import Derived.Test.YtjifohepbmaebaaT3
import Derived.Test.YtjifohepbmaebaaG4
import Derived.Deep.RegionHeld3
namespace Go.Proofs.Ytjifohepbmaebaa
open Go.RowKit
set_option linter.unusedVariables false

theorem pred28 (p : Tp) (w : World) : Calls Try.prog 28 #[.agg #[.string p.1, .int .i64 p.2]] w fun e w' => e = .returned (.string p.1) ∧ Below w.heap.size w w' := by
  have HW := Lib.hid (Below.alloc (Below.refl w.heap.size w) (Nat.le_refl _) (.cells #[.string p.1, .int .i64 p.2] 44))
  go_enter Try.func28, Try.ntmps28
  go_wp2
  go_ret
  exact ⟨rfl, HW.out⟩
/-- Is the name greater? -/
def pb (own : ByteArray) (p : Tp) : Bool := !Op.bytesLess p.1.toList own.toList && !(p.1.toList == own.toList)
set_option maxHeartbeats 1000000 in
theorem pred39 (p : Tp) (own : ByteArray) (c1 c2 : Nat) (w : World) (h1 : c1 < w.heap.size) (h2 : c2 < w.heap.size) (k1 : w.cell? ⟨c1, 0, none⟩ = some (.func (.func 28) #[] #[])) (k2 : w.cell? ⟨c2, 0, none⟩ = some (.string own)) :
    Calls Try.prog 39 #[.agg #[.string p.1, .int .i64 p.2], .pointer (some ⟨c1, 0, none⟩), .pointer (some ⟨c2, 0, none⟩)] w fun e w' => e = .returned (.bool (pu own p)) ∧ Below w.heap.size w w' := by
  have BA := Lib.hid ((Below.refl w.heap.size w).alloc (Nat.le_refl _) (.cells #[.string p.1, .int .i64 p.2] 44))
  have X := blk_new w [.string p.1, .int .i64 p.2] 44
  have a0 := (BA.out.cell (p := ⟨c1, 0, none⟩) h1).trans k1
  have a1 := (BA.out.cell (p := ⟨c2, 0, none⟩) h2).trans k2
  have a2 := X.cell (i := 0) rfl
  have a3 := X.cell (i := 1) rfl
  have l1 := Nat.lt_of_lt_of_le h1 BA.out.size
  have l2 := Nat.lt_of_lt_of_le h2 BA.out.size
  have l3 := X.lt
  clear k1 k2 X
  go_enter Try.func39, Try.ntmps39
  go_upto_region 1 with (fail)
  generalize hbx : w.heap.size = bx at a2 a3 l3 ⊢
  generalize hwa : (w.alloc _) = wa at BA a0 a1 a2 a3 l1 l2 l3 ⊢
  have HSz := Lib.hid BA.out.size
  clear hwa
  go_region_held3 (fun w' => w'.cell? ⟨c1, 0, none⟩ = some (.func (.func 28) #[] #[]) ∧ w'.cell? ⟨c2, 0, none⟩ = some (.string own) ∧ w'.cell? ⟨bx, 0, none⟩ = some (.string p.1) ∧ w'.cell? ⟨bx, 1, none⟩ = some (.int .i64 p.2)) (first | exact ⟨a0, a1, a2, a3⟩ | exact ⟨(hb3.cell (p := ⟨c1, 0, none⟩) l1).trans a0, (hb3.cell (p := ⟨c2, 0, none⟩) l2).trans a1, (hb3.cell (p := ⟨bx, 0, none⟩) l3).trans a2, (hb3.cell (p := ⟨bx, 1, none⟩) l3).trans a3⟩)
    ((go_at_call 28; (with_reducible refine (pred28 p _).mono ?_); rintro e0 w3 ⟨rfl, hb3⟩))
  all_goals
    have hb4 : Below wa.heap.size wa w3 := ⟨hb3.os, hb3.tape, hb3.output, hb3.size, hb3.block⟩
    go_wp2
    go_ret
    subst hbx
    exact ⟨rfl, BA.out.trans (hb4.mono HSz.out)⟩
set_option maxHeartbeats 1000000 in
theorem pred40 (p : Tp) (own : ByteArray) (c1 c2 : Nat) (w : World) (h1 : c1 < w.heap.size) (h2 : c2 < w.heap.size) (k1 : w.cell? ⟨c1, 0, none⟩ = some (.func (.func 28) #[] #[])) (k2 : w.cell? ⟨c2, 0, none⟩ = some (.string own)) :
    Calls Try.prog 40 #[.agg #[.string p.1, .int .i64 p.2], .pointer (some ⟨c1, 0, none⟩), .pointer (some ⟨c2, 0, none⟩)] w fun e w' => e = .returned (.bool (pb own p)) ∧ Below w.heap.size w w' := by
  have BA := Lib.hid ((Below.refl w.heap.size w).alloc (Nat.le_refl _) (.cells #[.string p.1, .int .i64 p.2] 44))
  have X := blk_new w [.string p.1, .int .i64 p.2] 44
  have a0 := (BA.out.cell (p := ⟨c1, 0, none⟩) h1).trans k1
  have a1 := (BA.out.cell (p := ⟨c2, 0, none⟩) h2).trans k2
  have a2 := X.cell (i := 0) rfl
  have a3 := X.cell (i := 1) rfl
  have l1 := Nat.lt_of_lt_of_le h1 BA.out.size
  have l2 := Nat.lt_of_lt_of_le h2 BA.out.size
  have l3 := X.lt
  clear k1 k2 X
  go_enter Try.func40, Try.ntmps40
  go_upto_region 1 with (fail)
  generalize hbx : w.heap.size = bx at a2 a3 l3 ⊢
  generalize hwa : (w.alloc _) = wa at BA a0 a1 a2 a3 l1 l2 l3 ⊢
  have HSz := Lib.hid BA.out.size
  clear hwa
  go_region_held3 (fun w' => w'.cell? ⟨c1, 0, none⟩ = some (.func (.func 28) #[] #[]) ∧ w'.cell? ⟨c2, 0, none⟩ = some (.string own) ∧ w'.cell? ⟨bx, 0, none⟩ = some (.string p.1) ∧ w'.cell? ⟨bx, 1, none⟩ = some (.int .i64 p.2)) (first | exact ⟨a0, a1, a2, a3⟩ | exact ⟨(hb3.cell (p := ⟨c1, 0, none⟩) l1).trans a0, (hb3.cell (p := ⟨c2, 0, none⟩) l2).trans a1, (hb3.cell (p := ⟨bx, 0, none⟩) l3).trans a2, (hb3.cell (p := ⟨bx, 1, none⟩) l3).trans a3⟩)
    ((go_at_call 28; (with_reducible refine (pred28 p _).mono ?_); rintro e0 w3 ⟨rfl, hb3⟩))
  all_goals
    have hb4 : Below wa.heap.size wa w3 := ⟨hb3.os, hb3.tape, hb3.output, hb3.size, hb3.block⟩
    go_wp2
    go_ret
    subst hbx
    exact ⟨rfl, BA.out.trans (hb4.mono HSz.out)⟩
set_option maxHeartbeats 1000000 in
theorem index39 (q : Tp → Bool) (c1 c2 : Nat) (A : Option Addr) (n c : Nat) (zs : List Tp) (w : World) (h : Tps w A n c zs) (hp : ∀ (p : Tp) (u : World), Below w.heap.size w u → Calls Try.prog 39 #[.agg #[.string p.1, .int .i64 p.2], .pointer (some ⟨c1, 0, none⟩), .pointer (some ⟨c2, 0, none⟩)] u fun e w' => e = .returned (.bool (q p)) ∧ Below u.heap.size u w') :
    Calls Try.prog 41 #[.slice A n c, .func (.func 39) #[] #[.pointer (some ⟨c1, 0, none⟩), .pointer (some ⟨c2, 0, none⟩)]] w fun e w' => e = .returned (.int .i64 (fidx q zs)) ∧ Below w.heap.size w w' := by
  have H := Lib.hid h
  have HP := Lib.hid hp
  have hbig := h.rws.big
  unfold maxLen at hbig
  have HL := Lib.hid h.len
  clear h hp
  go_enter Try.func41, Try.ntmps41
  go_wp2
  go_loopg [5, 8] n (fun gg _ s8 wr => ∃ kk : Nat, kk ≤ n ∧ n - kk ≤ gg ∧ s8 = .int .i64 kk ∧ Hid (Below w.heap.size w wr) ∧ Hid (∀ j, j < kk → q (zs.getD j t0) = false))
  case atStart => exact ⟨0, Nat.zero_le _, by omega, rfl, Lib.hid (Below.refl _ w), Lib.hid (fun j hj => absurd hj (Nat.not_lt_zero _))⟩
  case round =>
    obtain ⟨kk, hkk, hg, rfl, BW, O⟩ := hrel
    by_cases hlt : kk < n
    · have hltz : (kk : Int) < (n : Int) := by omega
      obtain ⟨b, off, rfl, hbl, k0, k1, _⟩ := (H.out.below BW.out).get hlt
      have HQ := Lib.hid (HP.out (zs.getD kk t0) wr BW.out)
      have HV : Hid (∀ v, q (zs.getD kk t0) = v → q (zs.getD kk t0) = v) := Lib.hid (fun v h => h)
      generalize hz : zs.getD kk t0 = p at k0 k1 HQ HV
      have HZ := Lib.hid hz
      clear hz
      cases hq : q p with
      | true =>
        have HF := Lib.hid (fidx_at (q := q) (by rw [HL.out]; exact hlt) (by rw [HZ.out]; exact hq) O.out)
        rw [hq] at HQ
        clear hq HV
        go_wp2_with (go_at_call 39; (with_reducible refine HQ.out.mono ?_); rintro e w' ⟨rfl, hb'⟩)
        go_ret
        exact ⟨ret_i64 HF.out.symm, BW.out.trans (hb'.mono BW.out.size)⟩
      | false =>
        have HF := Lib.hid hq
        rw [hq] at HQ
        clear hq HV
        go_wp2_with (go_at_call 39; (with_reducible refine HQ.out.mono ?_); rintro e w' ⟨rfl, hb'⟩)
        go_roundg (n - (kk + 1))
        case measure => omega
        case rel =>
          refine ⟨kk + 1, by omega, by omega, by go_num, Lib.hid (BW.out.trans (hb'.mono BW.out.size)), Lib.hid (fun j hj => ?_)⟩
          by_cases e : j = kk
          · subst e; rw [HZ.out]; exact HF.out
          · exact O.out j (by omega)
    · have hltz : ¬ (kk : Int) < (n : Int) := by omega
      have HF := Lib.hid (fidx_no (q := q) (zs := zs) (fun j hj => O.out j (by rw [HL.out] at hj; omega)))
      go_wp2
      go_ret
      exact ⟨ret_i64 HF.out.symm, BW.out⟩
set_option maxHeartbeats 1000000 in
theorem index40 (q : Tp → Bool) (c1 c2 : Nat) (A : Option Addr) (n c : Nat) (zs : List Tp) (w : World) (h : Tps w A n c zs) (hp : ∀ (p : Tp) (u : World), Below w.heap.size w u → Calls Try.prog 40 #[.agg #[.string p.1, .int .i64 p.2], .pointer (some ⟨c1, 0, none⟩), .pointer (some ⟨c2, 0, none⟩)] u fun e w' => e = .returned (.bool (q p)) ∧ Below u.heap.size u w') :
    Calls Try.prog 41 #[.slice A n c, .func (.func 40) #[] #[.pointer (some ⟨c1, 0, none⟩), .pointer (some ⟨c2, 0, none⟩)]] w fun e w' => e = .returned (.int .i64 (fidx q zs)) ∧ Below w.heap.size w w' := by
  have H := Lib.hid h
  have HP := Lib.hid hp
  have hbig := h.rws.big
  unfold maxLen at hbig
  have HL := Lib.hid h.len
  clear h hp
  go_enter Try.func41, Try.ntmps41
  go_wp2
  go_loopg [5, 8] n (fun gg _ s8 wr => ∃ kk : Nat, kk ≤ n ∧ n - kk ≤ gg ∧ s8 = .int .i64 kk ∧ Hid (Below w.heap.size w wr) ∧ Hid (∀ j, j < kk → q (zs.getD j t0) = false))
  case atStart => exact ⟨0, Nat.zero_le _, by omega, rfl, Lib.hid (Below.refl _ w), Lib.hid (fun j hj => absurd hj (Nat.not_lt_zero _))⟩
  case round =>
    obtain ⟨kk, hkk, hg, rfl, BW, O⟩ := hrel
    by_cases hlt : kk < n
    · have hltz : (kk : Int) < (n : Int) := by omega
      obtain ⟨b, off, rfl, hbl, k0, k1, _⟩ := (H.out.below BW.out).get hlt
      have HQ := Lib.hid (HP.out (zs.getD kk t0) wr BW.out)
      have HV : Hid (∀ v, q (zs.getD kk t0) = v → q (zs.getD kk t0) = v) := Lib.hid (fun v h => h)
      generalize hz : zs.getD kk t0 = p at k0 k1 HQ HV
      have HZ := Lib.hid hz
      clear hz
      cases hq : q p with
      | true =>
        have HF := Lib.hid (fidx_at (q := q) (by rw [HL.out]; exact hlt) (by rw [HZ.out]; exact hq) O.out)
        rw [hq] at HQ
        clear hq HV
        go_wp2_with (go_at_call 40; (with_reducible refine HQ.out.mono ?_); rintro e w' ⟨rfl, hb'⟩)
        go_ret
        exact ⟨ret_i64 HF.out.symm, BW.out.trans (hb'.mono BW.out.size)⟩
      | false =>
        have HF := Lib.hid hq
        rw [hq] at HQ
        clear hq HV
        go_wp2_with (go_at_call 40; (with_reducible refine HQ.out.mono ?_); rintro e w' ⟨rfl, hb'⟩)
        go_roundg (n - (kk + 1))
        case measure => omega
        case rel =>
          refine ⟨kk + 1, by omega, by omega, by go_num, Lib.hid (BW.out.trans (hb'.mono BW.out.size)), Lib.hid (fun j hj => ?_)⟩
          by_cases e : j = kk
          · subst e; rw [HZ.out]; exact HF.out
          · exact O.out j (by omega)
    · have hltz : ¬ (kk : Int) < (n : Int) := by omega
      have HF := Lib.hid (fidx_no (q := q) (zs := zs) (fun j hj => O.out j (by rw [HL.out] at hj; omega)))
      go_wp2
      go_ret
      exact ⟨ret_i64 HF.out.symm, BW.out⟩
set_option maxHeartbeats 1000000 in
theorem clone51 (A : Option Addr) (n c : Nat) (L : Nat → List Value) (w : World) (h : Rws w A n c 2 L) (hb : n * 24 ≤ 140737488355328) :
    Calls Try.prog 51 #[.slice A n c] w fun e w' => ∃ A' c', e = .returned (.slice A' n c') ∧ CopyR w w' 44 2 n L A' c' := by
  obtain ⟨i0, hi, hz0, hz1, hz2⟩ := info_parts info44
  have HI := Lib.hid (And.intro hi (And.intro hz0 (And.intro hz1 hz2)))
  clear hi hz0 hz1 hz2
  have kn := fun (w : World) (a : Option Addr) (n c n' c' : Nat) => Lib.run_eql_slice_nil (P := Try.prog) w 22 44 a n c n' c' Try.underlying22
  cases A with
  | none =>
    obtain ⟨rfl, rfl⟩ := h.nil rfl
    clear h HI hb
    go_enter Try.func51, Try.ntmps51
    go_wp2
    go_ret
    exact ⟨none, 0, rfl, clone_nil w 44 2 L⟩
  | some ad =>
    have HS := Lib.hid (h.src.below ((Below.refl _ w).alloc (Nat.le_refl _) (.cells #[] 44)))
    have HO := Lib.hid (World.ownsRow_made (base := w.heap.size) (e := 44) (size := 2) w #[] 0 (Nat.le_refl _) (by decide) (by simp))
    clear h
    go_enter Try.func51, Try.ntmps51
    go_wp2_with (at_builtin; refine wpList_append_any _ rfl _ _ 22 rfl w.heap.size 44 i0 _ 2 24 Try.underlying22 HI.out.1 HI.out.2.1 HI.out.2.2.1 HI.out.2.2.2 rfl (by decide) _ 0 [] rfl HO.out (some ad) n c (flat n L) rfl HS.out (by unfold maxLen; omega) (by omega) (by simp) ?_; intro v3 w3 hgr; have HX := Lib.hid (clone_grew hgr); clear hgr)
    go_ret
    obtain ⟨A', c', rfl, hc⟩ := HX.out
    exact ⟨A', c', rfl, hc⟩

end Go.Proofs.Ytjifohepbmaebaa
