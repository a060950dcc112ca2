/- Who types: the predicates, slices.IndexFunc, slices.DeleteFunc, copied, Stop, Clean. Bound: at most 1000000 records. -/
import Derived.Test.YtjifohepbmaebaaT1
import Derived.Deep.Cut
import Derived.Deep.CutRange
namespace Go.Proofs.Ytjifohepbmaebaa
open Go.RowKit
set_option linter.unusedVariables false

theorem store_mid_as {P : Program} {ops : Array Oper} {rest : List Oper} {op : Oper} {a : Act} {w : World} {Q : Exit → Act → World → Prop} (hgd : op.guard = none) (ty : TypeId) (x y : Operand) (ho : op.op = .store ty x y)
    (b o : Nat) (cells : Array Value) (hx : a.eval x = .pointer (some ⟨b, o, none⟩)) (hy : a.eval y = .agg cells)
    (ht : w.there b o cells.size) (hi : (P.info? ty).map (·.size) = some cells.size) (h1 : cells.all (·.oneCell') = true)
    (h : ∀ w4, w4 = w.setCells b o cells.toList → wpList P ops Q rest (a.put op.dst undef) w4) : wpList P ops Q (op :: rest) a w :=
  wpList_store_mid hgd ty x y ho b o cells hx hy ht hi h1 (h _ rfl)
theorem Blk.thereAt {w : World} {t : Nat} {cs : List Value} {T : TypeId} (h : Blk w t cs T) (o n : Nat) (hn : o + n ≤ cs.length) : w.there t o n := fun j hj =>
  ⟨by rw [h.cell (List.getElem?_eq_getElem (by omega))]; rfl, h.free _⟩
theorem two_there {w : World} {g i : Nat} {ys : List Tp} (h : Blk w g (cl ys) 44) (hi : i < ys.length) : w.there g (i * 2) 2 := h.thereAt _ _ (by rw [cl_len]; omega)
theorem two_one (p : Tp) : (#[Value.string p.1, Value.int .i64 p.2] : Array Value).all (·.oneCell') = true := by simp [Value.oneCell']
theorem size22e (w : World) : (sizeOf (Try.prog.elem 22)).run Try.prog w = .ok 2 w := by kernel_rfl
theorem under22 : Try.prog.underlying 22 = some (.slice (Try.prog.elem 22)) := by kernel_rfl
/-- The tests of Stop and Clean. -/
def pu (x : ByteArray) (p : Tp) : Bool := p.1.toList == x.toList
def pc (now : Int) (p : Tp) : Bool := decide (p.2 ≤ now)
theorem pred31 (p : Tp) (x : ByteArray) (cb : Nat) (w : World) (hlt : cb < w.heap.size) (hc : w.cell? ⟨cb, 0, none⟩ = some (.string x)) :
    Calls Try.prog 31 #[.agg #[.string p.1, .int .i64 p.2], .pointer (some ⟨cb, 0, none⟩)] w fun e w' => e = .returned (.bool (pu x p)) ∧ Below w.heap.size w w' := by
  have hne : cb ≠ w.heap.size := by omega
  have HW := Lib.hid (Below.alloc (Below.refl w.heap.size w) (Nat.le_refl _) (.cells #[.string p.1, .int .i64 p.2] 44))
  go_enter Try.func31, Try.ntmps31
  go_wp2
  all_goals (go_ret; exact ⟨rfl, HW.out⟩)
theorem pred32 (p : Tp) (x : Int) (cb : Nat) (w : World) (hlt : cb < w.heap.size) (hc : w.cell? ⟨cb, 0, none⟩ = some (.int .i64 x)) :
    Calls Try.prog 32 #[.agg #[.string p.1, .int .i64 p.2], .pointer (some ⟨cb, 0, none⟩)] w fun e w' => e = .returned (.bool (pc x p)) ∧ Below w.heap.size w w' := by
  have hne : cb ≠ w.heap.size := by omega
  have HW := Lib.hid (Below.alloc (Below.refl w.heap.size w) (Nat.le_refl _) (.cells #[.string p.1, .int .i64 p.2] 44))
  go_enter Try.func32, Try.ntmps32
  go_wp2
  all_goals (go_ret; exact ⟨rfl, HW.out⟩)
/-- The place of the first record that meets a test, or -1. -/
def fidx (q : Tp → Bool) (zs : List Tp) : Int := if zs.findIdx q < zs.length then (zs.findIdx q : Int) else -1
theorem fidx_at {q : Tp → Bool} {zs : List Tp} {k : Nat} (hk : k < zs.length) (h : q (zs.getD k t0) = true) (hn : ∀ j, j < k → q (zs.getD j t0) = false) : fidx q zs = k := by
  have e : zs.findIdx q = k := by
    rw [List.findIdx_eq hk]
    refine ⟨?_, fun j hj => ?_⟩
    · rw [List.getD_eq_getElem?_getD, List.getElem?_eq_getElem hk] at h; exact h
    · have := hn j hj
      rw [List.getD_eq_getElem?_getD, List.getElem?_eq_getElem (by omega)] at this
      exact this
  unfold fidx
  rw [e, if_pos hk]
theorem fidx_no {q : Tp → Bool} {zs : List Tp} (hn : ∀ j, j < zs.length → q (zs.getD j t0) = false) : fidx q zs = -1 := by
  have e : zs.findIdx q = zs.length := by
    rw [List.findIdx_eq_length]
    intro x hx
    obtain ⟨j, hj, rfl⟩ := List.getElem_of_mem hx
    have := hn j hj
    rw [List.getD_eq_getElem?_getD, List.getElem?_eq_getElem hj] at this
    exact this
  unfold fidx
  rw [e, if_neg (Nat.lt_irrefl _)]
theorem fidx_cases (q : Tp → Bool) (zs : List Tp) : (fidx q zs = -1 ∧ ∀ p ∈ zs, q p = false) ∨ ∃ k, k < zs.length ∧ fidx q zs = (k : Int) ∧ q (zs.getD k t0) = true ∧ ∀ p ∈ zs.take k, q p = false := by
  unfold fidx
  by_cases h : zs.findIdx q < zs.length
  · right
    refine ⟨_, h, if_pos h, ?_, fun p hp => ?_⟩
    · rw [List.getD_eq_getElem?_getD, List.getElem?_eq_getElem h]
      exact List.findIdx_getElem (w := h)
    · obtain ⟨j, hj, rfl⟩ := List.getElem_of_mem hp
      have hj' : j < zs.findIdx q := by rw [List.length_take] at hj; omega
      rw [List.getElem_take]
      exact List.not_of_lt_findIdx hj'
  · left
    refine ⟨if_neg h, fun p hp => ?_⟩
    have e : zs.findIdx q = zs.length := Nat.le_antisymm List.findIdx_le_length (by omega)
    exact (List.findIdx_eq_length.1 e) p hp
theorem ret_slice {A : Option Addr} {n m c : Nat} (h : n = m) : Ending.returned (.slice A n c) = .returned (.slice A m c) := by rw [h]
/-- What is left by a filter, as the calls leave it. -/
def FilP (B : Nat) (w0 : World) (zs : List Tp) (e : Ending) (w' : World) : Prop := ∃ A c, e = .returned (.slice A zs.length c) ∧ Tps w' A zs.length c zs ∧ Below B w0 w' ∧ ∀ b off, A = some ⟨b, off, none⟩ → B ≤ b
theorem run_from22 {g i n : Nat} (hi : i < n) (hn : n ≤ 1000000) (w : World) : (Instr.sliceAt 22 (.slice (some ⟨g, 0, none⟩) n n) (some (.int .i64 (i : Int))) none none).run Try.prog w = .ok (.slice (some ⟨g, i * 2, none⟩) (n - i) (n - i)) w := by
  have hrun := run_slice_l (P := Try.prog) w 22 (some ⟨g, 0, none⟩) n n under22 .i64 (i : Int) (by omega) (by omega)
  rw [size22e] at hrun
  rw [run_sliceAt_slice w 22 _ _ _ _ under22, hrun]
  show Result.ok (sliced (some ⟨g, 0, none⟩) i n n 2) w = _
  congr 1
  unfold sliced
  rw [if_neg (by omega)]
  simp [Addr.add] <;> (intro h; exact h.symm)
theorem run_to22 {A : Option Addr} {n c : Nat} {k : Nat} (hk : k ≤ n) (hc : n ≤ c) (w : World) :
    (Instr.sliceAt 22 (.slice A n c) none (some (.int .i64 (k : Int))) none).run Try.prog w = .ok (.slice A k c) w := by
  have hrun := run_slice_h (P := Try.prog) w 22 A n c under22 .i64 (k : Int) (by omega) (by omega)
  rw [size22e] at hrun
  rw [run_sliceAt_slice w 22 _ _ _ _ under22, hrun]
  show Result.ok (sliced A 0 k c 2) w = _
  congr 1
  cases A <;> simp [sliced, Addr.add]
theorem filter_step {q : Tp → Bool} {zs : List Tp} {j : Nat} (hj : j < zs.length) : (zs.take (j + 1)).filter q = (zs.take j).filter q ++ if q (zs.getD j t0) then [zs.getD j t0] else [] := by
  rw [List.take_succ_eq_append_getElem hj, List.filter_append, List.getD_eq_getElem?_getD, List.getElem?_eq_getElem hj]
  simp [List.filter_cons]
/-- What holds while records are taken out. -/
structure DelI (q : Tp → Bool) (zs ys : List Tp) (i j n g B : Nat) (w wr : World) : Prop where
  len : ys.length = n
  done : ys.take i = (zs.take j).filter (fun p => !q p)
  rest : ∀ k, j ≤ k → ys.getD k t0 = zs.getD k t0
  blk : Blk wr g (cl ys) 44
  bel : Below B w wr
theorem DelI.start {q : Tp → Bool} {zs : List Tp} {k n g B : Nat} {w wr : World} (hl : zs.length = n) (hk : k < n) (h1 : q (zs.getD k t0) = true) (h2 : ∀ p ∈ zs.take k, q p = false) (hb : Blk wr g (cl zs) 44) (hbel : Below B w wr) : DelI q zs zs k (k + 1) n g B w wr := by
  refine ⟨hl, ?_, fun _ _ => rfl, hb, hbel⟩
  rw [filter_step (by omega), h1, List.filter_eq_self.2 (fun p hp => by rw [h2 p hp]; rfl)]
  simp
theorem DelI.skip {q : Tp → Bool} {zs ys : List Tp} {i j n g B : Nat} {w wr w3 : World} (h : DelI q zs ys i j n g B w wr) (hl : zs.length = n) (hj : j < n) (hq : q (zs.getD j t0) = true) (hb : Blk w3 g (cl ys) 44) (hbel : Below B w w3) : DelI q zs ys i (j + 1) n g B w w3 := by
  refine ⟨h.len, ?_, fun k hk => h.rest k (by omega), hb, hbel⟩
  rw [filter_step (by omega), hq, h.done]
  simp
theorem DelI.keep {q : Tp → Bool} {zs ys : List Tp} {i j n g B : Nat} {w wr w3 : World} (h : DelI q zs ys i j n g B w wr) (hl : zs.length = n) (hi : i < j) (hj : j < n) (hq : q (zs.getD j t0) = false) (hb : Blk w3 g (cl (ys.set i (zs.getD j t0))) 44) (hbel : Below B w w3) : DelI q zs (ys.set i (zs.getD j t0)) (i + 1) (j + 1) n g B w w3 := by
  have hy := h.len
  refine ⟨by rw [List.length_set]; exact hy, ?_, fun k hk => ?_, hb, hbel⟩
  · rw [filter_step (by omega), hq, ← h.done, List.take_succ_eq_append_getElem (by rw [List.length_set]; omega), List.take_set_of_le (Nat.le_refl _)]
    simp
  · have e : (ys.set i (zs.getD j t0)).getD k t0 = ys.getD k t0 := by simp only [List.getD_eq_getElem?_getD]; rw [List.getElem?_set_ne (by omega)]
    rw [e]; exact h.rest k (by omega)
theorem DelI.fin {q : Tp → Bool} {zs ys : List Tp} {i n g B : Nat} {w wr : World} (h : DelI q zs ys i n n g B w wr) (hl : zs.length = n) (hi : i ≤ n) : ys.take i = zs.filter (fun p => !q p) ∧ (zs.filter fun p => !q p).length = i := by
  have e := h.done
  rw [List.take_of_length_le (l := zs) (by omega)] at e
  exact ⟨e, by rw [← e, List.length_take, h.len]; omega⟩
set_option maxHeartbeats 1000000 in
theorem index31 (q : Tp → Bool) (cb : Nat) (A : Option Addr) (n c : Nat) (zs : List Tp) (w : World) (h : Tps w A n c zs) (hp : ∀ (p : Tp) (u : World), Below w.heap.size w u → Calls Try.prog 31 #[.agg #[.string p.1, .int .i64 p.2], .pointer (some ⟨cb, 0, none⟩)] u fun e w' => e = .returned (.bool (q p)) ∧ Below u.heap.size u w') :
    Calls Try.prog 41 #[.slice A n c, .func (.func 31) #[] #[.pointer (some ⟨cb, 0, none⟩)]] w fun e w' => e = .returned (.int .i64 (fidx q zs)) ∧ Below w.heap.size w w' := by
  have H := Lib.hid h
  have HP := Lib.hid hp
  have hbig := h.rws.big
  unfold maxLen at hbig
  have HL := Lib.hid h.len
  clear h hp
  go_enter Try.func41, Try.ntmps41
  go_wp2
  go_loopg [5, 8] n (fun gg _ s8 wr => ∃ kk : Nat, kk ≤ n ∧ n - kk ≤ gg ∧ s8 = .int .i64 kk ∧ Hid (Below w.heap.size w wr) ∧ Hid (∀ j, j < kk → q (zs.getD j t0) = false))
  case atStart => exact ⟨0, Nat.zero_le _, by omega, rfl, Lib.hid (Below.refl _ w), Lib.hid (fun j hj => absurd hj (Nat.not_lt_zero _))⟩
  case round =>
    obtain ⟨kk, hkk, hg, rfl, BW, O⟩ := hrel
    by_cases hlt : kk < n
    · have hltz : (kk : Int) < (n : Int) := by omega
      obtain ⟨b, off, rfl, hbl, k0, k1, _⟩ := (H.out.below BW.out).get hlt
      have HQ := Lib.hid (HP.out (zs.getD kk t0) wr BW.out)
      have HV : Hid (∀ v, q (zs.getD kk t0) = v → q (zs.getD kk t0) = v) := Lib.hid (fun v h => h)
      generalize hz : zs.getD kk t0 = p at k0 k1 HQ HV
      have HZ := Lib.hid hz
      clear hz
      cases hq : q p with
      | true =>
        have HF := Lib.hid (fidx_at (q := q) (by rw [HL.out]; exact hlt) (by rw [HZ.out]; exact hq) O.out)
        rw [hq] at HQ
        clear hq HV
        go_wp2_with (go_at_call 31; (with_reducible refine HQ.out.mono ?_); rintro e w' ⟨rfl, hb'⟩)
        go_ret
        exact ⟨ret_i64 HF.out.symm, BW.out.trans (hb'.mono BW.out.size)⟩
      | false =>
        have HF := Lib.hid hq
        rw [hq] at HQ
        clear hq HV
        go_wp2_with (go_at_call 31; (with_reducible refine HQ.out.mono ?_); rintro e w' ⟨rfl, hb'⟩)
        go_roundg (n - (kk + 1))
        case measure => omega
        case rel =>
          refine ⟨kk + 1, by omega, by omega, by go_num, Lib.hid (BW.out.trans (hb'.mono BW.out.size)), Lib.hid (fun j hj => ?_)⟩
          by_cases e : j = kk
          · subst e; rw [HZ.out]; exact HF.out
          · exact O.out j (by omega)
    · have hltz : ¬ (kk : Int) < (n : Int) := by omega
      have HF := Lib.hid (fidx_no (q := q) (zs := zs) (fun j hj => O.out j (by rw [HL.out] at hj; omega)))
      go_wp2
      go_ret
      exact ⟨ret_i64 HF.out.symm, BW.out⟩
set_option maxHeartbeats 1000000 in
theorem index32 (q : Tp → Bool) (cb : Nat) (A : Option Addr) (n c : Nat) (zs : List Tp) (w : World) (h : Tps w A n c zs) (hp : ∀ (p : Tp) (u : World), Below w.heap.size w u → Calls Try.prog 32 #[.agg #[.string p.1, .int .i64 p.2], .pointer (some ⟨cb, 0, none⟩)] u fun e w' => e = .returned (.bool (q p)) ∧ Below u.heap.size u w') :
    Calls Try.prog 41 #[.slice A n c, .func (.func 32) #[] #[.pointer (some ⟨cb, 0, none⟩)]] w fun e w' => e = .returned (.int .i64 (fidx q zs)) ∧ Below w.heap.size w w' := by
  have H := Lib.hid h
  have HP := Lib.hid hp
  have hbig := h.rws.big
  unfold maxLen at hbig
  have HL := Lib.hid h.len
  clear h hp
  go_enter Try.func41, Try.ntmps41
  go_wp2
  go_loopg [5, 8] n (fun gg _ s8 wr => ∃ kk : Nat, kk ≤ n ∧ n - kk ≤ gg ∧ s8 = .int .i64 kk ∧ Hid (Below w.heap.size w wr) ∧ Hid (∀ j, j < kk → q (zs.getD j t0) = false))
  case atStart => exact ⟨0, Nat.zero_le _, by omega, rfl, Lib.hid (Below.refl _ w), Lib.hid (fun j hj => absurd hj (Nat.not_lt_zero _))⟩
  case round =>
    obtain ⟨kk, hkk, hg, rfl, BW, O⟩ := hrel
    by_cases hlt : kk < n
    · have hltz : (kk : Int) < (n : Int) := by omega
      obtain ⟨b, off, rfl, hbl, k0, k1, _⟩ := (H.out.below BW.out).get hlt
      have HQ := Lib.hid (HP.out (zs.getD kk t0) wr BW.out)
      have HV : Hid (∀ v, q (zs.getD kk t0) = v → q (zs.getD kk t0) = v) := Lib.hid (fun v h => h)
      generalize hz : zs.getD kk t0 = p at k0 k1 HQ HV
      have HZ := Lib.hid hz
      clear hz
      cases hq : q p with
      | true =>
        have HF := Lib.hid (fidx_at (q := q) (by rw [HL.out]; exact hlt) (by rw [HZ.out]; exact hq) O.out)
        rw [hq] at HQ
        clear hq HV
        go_wp2_with (go_at_call 32; (with_reducible refine HQ.out.mono ?_); rintro e w' ⟨rfl, hb'⟩)
        go_ret
        exact ⟨ret_i64 HF.out.symm, BW.out.trans (hb'.mono BW.out.size)⟩
      | false =>
        have HF := Lib.hid hq
        rw [hq] at HQ
        clear hq HV
        go_wp2_with (go_at_call 32; (with_reducible refine HQ.out.mono ?_); rintro e w' ⟨rfl, hb'⟩)
        go_roundg (n - (kk + 1))
        case measure => omega
        case rel =>
          refine ⟨kk + 1, by omega, by omega, by go_num, Lib.hid (BW.out.trans (hb'.mono BW.out.size)), Lib.hid (fun j hj => ?_)⟩
          by_cases e : j = kk
          · subst e; rw [HZ.out]; exact HF.out
          · exact O.out j (by omega)
    · have hltz : ¬ (kk : Int) < (n : Int) := by omega
      have HF := Lib.hid (fidx_no (q := q) (zs := zs) (fun j hj => O.out j (by rw [HL.out] at hj; omega)))
      go_wp2
      go_ret
      exact ⟨ret_i64 HF.out.symm, BW.out⟩
set_option maxRecDepth 100000 in
set_option maxHeartbeats 2000000 in
theorem delete31 (q : Tp → Bool) (cb : Nat) (g n B : Nat) (zs : List Tp) (w : World) (hb : Blk w g (cl zs) 44) (hl : zs.length = n) (hn : n ≤ 1000000) (hB : B ≤ g) (hf : ∀ p ∈ zs, p.1.size ≤ 9223372036854775807)
    (hp : ∀ (p : Tp) (u : World), Below B w u → Calls Try.prog 31 #[.agg #[.string p.1, .int .i64 p.2], .pointer (some ⟨cb, 0, none⟩)] u fun e w' => e = .returned (.bool (q p)) ∧ Below u.heap.size u w') :
    Calls Try.prog 29 #[.slice (some ⟨g, 0, none⟩) n n, .func (.func 31) #[] #[.pointer (some ⟨cb, 0, none⟩)]] w (FilP B w (zs.filter fun p => !q p)) := by
  have HX := Lib.hid hb
  have HL := Lib.hid hl
  have HF := Lib.hid hf
  have hgl := hb.lt
  have HP := Lib.hid hp
  have HT := Lib.hid (Tps.ofBlk (n := n) (c := n) hb (by rw [cl_take, List.take_of_length_le (by omega)]) hl (Nat.le_refl _) (by omega) hf)
  have HI := Lib.hid (index31 q cb (some ⟨g, 0, none⟩) n n zs w HT.out (fun p u hu => hp p u (hu.mono (by omega))))
  clear hb hl hf hp
  rcases fidx_cases q zs with ⟨h1, h2⟩ | ⟨k, hk, h1, h2, h3⟩
  · have HE := Lib.hid (show zs.filter (fun p => !q p) = zs from List.filter_eq_self.2 (fun p hp => by rw [h2 p hp]; rfl))
    rw [h1] at HI
    clear h1 h2
    go_enter Try.func29, Try.ntmps29
    go_wp2_with (go_at_call 41; (with_reducible refine HI.out.mono ?_); rintro e w' ⟨rfl, hb'⟩)
    go_ret
    rw [HE.out]
    refine ⟨some ⟨g, 0, none⟩, n, ret_slice HL.out.symm, ?_, hb'.mono (by omega), fun b off e => by cases e; exact hB⟩
    rw [HL.out]
    exact HT.out.below hb'
  · rw [h1] at HI
    rw [HL.out] at hk
    have hkm : ((k : Int) == -1) = false := by simp
    have H2 := Lib.hid h2
    have H3 := Lib.hid h3
    clear h1 h2 h3
    go_enter Try.func29, Try.ntmps29
    go_wp2_with (go_at_call 41; (with_reducible refine HI.out.mono ?_); rintro e w1 ⟨rfl, hb1⟩; have B1 := Lib.hid hb1; clear hb1)
    have HK := Lib.hid hk
    have HSz := Lib.hid (show B ≤ w1.heap.size by have := B1.out.size; omega)
    have HD := Lib.hid (DelI.start (q := q) (B := B) (w := w) HL.out HK.out H2.out H3.out (HX.out.below B1.out) (B1.out.mono (by omega)))
    clear HI H2 H3 B1
    go_loopg [5, 6, 7] n (fun gg s5 s6 _ wr => ∃ (i j : Nat) (ys : List Tp), i < j ∧ j ≤ n ∧ n - j ≤ gg ∧ s5 = .int .i64 i ∧ s6 = .int .i64 j ∧ Hid (DelI q zs ys i j n g B w wr))
    case atStart => exact ⟨k, k + 1, zs, by omega, by omega, by omega, rfl, by go_num, HD⟩
    case round =>
      obtain ⟨i, j, ys, hij, hjn, hgg, rfl, rfl, HJ⟩ := hrel
      have HBw := Lib.hid (HJ.out.bel.size)
      by_cases hlt : j < n
      · have hltz : (j : Int) < (n : Int) := by omega
        have hyj := HJ.out.rest j (Nat.le_refl _)
        have k0 := HJ.out.blk.cell (cl_get0 ys j (by rw [HJ.out.len]; exact hlt))
        have k1 := HJ.out.blk.cell (cl_get1 ys j (by rw [HJ.out.len]; exact hlt))
        rw [hyj] at k0 k1
        have hgl2 := HJ.out.blk.lt
        have HSk := Lib.hid (fun w3 => DelI.skip (w3 := w3) HJ.out HL.out hlt)
        have HKe := Lib.hid (fun w3 => DelI.keep (w3 := w3) HJ.out HL.out hij hlt)
        clear hyj
        generalize zs.getD j t0 = p at k0 k1 HSk HKe
        have HA := Lib.hid (HJ.out.bel.alloc (by have := HBw.out; have := HSz.out; omega) (.cells #[.string p.1, .int .i64 p.2] 44))
        have HQ := Lib.hid (HP.out p _ HA.out)
        have XG := Lib.hid (HJ.out.blk.alloc (.cells #[.string p.1, .int .i64 p.2] 44))
        have XN := Lib.hid (blk_new wr [.string p.1, .int .i64 p.2] 44)
        cases hq : q p with
        | true =>
          have HF := Lib.hid hq
          rw [hq] at HQ
          clear hq
          go_wp2_with (go_at_call 31; (with_reducible refine HQ.out.mono ?_); rintro e w3 ⟨rfl, hb3⟩; have X3 := Lib.hid (XG.out.below hb3); have B3 := Lib.hid (HA.out.trans (hb3.mono (Nat.le_trans (show B ≤ w.heap.size by omega) HA.out.size))))
          go_roundg (n - (j + 1))
          case measure => omega
          case rel => exact ⟨i, j + 1, ys, by omega, by omega, by omega, rfl, by go_num, Lib.hid (HSk.out _ HF.out X3.out B3.out)⟩
        | false =>
          have HF := Lib.hid hq
          rw [hq] at HQ
          clear hq
          have hin : i < n := by omega
          have hinz : (i : Int) < (n : Int) := by omega
          go_wp2_with (first
            | (go_at_call 31; (with_reducible refine HQ.out.mono ?_); rintro e w3 ⟨rfl, hb3⟩; have X3 := Lib.hid (XG.out.below hb3); have B3 := Lib.hid (HA.out.trans (hb3.mono (Nat.le_trans (show B ≤ w.heap.size by omega) HA.out.size))); have c0 := (XN.out.below hb3).cell (i := 0) rfl; have c1 := (XN.out.below hb3).cell (i := 1) rfl)
            | (refine store_mid_as rfl 44 _ _ rfl g (i * 2) #[.string p.1, .int .i64 p.2] rfl rfl (two_there X3.out (by rw [HJ.out.len]; exact hin)) size44 (two_one _) ?_; intro w4 e4; have X4 : Hid (Blk w4 g (cl (ys.set i p)) 44) := Lib.hid (by rw [e4]; exact X3.out.put i p (by rw [HJ.out.len]; exact hin)); have B4 : Hid (Below B w w4) := Lib.hid (by rw [e4]; exact below_setAll hB _ _ _ B3.out); clear e4 c0 c1))
          go_roundg (n - (j + 1))
          case measure => omega
          case rel => exact ⟨i + 1, j + 1, ys.set i p, by omega, by omega, by omega, by go_num, by go_num, Lib.hid (HKe.out _ HF.out X4.out B4.out)⟩
      · have hltz : ¬ (j : Int) < (n : Int) := by omega
        obtain rfl : j = n := by omega
        have HR := Lib.hid (HJ.out.fin HL.out (by omega))
        have r1 := run_from22 (g := g) hij hn
        have r2 := run_to22 (A := some ⟨g, 0, none⟩) (n := j) (c := j) (k := i) (by omega) (Nat.le_refl _)
        go_wp2_with (with_reducible refine wpList_clear_blk rfl (.tmp 38) rfl rfl g i (j - i) (j - i) (cl ys) rfl (by omega) HJ.out.blk (by rw [cl_len, HJ.out.len]; omega) B w HJ.out.bel hB ?_; intro w4 cs hb4 hc4 hbel4; have X4 := Lib.hid hb4; have C4 := Lib.hid hc4; have B4 := Lib.hid hbel4; clear hb4 hc4 hbel4)
        go_ret
        obtain ⟨e1, e2⟩ := HR.out
        refine ⟨some ⟨g, 0, none⟩, j, ret_slice e2.symm, ?_, B4.out, fun b off e => by cases e; exact hB⟩
        rw [e2]
        exact Tps.ofBlk X4.out (by rw [C4.out, cl_take, e1]) e2 (by omega) (by omega) (fun p hp => HF.out p ((List.mem_filter.1 hp).1))
set_option maxRecDepth 100000 in
set_option maxHeartbeats 2000000 in
theorem delete32 (q : Tp → Bool) (cb : Nat) (g n B : Nat) (zs : List Tp) (w : World) (hb : Blk w g (cl zs) 44) (hl : zs.length = n) (hn : n ≤ 1000000) (hB : B ≤ g) (hf : ∀ p ∈ zs, p.1.size ≤ 9223372036854775807)
    (hp : ∀ (p : Tp) (u : World), Below B w u → Calls Try.prog 32 #[.agg #[.string p.1, .int .i64 p.2], .pointer (some ⟨cb, 0, none⟩)] u fun e w' => e = .returned (.bool (q p)) ∧ Below u.heap.size u w') :
    Calls Try.prog 29 #[.slice (some ⟨g, 0, none⟩) n n, .func (.func 32) #[] #[.pointer (some ⟨cb, 0, none⟩)]] w (FilP B w (zs.filter fun p => !q p)) := by
  have HX := Lib.hid hb
  have HL := Lib.hid hl
  have HF := Lib.hid hf
  have hgl := hb.lt
  have HP := Lib.hid hp
  have HT := Lib.hid (Tps.ofBlk (n := n) (c := n) hb (by rw [cl_take, List.take_of_length_le (by omega)]) hl (Nat.le_refl _) (by omega) hf)
  have HI := Lib.hid (index32 q cb (some ⟨g, 0, none⟩) n n zs w HT.out (fun p u hu => hp p u (hu.mono (by omega))))
  clear hb hl hf hp
  rcases fidx_cases q zs with ⟨h1, h2⟩ | ⟨k, hk, h1, h2, h3⟩
  · have HE := Lib.hid (show zs.filter (fun p => !q p) = zs from List.filter_eq_self.2 (fun p hp => by rw [h2 p hp]; rfl))
    rw [h1] at HI
    clear h1 h2
    go_enter Try.func29, Try.ntmps29
    go_wp2_with (go_at_call 41; (with_reducible refine HI.out.mono ?_); rintro e w' ⟨rfl, hb'⟩)
    go_ret
    rw [HE.out]
    refine ⟨some ⟨g, 0, none⟩, n, ret_slice HL.out.symm, ?_, hb'.mono (by omega), fun b off e => by cases e; exact hB⟩
    rw [HL.out]
    exact HT.out.below hb'
  · rw [h1] at HI
    rw [HL.out] at hk
    have hkm : ((k : Int) == -1) = false := by simp
    have H2 := Lib.hid h2
    have H3 := Lib.hid h3
    clear h1 h2 h3
    go_enter Try.func29, Try.ntmps29
    go_wp2_with (go_at_call 41; (with_reducible refine HI.out.mono ?_); rintro e w1 ⟨rfl, hb1⟩; have B1 := Lib.hid hb1; clear hb1)
    have HK := Lib.hid hk
    have HSz := Lib.hid (show B ≤ w1.heap.size by have := B1.out.size; omega)
    have HD := Lib.hid (DelI.start (q := q) (B := B) (w := w) HL.out HK.out H2.out H3.out (HX.out.below B1.out) (B1.out.mono (by omega)))
    clear HI H2 H3 B1
    go_loopg [5, 6, 7] n (fun gg s5 s6 _ wr => ∃ (i j : Nat) (ys : List Tp), i < j ∧ j ≤ n ∧ n - j ≤ gg ∧ s5 = .int .i64 i ∧ s6 = .int .i64 j ∧ Hid (DelI q zs ys i j n g B w wr))
    case atStart => exact ⟨k, k + 1, zs, by omega, by omega, by omega, rfl, by go_num, HD⟩
    case round =>
      obtain ⟨i, j, ys, hij, hjn, hgg, rfl, rfl, HJ⟩ := hrel
      have HBw := Lib.hid (HJ.out.bel.size)
      by_cases hlt : j < n
      · have hltz : (j : Int) < (n : Int) := by omega
        have hyj := HJ.out.rest j (Nat.le_refl _)
        have k0 := HJ.out.blk.cell (cl_get0 ys j (by rw [HJ.out.len]; exact hlt))
        have k1 := HJ.out.blk.cell (cl_get1 ys j (by rw [HJ.out.len]; exact hlt))
        rw [hyj] at k0 k1
        have hgl2 := HJ.out.blk.lt
        have HSk := Lib.hid (fun w3 => DelI.skip (w3 := w3) HJ.out HL.out hlt)
        have HKe := Lib.hid (fun w3 => DelI.keep (w3 := w3) HJ.out HL.out hij hlt)
        clear hyj
        generalize zs.getD j t0 = p at k0 k1 HSk HKe
        have HA := Lib.hid (HJ.out.bel.alloc (by have := HBw.out; have := HSz.out; omega) (.cells #[.string p.1, .int .i64 p.2] 44))
        have HQ := Lib.hid (HP.out p _ HA.out)
        have XG := Lib.hid (HJ.out.blk.alloc (.cells #[.string p.1, .int .i64 p.2] 44))
        have XN := Lib.hid (blk_new wr [.string p.1, .int .i64 p.2] 44)
        cases hq : q p with
        | true =>
          have HF := Lib.hid hq
          rw [hq] at HQ
          clear hq
          go_wp2_with (go_at_call 32; (with_reducible refine HQ.out.mono ?_); rintro e w3 ⟨rfl, hb3⟩; have X3 := Lib.hid (XG.out.below hb3); have B3 := Lib.hid (HA.out.trans (hb3.mono (Nat.le_trans (show B ≤ w.heap.size by omega) HA.out.size))))
          go_roundg (n - (j + 1))
          case measure => omega
          case rel => exact ⟨i, j + 1, ys, by omega, by omega, by omega, rfl, by go_num, Lib.hid (HSk.out _ HF.out X3.out B3.out)⟩
        | false =>
          have HF := Lib.hid hq
          rw [hq] at HQ
          clear hq
          have hin : i < n := by omega
          have hinz : (i : Int) < (n : Int) := by omega
          go_wp2_with (first
            | (go_at_call 32; (with_reducible refine HQ.out.mono ?_); rintro e w3 ⟨rfl, hb3⟩; have X3 := Lib.hid (XG.out.below hb3); have B3 := Lib.hid (HA.out.trans (hb3.mono (Nat.le_trans (show B ≤ w.heap.size by omega) HA.out.size))); have c0 := (XN.out.below hb3).cell (i := 0) rfl; have c1 := (XN.out.below hb3).cell (i := 1) rfl)
            | (refine store_mid_as rfl 44 _ _ rfl g (i * 2) #[.string p.1, .int .i64 p.2] rfl rfl (two_there X3.out (by rw [HJ.out.len]; exact hin)) size44 (two_one _) ?_; intro w4 e4; have X4 : Hid (Blk w4 g (cl (ys.set i p)) 44) := Lib.hid (by rw [e4]; exact X3.out.put i p (by rw [HJ.out.len]; exact hin)); have B4 : Hid (Below B w w4) := Lib.hid (by rw [e4]; exact below_setAll hB _ _ _ B3.out); clear e4 c0 c1))
          go_roundg (n - (j + 1))
          case measure => omega
          case rel => exact ⟨i + 1, j + 1, ys.set i p, by omega, by omega, by omega, by go_num, by go_num, Lib.hid (HKe.out _ HF.out X4.out B4.out)⟩
      · have hltz : ¬ (j : Int) < (n : Int) := by omega
        obtain rfl : j = n := by omega
        have HR := Lib.hid (HJ.out.fin HL.out (by omega))
        have r1 := run_from22 (g := g) hij hn
        have r2 := run_to22 (A := some ⟨g, 0, none⟩) (n := j) (c := j) (k := i) (by omega) (Nat.le_refl _)
        go_wp2_with (with_reducible refine wpList_clear_blk rfl (.tmp 38) rfl rfl g i (j - i) (j - i) (cl ys) rfl (by omega) HJ.out.blk (by rw [cl_len, HJ.out.len]; omega) B w HJ.out.bel hB ?_; intro w4 cs hb4 hc4 hbel4; have X4 := Lib.hid hb4; have C4 := Lib.hid hc4; have B4 := Lib.hid hbel4; clear hb4 hc4 hbel4)
        go_ret
        obtain ⟨e1, e2⟩ := HR.out
        refine ⟨some ⟨g, 0, none⟩, j, ret_slice e2.symm, ?_, B4.out, fun b off e => by cases e; exact hB⟩
        rw [e2]
        exact Tps.ofBlk X4.out (by rw [C4.out, cl_take, e1]) e2 (by omega) (by omega) (fun p hp => HF.out p ((List.mem_filter.1 hp).1))
end Go.Proofs.Ytjifohepbmaebaa
