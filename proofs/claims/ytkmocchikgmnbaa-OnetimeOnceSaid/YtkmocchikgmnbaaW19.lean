/- One-time keys: slices.DeleteFunc at entries (turned by program out of layer 38's). Bound: at most 1000000 entries. -/
import Derived.Test.YtkmocchikgmnbaaW18
import Derived.Deep.CutRange
namespace Go.Proofs.Ytkmocchikgmnbaa
open Go.RowKit
set_option linter.unusedVariables false
set_option linter.unusedSimpArgs false

theorem store_mid_as {P : Program} {ops : Array Oper} {rest : List Oper} {op : Oper} {a : Act} {w : World} {Q : Exit → Act → World → Prop} (hgd : op.guard = none) (ty : TypeId) (x y : Operand) (ho : op.op = .store ty x y)
    (b o : Nat) (cells : Array Value) (hx : a.eval x = .pointer (some ⟨b, o, none⟩)) (hy : a.eval y = .agg cells)
    (ht : w.there b o cells.size) (hi : (P.info? ty).map (·.size) = some cells.size) (h1 : cells.all (·.oneCell') = true)
    (h : ∀ w4, w4 = w.setCells b o cells.toList → wpList P ops Q rest (a.put op.dst undef) w4) : wpList P ops Q (op :: rest) a w :=
  wpList_store_mid hgd ty x y ho b o cells hx hy ht hi h1 (h _ rfl)
theorem Blk.thereAt {w : World} {t : Nat} {cs : List Value} {T : TypeId} (h : Blk w t cs T) (o n : Nat) (hn : o + n ≤ cs.length) : w.there t o n := fun j hj =>
  ⟨by rw [h.cell (List.getElem?_eq_getElem (by omega))]; rfl, h.free _⟩
theorem two_there {w : World} {g i : Nat} {ys : List Rc} {R : List Value} (h : Blk w g (cl ys ++ R) 45) (hi : i < ys.length) : w.there g (i * 4) 4 := h.thereAt _ _ (by rw [List.length_append, cl_len]; omega)
theorem two_one (p : Rc) : (#[Value.string p.us, Value.string p.dv, Value.int .i64 p.nx, Value.int .i64 p.lf] : Array Value).all (·.oneCell') = true := by simp [Value.oneCell']
set_option maxRecDepth 100000 in
theorem run_from22 {g i n c : Nat} (hi : i < n) (hn : n ≤ c) (w : World) : (Instr.sliceAt 22 (.slice (some ⟨g, 0, none⟩) n c) (some (.int .i64 (i : Int))) none none).run Try.prog w = .ok (.slice (some ⟨g, i * 4, none⟩) (n - i) (c - i)) w := by
  have hrun := run_slice_l (P := Try.prog) w 22 (some ⟨g, 0, none⟩) n c under22 .i64 (i : Int) (by omega) (by omega)
  rw [size22e] at hrun
  rw [run_sliceAt_slice w 22 _ _ _ _ under22, hrun]
  show Result.ok (sliced (some ⟨g, 0, none⟩) i n c 4) w = _
  congr 1
  unfold sliced
  rw [if_neg (by omega)]
  simp [Addr.add] <;> (intro h; exact h.symm)
set_option maxRecDepth 100000 in
theorem run_to22 {A : Option Addr} {n c : Nat} {k : Nat} (hk : k ≤ n) (hc : n ≤ c) (w : World) :
    (Instr.sliceAt 22 (.slice A n c) none (some (.int .i64 (k : Int))) none).run Try.prog w = .ok (.slice A k c) w := by
  have hrun := run_slice_h (P := Try.prog) w 22 A n c under22 .i64 (k : Int) (by omega) (by omega)
  rw [size22e] at hrun
  rw [run_sliceAt_slice w 22 _ _ _ _ under22, hrun]
  show Result.ok (sliced A 0 k c 4) w = _
  congr 1
  cases A <;> simp [sliced, Addr.add]
theorem filter_step {q : Rc → Bool} {zs : List Rc} {j : Nat} (hj : j < zs.length) : (zs.take (j + 1)).filter q = (zs.take j).filter q ++ if q (zs.getD j t0) then [zs.getD j t0] else [] := by
  rw [List.take_succ_eq_append_getElem hj, List.filter_append, List.getD_eq_getElem?_getD, List.getElem?_eq_getElem hj]
  simp [List.filter_cons]
/-- What holds while records are taken out. -/
structure DelI (R : List Value) (q : Rc → Bool) (zs ys : List Rc) (i j n g B : Nat) (w wr : World) : Prop where
  len : ys.length = n
  done : ys.take i = (zs.take j).filter (fun p => !q p)
  rest : ∀ k, j ≤ k → ys.getD k t0 = zs.getD k t0
  blk : Blk wr g (cl ys ++ R) 45
  bel : Below B w wr
theorem DelI.start {R : List Value} {q : Rc → Bool} {zs : List Rc} {k n g B : Nat} {w wr : World} (hl : zs.length = n) (hk : k < n) (h1 : q (zs.getD k t0) = true) (h2 : ∀ p ∈ zs.take k, q p = false) (hb : Blk wr g (cl zs ++ R) 45) (hbel : Below B w wr) : DelI R q zs zs k (k + 1) n g B w wr := by
  refine ⟨hl, ?_, fun _ _ => rfl, hb, hbel⟩
  rw [filter_step (by omega), h1, List.filter_eq_self.2 (fun p hp => by rw [h2 p hp]; rfl)]
  simp
theorem DelI.skip {R : List Value} {q : Rc → Bool} {zs ys : List Rc} {i j n g B : Nat} {w wr w3 : World} (h : DelI R q zs ys i j n g B w wr) (hl : zs.length = n) (hj : j < n) (hq : q (zs.getD j t0) = true) (hb : Blk w3 g (cl ys ++ R) 45) (hbel : Below B w w3) : DelI R q zs ys i (j + 1) n g B w w3 := by
  refine ⟨h.len, ?_, fun k hk => h.rest k (by omega), hb, hbel⟩
  rw [filter_step (by omega), hq, h.done]
  simp
theorem DelI.keep {R : List Value} {q : Rc → Bool} {zs ys : List Rc} {i j n g B : Nat} {w wr w3 : World} (h : DelI R q zs ys i j n g B w wr) (hl : zs.length = n) (hi : i < j) (hj : j < n) (hq : q (zs.getD j t0) = false) (hb : Blk w3 g (cl (ys.set i (zs.getD j t0)) ++ R) 45) (hbel : Below B w w3) : DelI R q zs (ys.set i (zs.getD j t0)) (i + 1) (j + 1) n g B w w3 := by
  have hy := h.len
  refine ⟨by rw [List.length_set]; exact hy, ?_, fun k hk => ?_, hb, hbel⟩
  · rw [filter_step (by omega), hq, ← h.done, List.take_succ_eq_append_getElem (by rw [List.length_set]; omega), List.take_set_of_le (Nat.le_refl _)]
    simp
  · have e : (ys.set i (zs.getD j t0)).getD k t0 = ys.getD k t0 := by simp only [List.getD_eq_getElem?_getD]; rw [List.getElem?_set_ne (by omega)]
    rw [e]; exact h.rest k (by omega)
theorem DelI.fin {R : List Value} {q : Rc → Bool} {zs ys : List Rc} {i n g B : Nat} {w wr : World} (h : DelI R q zs ys i n n g B w wr) (hl : zs.length = n) (hi : i ≤ n) : ys.take i = zs.filter (fun p => !q p) ∧ (zs.filter fun p => !q p).length = i := by
  have e := h.done
  rw [List.take_of_length_le (l := zs) (by omega)] at e
  exact ⟨e, by rw [← e, List.length_take, h.len]; omega⟩
/-- clear of the end of a row of the call's own. -/
theorem wpList_clear_blk {ops : Array Oper} {rest : List Oper} {o : Oper} {a : Act} {Q : Exit → Act → World → Prop} {w : World} (hgd : o.guard = none) (x : Operand)
    (ho : o.op = .call { callee := .builtin .clear, args := #[x], argTypes := #[22] }) (hd : o.dst = none) (g k m c : Nat) (cur : List Value) (hx : a.eval x = .slice (some ⟨g, k * 4, none⟩) m c) (hm : 0 < m) (hb : Blk w g cur 45) (hl : (k + m) * 4 ≤ cur.length) (B : Nat) (w0 : World) (hbel : Below B w0 w) (hBg : B ≤ g)
    (hK : ∀ w' cs, Blk w' g cs 45 → cs.take (k * 4) = cur.take (k * 4) → Below B w0 w' → wpList Try.prog ops Q rest a w') : wpList Try.prog ops Q (o :: rest) a w := by
  obtain ⟨i0, hi, hz0, hz1, hz2⟩ := info_parts info45
  obtain ⟨m', rfl⟩ : ∃ m', m = m' + 1 := ⟨m - 1, by omega⟩
  refine wpList_plain hgd fun K hK' => ?_
  obtain ⟨zc, hzc⟩ : ∃ zc, (Builtin.zeroCells (Value.agg #[.string ⟨#[]⟩, .string ⟨#[]⟩, .int .i64 0, .int .i64 0]).cells (m' + 1)).toList = zc := ⟨_, rfl⟩
  have hzl : zc.length = (m' + 1) * 4 := by rw [← hzc]; simp [Builtin.zeroCells, Value.cells]
  have hone : ∀ v ∈ zc, v.oneCell' = true := by
    intro v hv
    rw [← hzc] at hv
    simp only [Builtin.zeroCells, Array.toList_map, List.mem_map] at hv
    obtain ⟨i, _, rfl⟩ := hv
    show (#[Value.string ⟨#[]⟩, Value.string ⟨#[]⟩, Value.int .i64 0, Value.int .i64 0][i % 4]!).oneCell' = true
    rcases (show i % 4 = 0 ∨ i % 4 = 1 ∨ i % 4 = 2 ∨ i % 4 = 3 by omega) with e | e | e | e <;> rw [e] <;> rfl
  have hst := run_storeCells_at Try.prog g (k * 4) 45 zc 0 cur.toArray w hb.heap (by simp [hzl]; omega) hone
  have hzv : (zeroValue 45).run Try.prog w = .ok (.agg #[.string ⟨#[]⟩, .string ⟨#[]⟩, .int .i64 0, .int .i64 0]) w := by simp [zeroValue, typeInfo, hi, hz0]
  have hr : (Builtin.clear_ #[22] o.type #[.slice (some ⟨g, k * 4, none⟩) (m' + 1) c]).run Try.prog w = .ok (.tuple #[]) (w.setRow g ((cur.take (k * 4 + 0) ++ zc ++ cur.drop (k * 4 + 0 + zc.length)).toArray)) := by
    simp only [Builtin.clear_]
    simp [run_underlying Try.underlying22, hzv, hzc, hst]
  unfold Oper.wp
  simp only [execOp, ho, resolve, invoke, builtin, Sem.run_bind, Sem.run_pure, Result.andThen_ok, List.map_toArray, List.map_cons, List.map_nil, hx, hr]
  rw [Oper.upon_value, hd]
  refine hK' _ _ (hK _ _ ⟨setRow_heap w g cur.toArray _ 45 (0, 0) hb.heap⟩ ?_ (below_setRow hbel hBg _))
  rw [Nat.add_zero, List.append_assoc, List.take_append_of_le_length (by rw [List.length_take]; omega), List.take_take, Nat.min_self]
theorem Blk.put {w : World} {g : Nat} {zs : List Rc} {R : List Value} (h : Blk w g (cl zs ++ R) 45) (k : Nat) (p : Rc) (hk : k < zs.length) : Blk (w.setCells g (k * 4) [.string p.us, .string p.dv, .int .i64 p.nx, .int .i64 p.lf]) g (cl (zs.set k p) ++ R) 45 := by
  have h1 := h.setMid (k * 4) (enc p) (by rw [List.length_append, cl_len, enc_len]; omega)
  have h2 := splice_set (n := zs.length) p (cs := cl zs) (zs := zs) (k := k) (List.take_of_length_le (by rw [cl_len]; omega)) rfl hk (by rw [cl_len]; omega)
  rw [List.take_of_length_le (by unfold splice; simp [cl_len, enc_len]; omega)] at h2
  have h3 : splice (cl zs ++ R) (k * 4) (enc p) = splice (cl zs) (k * 4) (enc p) ++ R := by
    unfold splice
    rw [List.take_append_of_le_length (by rw [cl_len]; omega), List.drop_append_of_le_length (by rw [cl_len, enc_len]; omega)]
    simp only [List.append_assoc]
  rw [h3, h2] at h1
  exact h1
set_option maxRecDepth 100000 in
set_option maxHeartbeats 2000000 in
theorem delete31 (q : Rc → Bool) (cb : Nat) (g n c B : Nat) (R : List Value) (zs : List Rc) (w : World) (hb : Blk w g (cl zs ++ R) 45) (hc : n ≤ c) (hcc : c * 4 ≤ (cl zs ++ R).length) (hl : zs.length = n) (hn : n ≤ 1000000) (hB : B ≤ g) (hf : ∀ p ∈ zs, fitR p)
    (hp : ∀ (p : Rc) (u : World), Below B w u → Calls Try.prog 31 #[.agg #[.string p.us, .string p.dv, .int .i64 p.nx, .int .i64 p.lf], .pointer (some ⟨cb, 0, none⟩)] u fun e w' => e = .returned (.bool (q p)) ∧ Below u.heap.size u w') :
    Calls Try.prog 29 #[.slice (some ⟨g, 0, none⟩) n c, .func (.func 31) #[] #[.pointer (some ⟨cb, 0, none⟩)]] w (FilP B w (zs.filter fun p => !q p)) := by
  have HX := Lib.hid hb
  have HL := Lib.hid hl
  have HF := Lib.hid hf
  have hgl := hb.lt
  have HP := Lib.hid hp
  have HT := Lib.hid (Rcs.ofBlk (n := n) (c := c) hb (by rw [List.take_append_of_le_length (by rw [cl_len]; omega), cl_take _ _ (by omega), List.take_of_length_le (by omega)]) hl hc (by omega) hf)
  have HI := Lib.hid (index31 q cb (some ⟨g, 0, none⟩) n c zs w HT.out (fun p u hu => hp p u (hu.mono (by omega))))
  clear hb hl hf hp
  rcases fidx_cases q zs with ⟨h1, h2⟩ | ⟨k, hk, h1, h2, h3⟩
  · have HE := Lib.hid (show zs.filter (fun p => !q p) = zs from List.filter_eq_self.2 (fun p hp => by rw [h2 p hp]; rfl))
    rw [h1] at HI
    clear h1 h2
    go_enter Try.func29, Try.ntmps29
    go_wp2_with (go_at_call 38; (with_reducible refine HI.out.mono ?_); rintro e w' ⟨rfl, hb'⟩)
    go_ret
    rw [HE.out]
    refine ⟨some ⟨g, 0, none⟩, c, ret_slice HL.out.symm, ?_, hb'.mono (by omega), fun b off e => by cases e; exact hB⟩
    rw [HL.out]
    exact HT.out.below hb'
  · rw [h1] at HI
    rw [HL.out] at hk
    have hkm : ((k : Int) == -1) = false := by simp
    have H2 := Lib.hid h2
    have H3 := Lib.hid h3
    clear h1 h2 h3
    go_enter Try.func29, Try.ntmps29
    go_wp2_with (go_at_call 38; (with_reducible refine HI.out.mono ?_); rintro e w1 ⟨rfl, hb1⟩; have B1 := Lib.hid hb1; clear hb1)
    have HK := Lib.hid hk
    have HSz := Lib.hid (show B ≤ w1.heap.size by have := B1.out.size; omega)
    have HD := Lib.hid (DelI.start (R := R) (q := q) (B := B) (w := w) HL.out HK.out H2.out H3.out (HX.out.below B1.out) (B1.out.mono (by omega)))
    clear HI H2 H3 B1
    go_loopg [5, 6, 7] n (fun gg s5 s6 _ wr => ∃ (i j : Nat) (ys : List Rc), i < j ∧ j ≤ n ∧ n - j ≤ gg ∧ s5 = .int .i64 i ∧ s6 = .int .i64 j ∧ Hid (DelI R q zs ys i j n g B w wr))
    case atStart => exact ⟨k, k + 1, zs, by omega, by omega, by omega, rfl, by go_num, HD⟩
    case round =>
      obtain ⟨i, j, ys, hij, hjn, hgg, rfl, rfl, HJ⟩ := hrel
      have HBw := Lib.hid (HJ.out.bel.size)
      by_cases hlt : j < n
      · have hltz : (j : Int) < (n : Int) := by omega
        have hyj := HJ.out.rest j (Nat.le_refl _)
        have hk := fun (i : Nat) (hi : i < 4) => (List.getElem?_append_left (l₂ := R) (show j * 4 + i < (cl ys).length by rw [cl_len, HJ.out.len]; omega)).trans (cl_get ys j i (by rw [HJ.out.len]; exact hlt) hi)
        rw [hyj] at hk
        have k0 := HJ.out.blk.cell ((hk 0 (by omega)).trans rfl)
        have k1 := HJ.out.blk.cell ((hk 1 (by omega)).trans rfl)
        have k2 := HJ.out.blk.cell ((hk 2 (by omega)).trans rfl)
        have k3 := HJ.out.blk.cell ((hk 3 (by omega)).trans rfl)
        rw [Nat.add_zero] at k0
        clear hk
        have hgl2 := HJ.out.blk.lt
        have HSk := Lib.hid (fun w3 => DelI.skip (w3 := w3) HJ.out HL.out hlt)
        have HKe := Lib.hid (fun w3 => DelI.keep (w3 := w3) HJ.out HL.out hij hlt)
        clear hyj
        generalize zs.getD j t0 = p at k0 k1 k2 k3 HSk HKe
        have HA := Lib.hid (HJ.out.bel.alloc (by have := HBw.out; have := HSz.out; omega) (.cells #[.string p.us, .string p.dv, .int .i64 p.nx, .int .i64 p.lf] 45))
        have HQ := Lib.hid (HP.out p _ HA.out)
        have XG := Lib.hid (HJ.out.blk.alloc (.cells #[.string p.us, .string p.dv, .int .i64 p.nx, .int .i64 p.lf] 45))
        have XN := Lib.hid (blk_new wr [.string p.us, .string p.dv, .int .i64 p.nx, .int .i64 p.lf] 45)
        cases hq : q p with
        | true =>
          have HF := Lib.hid hq
          rw [hq] at HQ
          clear hq
          go_wp2_with (go_at_call 31; (with_reducible refine HQ.out.mono ?_); rintro e w3 ⟨rfl, hb3⟩; have X3 := Lib.hid (XG.out.below hb3); have B3 := Lib.hid (HA.out.trans (hb3.mono (Nat.le_trans (show B ≤ w.heap.size by omega) HA.out.size))))
          go_roundg (n - (j + 1))
          case measure => omega
          case rel => exact ⟨i, j + 1, ys, by omega, by omega, by omega, rfl, by go_num, Lib.hid (HSk.out _ HF.out X3.out B3.out)⟩
        | false =>
          have HF := Lib.hid hq
          rw [hq] at HQ
          clear hq
          have hin : i < n := by omega
          have hinz : (i : Int) < (n : Int) := by omega
          go_wp2_with (first
            | (go_at_call 31; (with_reducible refine HQ.out.mono ?_); rintro e w3 ⟨rfl, hb3⟩; have X3 := Lib.hid (XG.out.below hb3); have B3 := Lib.hid (HA.out.trans (hb3.mono (Nat.le_trans (show B ≤ w.heap.size by omega) HA.out.size))); have c0 := (XN.out.below hb3).cell (i := 0) rfl; have c1 := (XN.out.below hb3).cell (i := 1) rfl; have c2 := (XN.out.below hb3).cell (i := 2) rfl; have c3 := (XN.out.below hb3).cell (i := 3) rfl)
            | (refine store_mid_as rfl 45 _ _ rfl g (i * 4) #[.string p.us, .string p.dv, .int .i64 p.nx, .int .i64 p.lf] rfl rfl (two_there X3.out (by rw [HJ.out.len]; exact hin)) size45 (two_one _) ?_; intro w4 e4; have X4 : Hid (Blk w4 g (cl (ys.set i p) ++ R) 45) := Lib.hid (by rw [e4]; exact X3.out.put i p (by rw [HJ.out.len]; exact hin)); have B4 : Hid (Below B w w4) := Lib.hid (by rw [e4]; exact below_setAll hB _ _ _ B3.out); clear e4 c0 c1 c2 c3))
          go_roundg (n - (j + 1))
          case measure => omega
          case rel => exact ⟨i + 1, j + 1, ys.set i p, by omega, by omega, by omega, by go_num, by go_num, Lib.hid (HKe.out _ HF.out X4.out B4.out)⟩
      · have hltz : ¬ (j : Int) < (n : Int) := by omega
        obtain rfl : j = n := by omega
        have HR := Lib.hid (HJ.out.fin HL.out (by omega))
        have r1 := run_from22 (g := g) (c := c) hij hc
        have r2 := run_to22 (A := some ⟨g, 0, none⟩) (n := j) (c := c) (k := i) (by omega) hc
        go_wp2_with (with_reducible refine wpList_clear_blk rfl (.tmp 38) rfl rfl g i (j - i) (c - i) (cl ys ++ R) rfl (by omega) HJ.out.blk (by rw [List.length_append, cl_len, HJ.out.len]; omega) B w HJ.out.bel hB ?_; intro w4 cs hb4 hc4 hbel4; have X4 := Lib.hid hb4; have C4 := Lib.hid hc4; have B4 := Lib.hid hbel4; clear hb4 hc4 hbel4)
        go_ret
        obtain ⟨e1, e2⟩ := HR.out
        refine ⟨some ⟨g, 0, none⟩, c, ret_slice e2.symm, ?_, B4.out, fun b off e => by cases e; exact hB⟩
        rw [e2]
        exact Rcs.ofBlk X4.out (by rw [C4.out, List.take_append_of_le_length (by rw [cl_len, HJ.out.len]; omega), cl_take _ _ (by rw [HJ.out.len]; omega), e1]) e2 (by omega) (by omega) (fun p hp => HF.out p ((List.mem_filter.1 hp).1))
end Go.Proofs.Ytkmocchikgmnbaa
