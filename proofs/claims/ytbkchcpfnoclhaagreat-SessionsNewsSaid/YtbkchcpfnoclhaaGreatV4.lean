/- Sessions: slices.Compact at holders. Bound: a million holders. -/
import Derived.Test.YtbkchcpfnoclhaaGreatV3
import Derived.Laws.CopyOwn
import Derived.Deep.CutRange
import Derived.Sort.WalkB12
namespace Go.Proofs.YtbkchcpfnoclhaaGreat.Hd
set_option maxRecDepth 100000
open Go.Proofs.YtbkchcpfnoclhaaGreat
open Go Go.RowKit
set_option linter.unusedVariables false
set_option linter.unusedSimpArgs false

theorem under71 : Tryz.prog.underlying 72 = some (.slice 39) := Tryz.underlying72
theorem size71e (w : World) : (Go.sizeOf (Tryz.prog.elem 72)).run Tryz.prog w = .ok 2 w := by kernel_rfl
theorem size61k : (Tryz.prog.info? 39).map (·.size) = some 2 := by kernel_rfl
theorem info61k : (Tryz.prog.info? 39).map (fun i => (i.zero, i.size, i.bytes)) = some (some (.agg #[.string ⟨#[]⟩, .string ⟨#[]⟩]), 2, 32) := by kernel_rfl
theorem two_there {w : World} {g i : Nat} {ys : List Rc} {R : List Value} (h : Blk w g (cl ys ++ R) 39) (hi : i < ys.length) : w.there g (i * 2) 2 := h.thereAt' _ _ (by rw [List.length_append, cl_len]; omega)
theorem two_one (p : Rc) : (#[Value.string p.us, Value.string p.dv] : Array Value).all (·.oneCell') = true := by simp [Value.oneCell']
set_option maxRecDepth 100000 in
theorem run_from71 {g i n c : Nat} (hi : i < n) (hn : n ≤ c) (w : World) : (Instr.sliceAt 72 (.slice (some ⟨g, 0, none⟩) n c) (some (.int .i64 (i : Int))) none none).run Tryz.prog w = .ok (.slice (some ⟨g, i * 2, none⟩) (n - i) (c - i)) w := by
  have hrun := run_slice_l (P := Tryz.prog) w 72 (some ⟨g, 0, none⟩) n c under71 .i64 (i : Int) (by omega) (by omega)
  rw [size71e] at hrun
  rw [run_sliceAt_slice w 72 _ _ _ _ under71, hrun]
  show Result.ok (sliced (some ⟨g, 0, none⟩) i n c 2) w = _
  congr 1
  unfold sliced
  rw [if_neg (by omega)]
  simp [Addr.add] <;> (intro h; exact h.symm)
set_option maxRecDepth 100000 in
theorem run_to71 {A : Option Addr} {n c : Nat} {k : Nat} (hk : k ≤ n) (hc : n ≤ c) (w : World) :
    (Instr.sliceAt 72 (.slice A n c) none (some (.int .i64 (k : Int))) none).run Tryz.prog w = .ok (.slice A k c) w := by
  have hrun := run_slice_h (P := Tryz.prog) w 72 A n c under71 .i64 (k : Int) (by omega) (by omega)
  rw [size71e] at hrun
  rw [run_sliceAt_slice w 72 _ _ _ _ under71, hrun]
  show Result.ok (sliced A 0 k c 2) w = _
  congr 1
  cases A <;> simp [sliced, Addr.add]
/-- clear of the end of a row of the call's own. -/
theorem wpList_clear_blk {ops : Array Oper} {rest : List Oper} {o : Oper} {a : Act} {Q : Exit → Act → World → Prop} {w : World} (hgd : o.guard = none) (x : Operand)
    (ho : o.op = .call { callee := .builtin .clear, args := #[x], argTypes := #[72] }) (hd : o.dst = none) (g k m c : Nat) (cur : List Value) (hx : a.eval x = .slice (some ⟨g, k * 2, none⟩) m c) (hm : 0 < m) (hb : Blk w g cur 39) (hl : (k + m) * 2 ≤ cur.length) (B : Nat) (w0 : World) (hbel : Below B w0 w) (hBg : B ≤ g)
    (hK : ∀ w' cs, Blk w' g cs 39 → cs.take (k * 2) = cur.take (k * 2) → Below B w0 w' → wpList Tryz.prog ops Q rest a w') : wpList Tryz.prog ops Q (o :: rest) a w := by
  obtain ⟨i0, hi, hz0, hz1, hz2⟩ := info_parts info61k
  obtain ⟨m', rfl⟩ : ∃ m', m = m' + 1 := ⟨m - 1, by omega⟩
  refine wpList_plain hgd fun K hK' => ?_
  obtain ⟨zc, hzc⟩ : ∃ zc, (Builtin.zeroCells (Value.agg #[.string ⟨#[]⟩, .string ⟨#[]⟩]).cells (m' + 1)).toList = zc := ⟨_, rfl⟩
  have hzl : zc.length = (m' + 1) * 2 := by rw [← hzc]; simp [Builtin.zeroCells, Value.cells]
  have hone : ∀ v ∈ zc, v.oneCell' = true := by
    intro v hv
    rw [← hzc] at hv
    simp only [Builtin.zeroCells, Array.toList_map, List.mem_map] at hv
    obtain ⟨i, _, rfl⟩ := hv
    show (#[Value.string ⟨#[]⟩, Value.string ⟨#[]⟩][i % 2]!).oneCell' = true
    rcases (show i % 2 = 0 ∨ i % 2 = 1 by omega) with e | e <;> rw [e] <;> rfl
  have hst := run_storeCells_at Tryz.prog g (k * 2) 39 zc 0 cur.toArray w hb.heap (by simp [hzl]; omega) hone
  have hzv : (zeroValue 39).run Tryz.prog w = .ok (.agg #[.string ⟨#[]⟩, .string ⟨#[]⟩]) w := by simp [zeroValue, typeInfo, hi, hz0]
  have hr : (Builtin.clear_ #[72] o.type #[.slice (some ⟨g, k * 2, none⟩) (m' + 1) c]).run Tryz.prog w = .ok (.tuple #[]) (w.setRow g ((cur.take (k * 2 + 0) ++ zc ++ cur.drop (k * 2 + 0 + zc.length)).toArray)) := by
    simp only [Builtin.clear_]
    simp [run_underlying Tryz.underlying72, hzv, hzc, hst]
  unfold Oper.wp
  simp only [execOp, ho, resolve, invoke, builtin, Sem.run_bind, Sem.run_pure, Result.andThen_ok, List.map_toArray, List.map_cons, List.map_nil, hx, hr]
  rw [Oper.upon_value, hd]
  refine hK' _ _ (hK _ _ ⟨setRow_heap w g cur.toArray _ 39 (0, 0) hb.heap⟩ ?_ (below_setRow hbel hBg _))
  rw [Nat.add_zero, List.append_assoc, List.take_append_of_le_length (by rw [List.length_take]; omega), List.take_take, Nat.min_self]
theorem Blk.put {w : World} {g : Nat} {zs : List Rc} {R : List Value} (h : Blk w g (cl zs ++ R) 39) (k : Nat) (p : Rc) (hk : k < zs.length) : Blk (w.setCells g (k * 2) [.string p.us, .string p.dv]) g (cl (zs.set k p) ++ R) 39 := by
  have h1 := Blk.setMid h (k * 2) (enc p) (by rw [List.length_append, cl_len, enc_len]; omega)
  have h2 := splice_set (n := zs.length) p (cs := cl zs) (zs := zs) (k := k) (List.take_of_length_le (by rw [cl_len]; omega)) rfl hk (by rw [cl_len]; omega)
  rw [List.take_of_length_le (by unfold splice; simp [cl_len, enc_len]; omega)] at h2
  have h3 : splice (cl zs ++ R) (k * 2) (enc p) = splice (cl zs) (k * 2) (enc p) ++ R := by
    unfold splice
    rw [List.take_append_of_le_length (by rw [cl_len]; omega), List.drop_append_of_le_length (by rw [cl_len, enc_len]; omega)]
    simp only [List.append_assoc]
  rw [h3, h2] at h1
  exact h1
theorem eq_iff3 (p q : Rc) : (p = q) ↔ (p.us.toList = q.us.toList ∧ p.dv.toList = q.dv.toList) :=
  ⟨fun e => by rw [e]; exact ⟨rfl, rfl⟩, fun ⟨a, b⟩ => Rc.ext (eq_of_toList a) (eq_of_toList b)⟩
theorem eq_ifs {α : Type} (p q : Rc) (f : Bool → α) : (if p.us.toList = q.us.toList then (if p.dv.toList = q.dv.toList then f true else f false) else f false) = f (decide (p = q)) := by
  by_cases h1 : p.us.toList = q.us.toList
  · by_cases h2 : p.dv.toList = q.dv.toList
    · rw [if_pos h1, if_pos h2, decide_eq_true ((eq_iff3 p q).2 ⟨h1, h2⟩)]
    · rw [if_pos h1, if_neg h2, decide_eq_false (fun e => h2 ((eq_iff3 p q).1 e).2)]
  · rw [if_neg h1, decide_eq_false (fun e => h1 ((eq_iff3 p q).1 e).1)]
theorem eq_nifs {α : Type} (p q : Rc) (f : Bool → α) : (if p.us.toList = q.us.toList then (if p.dv.toList = q.dv.toList then f false else f true) else f true) = f (!decide (p = q)) := eq_ifs p q (fun b => f !b)
theorem cpt_mem (zs : List Rc) : ∀ m, m ≤ zs.length → ∀ x ∈ cptUp zs m, x ∈ zs
  | 0, _, x, hx => by simp [cptUp] at hx
  | m + 1, h, x, hx => by
    rw [cptUp, List.mem_append] at hx
    rcases hx with hx | hx
    · exact cpt_mem zs m (by omega) x hx
    · split at hx
      · rw [List.mem_singleton] at hx
        rw [hx, getD_at (by omega)]
        exact List.getElem_mem _
      · simp at hx
theorem cpt_fit {zs : List Rc} {n : Nat} (h : ∀ p ∈ zs, fitR p) (hl : zs.length = n) (p : Rc) (hp : p ∈ cptUp zs n) : fitR p := h p (cpt_mem zs n (by omega) p hp)
/-- What holds while keys are moved forward: i is written next, j read next. -/
structure CmpI (R : List Value) (zs ys : List Rc) (i j n g B : Nat) (w wr : World) : Prop where
  len : ys.length = n
  done : ys.take i = cptUp zs j
  rest : ∀ k, j ≤ k + 1 → ys.getD k t0 = zs.getD k t0
  blk : Blk wr g (cl ys ++ R) 39
  bel : Below B w wr
theorem CmpI.skip {R : List Value} {zs ys : List Rc} {i j n g B : Nat} {w wr w3 : World} (h : CmpI R zs ys i j n g B w wr) (hj : 0 < j) (hq : zs.getD j t0 = zs.getD (j - 1) t0) (hb : Blk w3 g (cl ys ++ R) 39) (hbel : Below B w w3) : CmpI R zs ys i (j + 1) n g B w w3 := by
  refine ⟨h.len, ?_, fun k hk => h.rest k (by omega), hb, hbel⟩
  rw [cptUp, if_neg (by rintro (e | e); omega; exact e hq), List.append_nil]
  exact h.done
theorem CmpI.keep {R : List Value} {zs ys : List Rc} {i j n g B : Nat} {w wr w3 : World} (h : CmpI R zs ys i j n g B w wr) (hi : i < j) (hj : j < n) (hq : zs.getD j t0 ≠ zs.getD (j - 1) t0) (hb : Blk w3 g (cl (ys.set i (zs.getD j t0)) ++ R) 39) (hbel : Below B w w3) : CmpI R zs (ys.set i (zs.getD j t0)) (i + 1) (j + 1) n g B w w3 := by
  have hy := h.len
  refine ⟨by rw [List.length_set]; exact hy, ?_, fun k hk => ?_, hb, hbel⟩
  · rw [cptUp, if_pos (.inr hq), ← h.done, List.take_succ_eq_append_getElem (by rw [List.length_set]; omega), List.take_set_of_le (Nat.le_refl _)]
    simp
  · have e : (ys.set i (zs.getD j t0)).getD k t0 = ys.getD k t0 := by simp only [List.getD_eq_getElem?_getD]; rw [List.getElem?_set_ne (by omega)]
    rw [e]; exact h.rest k (by omega)
def CptP (B g n c : Nat) (zs : List Rc) (w : World) (e : Ending) (w' : World) : Prop := e = .returned (.slice (some ⟨g, 0, none⟩) (cptUp zs n).length c) ∧ Rcs w' (some ⟨g, 0, none⟩) (cptUp zs n).length c (cptUp zs n) ∧ Below B w w'
set_option maxRecDepth 100000 in
set_option maxHeartbeats 8000000 in
theorem compact45 (g n c B : Nat) (R : List Value) (zs : List Rc) (w : World) (hb : Blk w g (cl zs ++ R) 39) (hc : n ≤ c) (hl : zs.length = n) (hn : n ≤ 1000000) (hB : B ≤ g) (hf : ∀ p ∈ zs, fitR p) : Calls Tryz.prog 51 #[.slice (some ⟨g, 0, none⟩) n c] w (CptP B g n c zs w) := by
  have HX := Lib.hid hb
  have HL := Lib.hid hl
  have HF := Lib.hid hf
  have hgl := hb.lt
  have HT := Lib.hid (Rcs.ofBlk (n := n) (c := c) hb (by rw [List.take_append_of_le_length (by rw [cl_len]; omega), cl_take _ _ (by omega), List.take_of_length_le (by omega)]) hl hc (by omega) hf)
  unfold CptP
  clear hb hl hf
  by_cases h2 : (n : Int) < 2
  · have HE := Lib.hid (show cptUp zs n = zs by rw [cptUp_take (by rw [HL.out]; omega) (fun j h0 hj => by omega)]; exact List.take_of_length_le (by rw [HL.out]; omega))
    go_enter Tryz.func51, Tryz.ntmps51
    go_wp2
    go_ret
    rw [HE.out, HL.out]
    exact ⟨rfl, HT.out, Below.refl _ _⟩
  · go_enter Tryz.func51, Tryz.ntmps51
    go_wp2
    go_loopg [3, 4, 5] n (fun gg s3 _ _ wr => ∃ kk : Nat, 1 ≤ kk ∧ kk ≤ n ∧ n - kk ≤ gg ∧ s3 = .int .i64 (kk : Int) ∧ Hid (∀ j, 0 < j → j < kk → zs.getD j t0 ≠ zs.getD (j - 1) t0) ∧ Hid (Blk wr g (cl zs ++ R) 39) ∧ Hid (Below B w wr))
    case atStart => exact ⟨1, by omega, by omega, by omega, rfl, Lib.hid (fun j h0 h1 => by omega), HX, Lib.hid (Below.refl _ _)⟩
    case round =>
      obtain ⟨kk, hk1, hkk, hg, rfl, HJ, HBk, BW⟩ := hrel
      have HBs := Lib.hid (show B ≤ wr.heap.size by have := HBk.out.lt; omega)
      by_cases hlt : kk < n
      · obtain ⟨i, rfl⟩ : ∃ i, kk = i + 1 := ⟨kk - 1, by omega⟩
        have hkz : ((i + 1 : Nat) : Int) < (n : Int) := by omega
        have hk2 : (i : Int) + 1 < (n : Int) := by omega
        have hk3 : (0 : Int) ≤ (i : Int) + 1 := by omega
        have hk4 : (0 : Int) ≤ (i : Int) := by omega
        have hk5 : (i : Int) < (n : Int) := by omega
        have hwr : IntKind.i64.wrap (i : Int) = (i : Int) := by rw [IntKind.wrap_i64]; omega
        have ck := fun (j m : Nat) (hj : j < n) (hm : m < 2) => (List.getElem?_append_left (l₂ := R) (show j * 2 + m < (cl zs).length by rw [cl_len, HL.out]; omega)).trans (cl_get zs j m (by rw [HL.out]; exact hj) hm)
        have HPp := Lib.hid (fun v (hb : Below wr.heap.size wr v) => (HBk.out.below hb).cell ((ck i 0 (by omega) (by omega)).trans rfl))
        have HP := Lib.hid (show ∀ v, Below wr.heap.size wr v → v.cell? ⟨g, i * 2, none⟩ = some (.string (zs.getD i t0).us) ∧ v.cell? ⟨g, i * 2 + 1, none⟩ = some (.string (zs.getD i t0).dv) from fun v hb => ⟨(HBk.out.below hb).cell ((ck i 0 (by omega) (by omega)).trans rfl), (HBk.out.below hb).cell ((ck i 1 (by omega) (by omega)).trans rfl)⟩)
        have HQ := Lib.hid (show ∀ v, Below wr.heap.size wr v → v.cell? ⟨g, (i + 1) * 2, none⟩ = some (.string (zs.getD (i + 1) t0).us) ∧ v.cell? ⟨g, (i + 1) * 2 + 1, none⟩ = some (.string (zs.getD (i + 1) t0).dv) from fun v hb => ⟨(HBk.out.below hb).cell ((ck (i + 1) 0 (by omega) (by omega)).trans rfl), (HBk.out.below hb).cell ((ck (i + 1) 1 (by omega) (by omega)).trans rfl)⟩)
        clear ck HPp
        have HJ2 : Hid (zs.getD (i + 1) t0 ≠ zs.getD i t0 → ∀ j, 0 < j → j < i + 1 + 1 → zs.getD j t0 ≠ zs.getD (j - 1) t0) := Lib.hid (fun h j h0 hj => by
          by_cases e : j = i + 1
          · subst e; exact h
          · exact HJ.out j h0 (by omega))
        have HCu : Hid (zs.getD (i + 1) t0 = zs.getD i t0 → cptUp zs (i + 1 + 1) = zs.take (i + 1)) := Lib.hid (fun h => by
          rw [cptUp, if_neg (by rintro (e | e); omega; exact e (by rw [Nat.add_sub_cancel]; exact h)), List.append_nil]
          exact cptUp_take (by rw [HL.out]; omega) HJ.out)
        generalize hp : zs.getD i t0 = p at HP HJ2 HCu
        generalize hq : zs.getD (i + 1) t0 = q at HQ HJ2 HCu
        clear hp hq
        by_cases hqp : q = p
        · have hd : decide (q = p) = true := decide_eq_true hqp
          have HD := Lib.hid hd
          have HE := Lib.hid hqp
          have HC2 := Lib.hid (HCu.out hqp)
          clear hqp hd HJ2 HCu
          go_upto_region 6 with (fail)
          refine wp_region_held_drew (S := (fun y => Below wr.heap.size wr y)) (by kernel_rfl) ((Below.refl wr.heap.size wr).drew) (fun hH0 => ?_)
          generalize hy0 : World.drew _ = y0 at hH0 ⊢
          have RB0 : Hid (Below wr.heap.size wr y0) := Lib.hid hH0
          clear hy0
          refine wpAnyH_take (i := 0) (oi := ({ dst := some 16, op := Op.move (Operand.tmp 0), type := 72, pos := "slices.go:376", after := #[], guard := none } : Oper)) (v := ?hv15) rfl (by kernel_rfl) (by kernel_rfl) (by kernel_rfl) (fun _ _ _ h => h) (Or.inl ⟨by rfl, ?hy15⟩) (by assumption) ?hr15
          case hy15 => (intro w hSw; (try dsimp only at hSw); go_simp; (try with_reducible rfl))
          try simp only [Act.put, List.setIfInBounds_toArray, List.set_cons_zero, List.set_cons_succ]
          refine wpAnyH_take (i := 1) (oi := ({ dst := some 17, op := Op.move (Operand.tmp 3), type := 3, pos := "slices.go:376", after := #[], guard := none } : Oper)) (v := ?hv16) rfl (by kernel_rfl) (by kernel_rfl) (by kernel_rfl) (fun _ _ _ h => h) (Or.inl ⟨by rfl, ?hy16⟩) (by assumption) ?hr16
          case hy16 => (intro w hSw; (try dsimp only at hSw); go_simp; (try with_reducible rfl))
          try simp only [Act.put, List.setIfInBounds_toArray, List.set_cons_zero, List.set_cons_succ]
          refine wpAnyH_take (i := 2) (oi := ({ dst := some 18, op := Op.indexAddr 72 (Operand.tmp 16) (Operand.tmp 17), type := 0, pos := "slices.go:376", after := #[{ on := 0, ground := Ground.data }, { on := 1, ground := Ground.data }], guard := none } : Oper)) (v := ?hv17) rfl (by kernel_rfl) (by kernel_rfl) (by kernel_rfl) (fun _ _ _ h => h) (Or.inl ⟨by rfl, ?hy17⟩) (by assumption) ?hr17
          case hy17 => (intro w hSw; (try dsimp only at hSw); go_simp; (try with_reducible rfl))
          try simp only [Act.put, List.setIfInBounds_toArray, List.set_cons_zero, List.set_cons_succ]
          refine wpAnyH_take (i := 3) (oi := ({ dst := some 19, op := Op.load 39 (Operand.tmp 18), type := 39, pos := "slices.go:376", after := #[{ on := 2, ground := Ground.data }], guard := none } : Oper)) (v := .agg #[.string q.us, .string q.dv]) rfl (by kernel_rfl) (by kernel_rfl) (by kernel_rfl) (fun _ _ _ h => h) (Or.inl ⟨by rfl, fun w0 hw0 => by obtain ⟨q0, q1⟩ := HQ.out w0 hw0; go_simp⟩) (by assumption) ?_
          try simp only [Act.put, List.setIfInBounds_toArray, List.set_cons_zero, List.set_cons_succ]
          refine wpAnyH_take (i := 4) (oi := ({ dst := some 20, op := Op.move (Operand.tmp 0), type := 72, pos := "slices.go:376", after := #[], guard := none } : Oper)) (v := ?hv18) rfl (by kernel_rfl) (by kernel_rfl) (by kernel_rfl) (fun _ _ _ h => h) (Or.inl ⟨by rfl, ?hy18⟩) (by assumption) ?hr18
          case hy18 => (intro w hSw; (try dsimp only at hSw); go_simp; (try with_reducible rfl))
          try simp only [Act.put, List.setIfInBounds_toArray, List.set_cons_zero, List.set_cons_succ]
          refine wpAnyH_take (i := 5) (oi := ({ dst := some 21, op := Op.move (Operand.tmp 3), type := 3, pos := "slices.go:376", after := #[], guard := none } : Oper)) (v := ?hv19) rfl (by kernel_rfl) (by kernel_rfl) (by kernel_rfl) (fun _ _ _ h => h) (Or.inl ⟨by rfl, ?hy19⟩) (by assumption) ?hr19
          case hy19 => (intro w hSw; (try dsimp only at hSw); go_simp; (try with_reducible rfl))
          try simp only [Act.put, List.setIfInBounds_toArray, List.set_cons_zero, List.set_cons_succ]
          refine wpAnyH_take (i := 6) (oi := ({ dst := some 22, op := Op.binOp BinOp.sub 3 (Operand.tmp 21) (Operand.const (Value.int IntKind.i64 1)) 3, type := 3, pos := "slices.go:376", after := #[{ on := 5, ground := Ground.data }], guard := none } : Oper)) (v := ?hv20) rfl (by kernel_rfl) (by kernel_rfl) (by kernel_rfl) (fun _ _ _ h => h) (Or.inl ⟨by rfl, ?hy20⟩) (by assumption) ?hr20
          case hy20 => (intro w hSw; (try dsimp only at hSw); go_simp; (try with_reducible rfl))
          try simp only [Act.put, List.setIfInBounds_toArray, List.set_cons_zero, List.set_cons_succ]
          refine wpAnyH_take (i := 7) (oi := ({ dst := some 23, op := Op.indexAddr 72 (Operand.tmp 20) (Operand.tmp 22), type := 0, pos := "slices.go:376", after := #[{ on := 4, ground := Ground.data }, { on := 6, ground := Ground.data }], guard := none } : Oper)) (v := ?hv21) rfl (by kernel_rfl) (by kernel_rfl) (by kernel_rfl) (fun _ _ _ h => h) (Or.inl ⟨by rfl, ?hy21⟩) (by assumption) ?hr21
          case hy21 => (intro w hSw; (try dsimp only at hSw); go_simp; (try with_reducible rfl))
          try simp only [Act.put, List.setIfInBounds_toArray, List.set_cons_zero, List.set_cons_succ]
          refine wpAnyH_take (i := 8) (oi := ({ dst := some 24, op := Op.load 39 (Operand.tmp 23), type := 39, pos := "slices.go:376", after := #[{ on := 7, ground := Ground.data }], guard := none } : Oper)) (v := .agg #[.string p.us, .string p.dv]) rfl (by kernel_rfl) (by kernel_rfl) (by kernel_rfl) (fun _ _ _ h => h) (Or.inl ⟨by rfl, fun w0 hw0 => by obtain ⟨q0, q1⟩ := HP.out w0 hw0; go_simp⟩) (by assumption) ?_
          try simp only [Act.put, List.setIfInBounds_toArray, List.set_cons_zero, List.set_cons_succ]
          refine wpAnyH_take (i := 9) (oi := ({ dst := some 25, op := Op.binOp BinOp.eql 39 (Operand.tmp 19) (Operand.tmp 24) 39, type := 4, pos := "slices.go:376", after := #[{ on := 3, ground := Ground.data }, { on := 8, ground := Ground.data }], guard := none } : Oper)) (v := .bool true) rfl (by kernel_rfl) (by kernel_rfl) (by kernel_rfl) (fun _ _ _ h => h) (Or.inl ⟨by rfl, fun w0 hw0 => by go_simp; first | exact (eq_ifs q p (fun b => Result.ok (Next.value (.bool b)) w0)).trans (by rw [HD.out]) | exact fun a b => HE.out ((eq_iff3 q p).2 ⟨a, b⟩)⟩) (by assumption) ?_
          try simp only [Act.put, List.setIfInBounds_toArray, List.set_cons_zero, List.set_cons_succ]
          refine wpAnyH_done (by kernel_rfl) ?_ _
          have r1 := run_from71 (g := g) (i := i + 1) (n := n) (c := c) (by omega) hc
          have HI0 := Lib.hid (show CmpI R zs zs (i + 1) (i + 1 + 1) n g B w y0 from ⟨HL.out, HC2.out.symm, fun _ _ => rfl, HBk.out.below RB0.out, BW.out.trans (RB0.out.mono HBs.out)⟩)
          obtain ⟨m, hm⟩ : ∃ m, n - (i + 1) = m := ⟨_, rfl⟩
          rw [hm] at r1
          go_wp2
          clear r1
          go_loopg [3, 5] m (fun gg s3 s5 wr => ∃ (ii k2 : Nat) (ys : List Rc), 1 ≤ k2 ∧ 1 ≤ ii ∧ ii ≤ i + k2 ∧ k2 ≤ m ∧ m - k2 ≤ gg ∧ s3 = .int .i64 (ii : Int) ∧ s5 = .int .i64 (k2 : Int) ∧ Hid (CmpI R zs ys ii (i + 1 + k2) n g B w wr))
          case atStart => exact ⟨i + 1, 1, zs, by omega, by omega, by omega, by omega, by omega, by go_num, rfl, HI0⟩
          case round =>
            obtain ⟨ii, k2, ys, hk2, hii1, hii, hkm, hgg, rfl, rfl, HI⟩ := hrel
            have HBw := Lib.hid (show B ≤ wr.heap.size by have := HI.out.blk.lt; omega)
            have hgl2 := HI.out.blk.lt
            by_cases hlt2 : k2 < m
            · obtain ⟨k, rfl⟩ : ∃ k, k2 = k + 1 := ⟨k2 - 1, by omega⟩
              have hz1 : ((k + 1 : Nat) : Int) < (m : Int) := by omega
              have hz2 : (k : Int) + 1 < (m : Int) := by omega
              have hz3 : (0 : Int) ≤ (k : Int) + 1 := by omega
              have hz4 : (0 : Int) ≤ (k : Int) := by omega
              have hz5 : (k : Int) < (m : Int) := by omega
              have hz6 : (0 : Int) ≤ (ii : Int) := by omega
              have hz7 : (ii : Int) < (n : Int) := by omega
              have hwr2 : IntKind.i64.wrap (k : Int) = (k : Int) := by rw [IntKind.wrap_i64]; omega
              have ck := fun (j m : Nat) (hj : j < n) (hm : m < 2) => (List.getElem?_append_left (l₂ := R) (show j * 2 + m < (cl ys).length by rw [cl_len, HI.out.len]; omega)).trans (cl_get ys j m (by rw [HI.out.len]; exact hj) hm)
              have e1 := HI.out.rest (i + 1 + (k + 1)) (by omega)
              have e2 := HI.out.rest (i + 1 + k) (by omega)
              have HQ2 := Lib.hid (show ∀ v, Below wr.heap.size wr v → v.cell? ⟨g, (i + 1) * 2 + (k + 1) * 2, none⟩ = some (.string (zs.getD (i + 1 + (k + 1)) t0).us) ∧ v.cell? ⟨g, (i + 1) * 2 + (k + 1) * 2 + 1, none⟩ = some (.string (zs.getD (i + 1 + (k + 1)) t0).dv) from fun v hb => by
                rw [← Nat.add_mul, ← e1]
                exact ⟨(HI.out.blk.below hb).cell ((ck (i + 1 + (k + 1)) 0 (by omega) (by omega)).trans rfl), (HI.out.blk.below hb).cell ((ck (i + 1 + (k + 1)) 1 (by omega) (by omega)).trans rfl)⟩)
              have HP2 := Lib.hid (show ∀ v, Below wr.heap.size wr v → v.cell? ⟨g, (i + 1) * 2 + k * 2, none⟩ = some (.string (zs.getD (i + 1 + k) t0).us) ∧ v.cell? ⟨g, (i + 1) * 2 + k * 2 + 1, none⟩ = some (.string (zs.getD (i + 1 + k) t0).dv) from fun v hb => by
                rw [← Nat.add_mul, ← e2]
                exact ⟨(HI.out.blk.below hb).cell ((ck (i + 1 + k) 0 (by omega) (by omega)).trans rfl), (HI.out.blk.below hb).cell ((ck (i + 1 + k) 1 (by omega) (by omega)).trans rfl)⟩)
              have HSk := Lib.hid (fun w3 => HI.out.skip (w3 := w3) (by omega))
              have HKe := Lib.hid (fun w3 => HI.out.keep (w3 := w3) (by omega) (by omega))
              rw [show i + 1 + (k + 1) - 1 = i + 1 + k by omega] at HSk HKe
              clear ck e1 e2
              generalize zs.getD (i + 1 + (k + 1)) t0 = q2 at HQ2 HSk HKe
              generalize zs.getD (i + 1 + k) t0 = p2 at HP2 HSk HKe
              by_cases hqp : q2 = p2
              · have HE2 := Lib.hid hqp
                have HD2 := Lib.hid (show (!decide (q2 = p2)) = false by rw [decide_eq_true hqp]; rfl)
                clear hqp HKe
                go_upto_region 11 with (fail)
                refine wp_region_held_drew (S := (fun y => Below wr.heap.size wr y)) (by kernel_rfl) ((Below.refl wr.heap.size wr).drew) (fun hH0 => ?_)
                generalize hy0 : World.drew _ = y1 at hH0 ⊢
                have RC0 : Hid (Below wr.heap.size wr y1) := Lib.hid hH0
                clear hy0
                refine wpAnyH_take (i := 0) (oi := ({ dst := some 35, op := Op.move (Operand.tmp 4), type := 72, pos := "slices.go:379", after := #[], guard := none } : Oper)) (v := ?hv8) rfl (by kernel_rfl) (by kernel_rfl) (by kernel_rfl) (fun _ _ _ h => h) (Or.inl ⟨by rfl, ?hy8⟩) (by assumption) ?hr8
                case hy8 => (intro w hSw; (try dsimp only at hSw); go_simp; (try with_reducible rfl))
                try simp only [Act.put, List.setIfInBounds_toArray, List.set_cons_zero, List.set_cons_succ]
                refine wpAnyH_take (i := 1) (oi := ({ dst := some 36, op := Op.move (Operand.tmp 5), type := 3, pos := "slices.go:379", after := #[], guard := none } : Oper)) (v := ?hv9) rfl (by kernel_rfl) (by kernel_rfl) (by kernel_rfl) (fun _ _ _ h => h) (Or.inl ⟨by rfl, ?hy9⟩) (by assumption) ?hr9
                case hy9 => (intro w hSw; (try dsimp only at hSw); go_simp; (try with_reducible rfl))
                try simp only [Act.put, List.setIfInBounds_toArray, List.set_cons_zero, List.set_cons_succ]
                refine wpAnyH_take (i := 2) (oi := ({ dst := some 37, op := Op.indexAddr 72 (Operand.tmp 35) (Operand.tmp 36), type := 0, pos := "slices.go:379", after := #[{ on := 0, ground := Ground.data }, { on := 1, ground := Ground.data }], guard := none } : Oper)) (v := ?hv10) rfl (by kernel_rfl) (by kernel_rfl) (by kernel_rfl) (fun _ _ _ h => h) (Or.inl ⟨by rfl, ?hy10⟩) (by assumption) ?hr10
                case hy10 => (intro w hSw; (try dsimp only at hSw); go_simp; (try with_reducible rfl))
                try simp only [Act.put, List.setIfInBounds_toArray, List.set_cons_zero, List.set_cons_succ]
                refine wpAnyH_take (i := 3) (oi := ({ dst := some 38, op := Op.load 39 (Operand.tmp 37), type := 39, pos := "slices.go:379", after := #[{ on := 2, ground := Ground.data }], guard := none } : Oper)) (v := .agg #[.string q2.us, .string q2.dv]) rfl (by kernel_rfl) (by kernel_rfl) (by kernel_rfl) (fun _ _ _ h => h) (Or.inl ⟨by rfl, fun w0 hw0 => by obtain ⟨q0, q1⟩ := HQ2.out w0 hw0; go_simp⟩) (by assumption) ?_
                try simp only [Act.put, List.setIfInBounds_toArray, List.set_cons_zero, List.set_cons_succ]
                refine wpAnyH_take (i := 4) (oi := ({ dst := some 39, op := Op.move (Operand.tmp 4), type := 72, pos := "slices.go:379", after := #[], guard := none } : Oper)) (v := ?hv11) rfl (by kernel_rfl) (by kernel_rfl) (by kernel_rfl) (fun _ _ _ h => h) (Or.inl ⟨by rfl, ?hy11⟩) (by assumption) ?hr11
                case hy11 => (intro w hSw; (try dsimp only at hSw); go_simp; (try with_reducible rfl))
                try simp only [Act.put, List.setIfInBounds_toArray, List.set_cons_zero, List.set_cons_succ]
                refine wpAnyH_take (i := 5) (oi := ({ dst := some 40, op := Op.move (Operand.tmp 5), type := 3, pos := "slices.go:379", after := #[], guard := none } : Oper)) (v := ?hv12) rfl (by kernel_rfl) (by kernel_rfl) (by kernel_rfl) (fun _ _ _ h => h) (Or.inl ⟨by rfl, ?hy12⟩) (by assumption) ?hr12
                case hy12 => (intro w hSw; (try dsimp only at hSw); go_simp; (try with_reducible rfl))
                try simp only [Act.put, List.setIfInBounds_toArray, List.set_cons_zero, List.set_cons_succ]
                refine wpAnyH_take (i := 6) (oi := ({ dst := some 41, op := Op.binOp BinOp.sub 3 (Operand.tmp 40) (Operand.const (Value.int IntKind.i64 1)) 3, type := 3, pos := "slices.go:379", after := #[{ on := 5, ground := Ground.data }], guard := none } : Oper)) (v := ?hv13) rfl (by kernel_rfl) (by kernel_rfl) (by kernel_rfl) (fun _ _ _ h => h) (Or.inl ⟨by rfl, ?hy13⟩) (by assumption) ?hr13
                case hy13 => (intro w hSw; (try dsimp only at hSw); go_simp; (try with_reducible rfl))
                try simp only [Act.put, List.setIfInBounds_toArray, List.set_cons_zero, List.set_cons_succ]
                refine wpAnyH_take (i := 7) (oi := ({ dst := some 42, op := Op.indexAddr 72 (Operand.tmp 39) (Operand.tmp 41), type := 0, pos := "slices.go:379", after := #[{ on := 4, ground := Ground.data }, { on := 6, ground := Ground.data }], guard := none } : Oper)) (v := ?hv14) rfl (by kernel_rfl) (by kernel_rfl) (by kernel_rfl) (fun _ _ _ h => h) (Or.inl ⟨by rfl, ?hy14⟩) (by assumption) ?hr14
                case hy14 => (intro w hSw; (try dsimp only at hSw); go_simp; (try with_reducible rfl))
                try simp only [Act.put, List.setIfInBounds_toArray, List.set_cons_zero, List.set_cons_succ]
                refine wpAnyH_take (i := 8) (oi := ({ dst := some 43, op := Op.load 39 (Operand.tmp 42), type := 39, pos := "slices.go:379", after := #[{ on := 7, ground := Ground.data }], guard := none } : Oper)) (v := .agg #[.string p2.us, .string p2.dv]) rfl (by kernel_rfl) (by kernel_rfl) (by kernel_rfl) (fun _ _ _ h => h) (Or.inl ⟨by rfl, fun w0 hw0 => by obtain ⟨q0, q1⟩ := HP2.out w0 hw0; go_simp⟩) (by assumption) ?_
                try simp only [Act.put, List.setIfInBounds_toArray, List.set_cons_zero, List.set_cons_succ]
                refine wpAnyH_take (i := 9) (oi := ({ dst := some 44, op := Op.binOp BinOp.neq 39 (Operand.tmp 38) (Operand.tmp 43) 39, type := 4, pos := "slices.go:379", after := #[{ on := 3, ground := Ground.data }, { on := 8, ground := Ground.data }], guard := none } : Oper)) (v := .bool false) rfl (by kernel_rfl) (by kernel_rfl) (by kernel_rfl) (fun _ _ _ h => h) (Or.inl ⟨by rfl, fun w0 hw0 => by go_simp; first | exact (eq_nifs q2 p2 (fun b => Result.ok (Next.value (.bool b)) w0)).trans (by rw [HD2.out]) | exact fun a b => HE2.out ((eq_iff3 q2 p2).2 ⟨a, b⟩)⟩) (by assumption) ?_
                try simp only [Act.put, List.setIfInBounds_toArray, List.set_cons_zero, List.set_cons_succ]
                refine wpAnyH_done (by kernel_rfl) ?_ _
                go_wp2
                go_roundg (m - (k + 1 + 1))
                case measure => omega
                case rel => exact ⟨ii, k + 1 + 1, ys, by omega, by omega, by omega, by omega, by omega, rfl, by go_num, Lib.hid (by rw [show i + 1 + (k + 1 + 1) = i + 1 + (k + 1) + 1 by omega]; exact HSk.out y1 HE2.out (HI.out.blk.below RC0.out) (HI.out.bel.trans (RC0.out.mono HBw.out)))⟩
              · have HE2 := Lib.hid hqp
                have HD2 := Lib.hid (show (!decide (q2 = p2)) = true by rw [decide_eq_false hqp]; rfl)
                clear hqp HSk
                go_upto_region 11 with (fail)
                refine wp_region_held_drew (S := (fun y => Below wr.heap.size wr y)) (by kernel_rfl) ((Below.refl wr.heap.size wr).drew) (fun hH0 => ?_)
                generalize hy0 : World.drew _ = y1 at hH0 ⊢
                have RC0 : Hid (Below wr.heap.size wr y1) := Lib.hid hH0
                clear hy0
                refine wpAnyH_take (i := 0) (oi := ({ dst := some 35, op := Op.move (Operand.tmp 4), type := 72, pos := "slices.go:379", after := #[], guard := none } : Oper)) (v := ?hv1) rfl (by kernel_rfl) (by kernel_rfl) (by kernel_rfl) (fun _ _ _ h => h) (Or.inl ⟨by rfl, ?hy1⟩) (by assumption) ?hr1
                case hy1 => (intro w hSw; (try dsimp only at hSw); go_simp; (try with_reducible rfl))
                try simp only [Act.put, List.setIfInBounds_toArray, List.set_cons_zero, List.set_cons_succ]
                refine wpAnyH_take (i := 1) (oi := ({ dst := some 36, op := Op.move (Operand.tmp 5), type := 3, pos := "slices.go:379", after := #[], guard := none } : Oper)) (v := ?hv2) rfl (by kernel_rfl) (by kernel_rfl) (by kernel_rfl) (fun _ _ _ h => h) (Or.inl ⟨by rfl, ?hy2⟩) (by assumption) ?hr2
                case hy2 => (intro w hSw; (try dsimp only at hSw); go_simp; (try with_reducible rfl))
                try simp only [Act.put, List.setIfInBounds_toArray, List.set_cons_zero, List.set_cons_succ]
                refine wpAnyH_take (i := 2) (oi := ({ dst := some 37, op := Op.indexAddr 72 (Operand.tmp 35) (Operand.tmp 36), type := 0, pos := "slices.go:379", after := #[{ on := 0, ground := Ground.data }, { on := 1, ground := Ground.data }], guard := none } : Oper)) (v := ?hv3) rfl (by kernel_rfl) (by kernel_rfl) (by kernel_rfl) (fun _ _ _ h => h) (Or.inl ⟨by rfl, ?hy3⟩) (by assumption) ?hr3
                case hy3 => (intro w hSw; (try dsimp only at hSw); go_simp; (try with_reducible rfl))
                try simp only [Act.put, List.setIfInBounds_toArray, List.set_cons_zero, List.set_cons_succ]
                refine wpAnyH_take (i := 3) (oi := ({ dst := some 38, op := Op.load 39 (Operand.tmp 37), type := 39, pos := "slices.go:379", after := #[{ on := 2, ground := Ground.data }], guard := none } : Oper)) (v := .agg #[.string q2.us, .string q2.dv]) rfl (by kernel_rfl) (by kernel_rfl) (by kernel_rfl) (fun _ _ _ h => h) (Or.inl ⟨by rfl, fun w0 hw0 => by obtain ⟨q0, q1⟩ := HQ2.out w0 hw0; go_simp⟩) (by assumption) ?_
                try simp only [Act.put, List.setIfInBounds_toArray, List.set_cons_zero, List.set_cons_succ]
                refine wpAnyH_take (i := 4) (oi := ({ dst := some 39, op := Op.move (Operand.tmp 4), type := 72, pos := "slices.go:379", after := #[], guard := none } : Oper)) (v := ?hv4) rfl (by kernel_rfl) (by kernel_rfl) (by kernel_rfl) (fun _ _ _ h => h) (Or.inl ⟨by rfl, ?hy4⟩) (by assumption) ?hr4
                case hy4 => (intro w hSw; (try dsimp only at hSw); go_simp; (try with_reducible rfl))
                try simp only [Act.put, List.setIfInBounds_toArray, List.set_cons_zero, List.set_cons_succ]
                refine wpAnyH_take (i := 5) (oi := ({ dst := some 40, op := Op.move (Operand.tmp 5), type := 3, pos := "slices.go:379", after := #[], guard := none } : Oper)) (v := ?hv5) rfl (by kernel_rfl) (by kernel_rfl) (by kernel_rfl) (fun _ _ _ h => h) (Or.inl ⟨by rfl, ?hy5⟩) (by assumption) ?hr5
                case hy5 => (intro w hSw; (try dsimp only at hSw); go_simp; (try with_reducible rfl))
                try simp only [Act.put, List.setIfInBounds_toArray, List.set_cons_zero, List.set_cons_succ]
                refine wpAnyH_take (i := 6) (oi := ({ dst := some 41, op := Op.binOp BinOp.sub 3 (Operand.tmp 40) (Operand.const (Value.int IntKind.i64 1)) 3, type := 3, pos := "slices.go:379", after := #[{ on := 5, ground := Ground.data }], guard := none } : Oper)) (v := ?hv6) rfl (by kernel_rfl) (by kernel_rfl) (by kernel_rfl) (fun _ _ _ h => h) (Or.inl ⟨by rfl, ?hy6⟩) (by assumption) ?hr6
                case hy6 => (intro w hSw; (try dsimp only at hSw); go_simp; (try with_reducible rfl))
                try simp only [Act.put, List.setIfInBounds_toArray, List.set_cons_zero, List.set_cons_succ]
                refine wpAnyH_take (i := 7) (oi := ({ dst := some 42, op := Op.indexAddr 72 (Operand.tmp 39) (Operand.tmp 41), type := 0, pos := "slices.go:379", after := #[{ on := 4, ground := Ground.data }, { on := 6, ground := Ground.data }], guard := none } : Oper)) (v := ?hv7) rfl (by kernel_rfl) (by kernel_rfl) (by kernel_rfl) (fun _ _ _ h => h) (Or.inl ⟨by rfl, ?hy7⟩) (by assumption) ?hr7
                case hy7 => (intro w hSw; (try dsimp only at hSw); go_simp; (try with_reducible rfl))
                try simp only [Act.put, List.setIfInBounds_toArray, List.set_cons_zero, List.set_cons_succ]
                refine wpAnyH_take (i := 8) (oi := ({ dst := some 43, op := Op.load 39 (Operand.tmp 42), type := 39, pos := "slices.go:379", after := #[{ on := 7, ground := Ground.data }], guard := none } : Oper)) (v := .agg #[.string p2.us, .string p2.dv]) rfl (by kernel_rfl) (by kernel_rfl) (by kernel_rfl) (fun _ _ _ h => h) (Or.inl ⟨by rfl, fun w0 hw0 => by obtain ⟨q0, q1⟩ := HP2.out w0 hw0; go_simp⟩) (by assumption) ?_
                try simp only [Act.put, List.setIfInBounds_toArray, List.set_cons_zero, List.set_cons_succ]
                refine wpAnyH_take (i := 9) (oi := ({ dst := some 44, op := Op.binOp BinOp.neq 39 (Operand.tmp 38) (Operand.tmp 43) 39, type := 4, pos := "slices.go:379", after := #[{ on := 3, ground := Ground.data }, { on := 8, ground := Ground.data }], guard := none } : Oper)) (v := .bool true) rfl (by kernel_rfl) (by kernel_rfl) (by kernel_rfl) (fun _ _ _ h => h) (Or.inl ⟨by rfl, fun w0 hw0 => by go_simp; first | exact (eq_nifs q2 p2 (fun b => Result.ok (Next.value (.bool b)) w0)).trans (by rw [HD2.out]) | exact fun a b => HE2.out ((eq_iff3 q2 p2).2 ⟨a, b⟩)⟩) (by assumption) ?_
                try simp only [Act.put, List.setIfInBounds_toArray, List.set_cons_zero, List.set_cons_succ]
                refine wpAnyH_done (by kernel_rfl) ?_ _
                have X1 := Lib.hid (HI.out.blk.below RC0.out)
                have B1 := Lib.hid (HI.out.bel.trans (RC0.out.mono HBw.out))
                obtain ⟨q0, q1⟩ := HQ2.out _ RC0.out
                go_wp2_with (first
                  | (refine store_mid_as rfl 39 _ _ rfl g (ii * 2) #[.string q2.us, .string q2.dv] rfl rfl (two_there X1.out (by rw [HI.out.len]; omega)) size61k (two_one _) ?_; intro w4 e4; have X4 : Hid (Blk w4 g (cl (ys.set ii q2) ++ R) 39) := Lib.hid (by rw [e4]; exact Blk.put X1.out ii q2 (by rw [HI.out.len]; omega)); have B4 : Hid (Below B w w4) := Lib.hid (by rw [e4]; exact below_setAll hB _ _ _ B1.out); clear e4)
                  | go_in)
                go_roundg (m - (k + 1 + 1))
                case measure => omega
                case rel => exact ⟨ii + 1, k + 1 + 1, ys.set ii q2, by omega, by omega, by omega, by omega, by omega, by go_num, by go_num, Lib.hid (by rw [show i + 1 + (k + 1 + 1) = i + 1 + (k + 1) + 1 by omega]; exact HKe.out w4 HE2.out X4.out B4.out)⟩
            · have hz1 : ¬ (k2 : Int) < (m : Int) := by omega
              obtain rfl : k2 = m := by omega
              have hjn : i + 1 + k2 = n := by omega
              rw [hjn] at HI
              have hlen : (cptUp zs n).length = ii := by rw [← HI.out.done, List.length_take, HI.out.len]; omega
              have HLn := Lib.hid hlen
              have r3 := run_from71 (g := g) (i := ii) (n := n) (c := c) (by omega) hc
              have r4 := run_to71 (A := some ⟨g, 0, none⟩) (n := n) (c := c) (k := ii) (by omega) hc
              clear hlen
              go_wp2_with (with_reducible refine wpList_clear_blk rfl (.tmp 56) rfl rfl g ii (n - ii) (c - ii) (cl ys ++ R) rfl (by omega) HI.out.blk (by rw [List.length_append, cl_len, HI.out.len]; omega) B w HI.out.bel hB ?_; intro w4 cs hb4 hc4 hbel4; have X4 := Lib.hid hb4; have C4 := Lib.hid hc4; have B4 := Lib.hid hbel4; clear hb4 hc4 hbel4)
              go_ret
              rw [HLn.out]
              refine ⟨rfl, ?_, B4.out⟩
              exact Rcs.ofBlk X4.out (by rw [C4.out, List.take_append_of_le_length (by rw [cl_len, HI.out.len]; omega), cl_take _ _ (by rw [HI.out.len]; omega), HI.out.done]) HLn.out (by omega) (by omega) (fun p hp => cpt_fit HF.out HL.out p hp)
        · have hd : decide (q = p) = false := decide_eq_false hqp
          have HD := Lib.hid hd
          have HE := Lib.hid hqp
          have HJ3 := Lib.hid (HJ2.out hqp)
          clear hqp hd HJ2 HCu
          go_upto_region 6 with (fail)
          refine wp_region_held_drew (S := (fun y => Below wr.heap.size wr y)) (by kernel_rfl) ((Below.refl wr.heap.size wr).drew) (fun hH0 => ?_)
          generalize hy0 : World.drew _ = y0 at hH0 ⊢
          have RB0 : Hid (Below wr.heap.size wr y0) := Lib.hid hH0
          clear hy0
          refine wpAnyH_take (i := 0) (oi := ({ dst := some 16, op := Op.move (Operand.tmp 0), type := 72, pos := "slices.go:376", after := #[], guard := none } : Oper)) (v := ?hv22) rfl (by kernel_rfl) (by kernel_rfl) (by kernel_rfl) (fun _ _ _ h => h) (Or.inl ⟨by rfl, ?hy22⟩) (by assumption) ?hr22
          case hy22 => (intro w hSw; (try dsimp only at hSw); go_simp; (try with_reducible rfl))
          try simp only [Act.put, List.setIfInBounds_toArray, List.set_cons_zero, List.set_cons_succ]
          refine wpAnyH_take (i := 1) (oi := ({ dst := some 17, op := Op.move (Operand.tmp 3), type := 3, pos := "slices.go:376", after := #[], guard := none } : Oper)) (v := ?hv23) rfl (by kernel_rfl) (by kernel_rfl) (by kernel_rfl) (fun _ _ _ h => h) (Or.inl ⟨by rfl, ?hy23⟩) (by assumption) ?hr23
          case hy23 => (intro w hSw; (try dsimp only at hSw); go_simp; (try with_reducible rfl))
          try simp only [Act.put, List.setIfInBounds_toArray, List.set_cons_zero, List.set_cons_succ]
          refine wpAnyH_take (i := 2) (oi := ({ dst := some 18, op := Op.indexAddr 72 (Operand.tmp 16) (Operand.tmp 17), type := 0, pos := "slices.go:376", after := #[{ on := 0, ground := Ground.data }, { on := 1, ground := Ground.data }], guard := none } : Oper)) (v := ?hv24) rfl (by kernel_rfl) (by kernel_rfl) (by kernel_rfl) (fun _ _ _ h => h) (Or.inl ⟨by rfl, ?hy24⟩) (by assumption) ?hr24
          case hy24 => (intro w hSw; (try dsimp only at hSw); go_simp; (try with_reducible rfl))
          try simp only [Act.put, List.setIfInBounds_toArray, List.set_cons_zero, List.set_cons_succ]
          refine wpAnyH_take (i := 3) (oi := ({ dst := some 19, op := Op.load 39 (Operand.tmp 18), type := 39, pos := "slices.go:376", after := #[{ on := 2, ground := Ground.data }], guard := none } : Oper)) (v := .agg #[.string q.us, .string q.dv]) rfl (by kernel_rfl) (by kernel_rfl) (by kernel_rfl) (fun _ _ _ h => h) (Or.inl ⟨by rfl, fun w0 hw0 => by obtain ⟨q0, q1⟩ := HQ.out w0 hw0; go_simp⟩) (by assumption) ?_
          try simp only [Act.put, List.setIfInBounds_toArray, List.set_cons_zero, List.set_cons_succ]
          refine wpAnyH_take (i := 4) (oi := ({ dst := some 20, op := Op.move (Operand.tmp 0), type := 72, pos := "slices.go:376", after := #[], guard := none } : Oper)) (v := ?hv25) rfl (by kernel_rfl) (by kernel_rfl) (by kernel_rfl) (fun _ _ _ h => h) (Or.inl ⟨by rfl, ?hy25⟩) (by assumption) ?hr25
          case hy25 => (intro w hSw; (try dsimp only at hSw); go_simp; (try with_reducible rfl))
          try simp only [Act.put, List.setIfInBounds_toArray, List.set_cons_zero, List.set_cons_succ]
          refine wpAnyH_take (i := 5) (oi := ({ dst := some 21, op := Op.move (Operand.tmp 3), type := 3, pos := "slices.go:376", after := #[], guard := none } : Oper)) (v := ?hv26) rfl (by kernel_rfl) (by kernel_rfl) (by kernel_rfl) (fun _ _ _ h => h) (Or.inl ⟨by rfl, ?hy26⟩) (by assumption) ?hr26
          case hy26 => (intro w hSw; (try dsimp only at hSw); go_simp; (try with_reducible rfl))
          try simp only [Act.put, List.setIfInBounds_toArray, List.set_cons_zero, List.set_cons_succ]
          refine wpAnyH_take (i := 6) (oi := ({ dst := some 22, op := Op.binOp BinOp.sub 3 (Operand.tmp 21) (Operand.const (Value.int IntKind.i64 1)) 3, type := 3, pos := "slices.go:376", after := #[{ on := 5, ground := Ground.data }], guard := none } : Oper)) (v := ?hv27) rfl (by kernel_rfl) (by kernel_rfl) (by kernel_rfl) (fun _ _ _ h => h) (Or.inl ⟨by rfl, ?hy27⟩) (by assumption) ?hr27
          case hy27 => (intro w hSw; (try dsimp only at hSw); go_simp; (try with_reducible rfl))
          try simp only [Act.put, List.setIfInBounds_toArray, List.set_cons_zero, List.set_cons_succ]
          refine wpAnyH_take (i := 7) (oi := ({ dst := some 23, op := Op.indexAddr 72 (Operand.tmp 20) (Operand.tmp 22), type := 0, pos := "slices.go:376", after := #[{ on := 4, ground := Ground.data }, { on := 6, ground := Ground.data }], guard := none } : Oper)) (v := ?hv28) rfl (by kernel_rfl) (by kernel_rfl) (by kernel_rfl) (fun _ _ _ h => h) (Or.inl ⟨by rfl, ?hy28⟩) (by assumption) ?hr28
          case hy28 => (intro w hSw; (try dsimp only at hSw); go_simp; (try with_reducible rfl))
          try simp only [Act.put, List.setIfInBounds_toArray, List.set_cons_zero, List.set_cons_succ]
          refine wpAnyH_take (i := 8) (oi := ({ dst := some 24, op := Op.load 39 (Operand.tmp 23), type := 39, pos := "slices.go:376", after := #[{ on := 7, ground := Ground.data }], guard := none } : Oper)) (v := .agg #[.string p.us, .string p.dv]) rfl (by kernel_rfl) (by kernel_rfl) (by kernel_rfl) (fun _ _ _ h => h) (Or.inl ⟨by rfl, fun w0 hw0 => by obtain ⟨q0, q1⟩ := HP.out w0 hw0; go_simp⟩) (by assumption) ?_
          try simp only [Act.put, List.setIfInBounds_toArray, List.set_cons_zero, List.set_cons_succ]
          refine wpAnyH_take (i := 9) (oi := ({ dst := some 25, op := Op.binOp BinOp.eql 39 (Operand.tmp 19) (Operand.tmp 24) 39, type := 4, pos := "slices.go:376", after := #[{ on := 3, ground := Ground.data }, { on := 8, ground := Ground.data }], guard := none } : Oper)) (v := .bool false) rfl (by kernel_rfl) (by kernel_rfl) (by kernel_rfl) (fun _ _ _ h => h) (Or.inl ⟨by rfl, fun w0 hw0 => by go_simp; first | exact (eq_ifs q p (fun b => Result.ok (Next.value (.bool b)) w0)).trans (by rw [HD.out]) | exact fun a b => HE.out ((eq_iff3 q p).2 ⟨a, b⟩)⟩) (by assumption) ?_
          try simp only [Act.put, List.setIfInBounds_toArray, List.set_cons_zero, List.set_cons_succ]
          refine wpAnyH_done (by kernel_rfl) ?_ _
          go_wp2
          go_roundg (n - (i + 1 + 1))
          case measure => omega
          case rel => exact ⟨i + 1 + 1, by omega, by omega, by omega, by go_num, HJ3, Lib.hid (HBk.out.below RB0.out), Lib.hid (BW.out.trans (RB0.out.mono HBs.out))⟩
      · have hkz : ¬ (kk : Int) < (n : Int) := by omega
        obtain rfl : kk = n := by omega
        have HE := Lib.hid (show cptUp zs kk = zs by rw [cptUp_take (by rw [HL.out]; omega) HJ.out]; exact List.take_of_length_le (by rw [HL.out]; omega))
        go_wp2
        go_ret
        rw [HE.out, HL.out]
        exact ⟨rfl, Rcs.ofBlk (n := kk) (c := c) HBk.out (by rw [List.take_append_of_le_length (by rw [cl_len, HL.out]; omega), cl_take _ _ (by rw [HL.out]; omega), List.take_of_length_le (by rw [HL.out]; omega)]) HL.out hc (by omega) HF.out, BW.out⟩
end Go.Proofs.YtbkchcpfnoclhaaGreat.Hd
