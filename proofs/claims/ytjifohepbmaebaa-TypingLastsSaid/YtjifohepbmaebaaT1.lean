/- Records of who types: lists, rows of a call's own, copies, clearing. No condition. -/
import Derived.Test.YtjifohepbmaebaaG5
import Derived.Test.YtjifohepbmaebaaIW6
import Derived.OwnWalk
import Derived.Laws.CopyOwn
import Derived.Deep.MidRow
namespace Go.Proofs.Ytjifohepbmaebaa
open Go.RowKit
set_option linter.unusedVariables false

abbrev Tp := ByteArray × Int
def t0 : Tp := (⟨#[]⟩, 0)
def rowT (zs : List Tp) (j : Nat) : List Value := [.string (zs.getD j t0).1, .int .i64 (zs.getD j t0).2]
/-- The cells of records, one behind the other. -/
def cl (zs : List Tp) : List Value := zs.flatMap fun p => [.string p.1, .int .i64 p.2]
theorem cl_cons (p : Tp) (zs : List Tp) : cl (p :: zs) = .string p.1 :: .int .i64 p.2 :: cl zs := rfl
theorem cl_append (a b : List Tp) : cl (a ++ b) = cl a ++ cl b := List.flatMap_append
theorem cl_len : ∀ zs : List Tp, (cl zs).length = zs.length * 2
  | [] => rfl
  | p :: zs => by rw [cl_cons, List.length_cons, List.length_cons, List.length_cons, cl_len zs]; omega
theorem cl_one (zs : List Tp) : ∀ u ∈ cl zs, u.oneCell' = true := by
  intro u hu
  obtain ⟨p, _, hu⟩ := List.mem_flatMap.1 hu
  simp only [List.mem_cons, List.not_mem_nil, or_false] at hu
  rcases hu with rfl | rfl <;> rfl
theorem cl_get0 : ∀ (zs : List Tp) (k : Nat), k < zs.length → (cl zs)[k * 2]? = some (.string (zs.getD k t0).1)
  | p :: zs, 0, _ => rfl
  | p :: zs, k + 1, h => by
    rw [cl_cons, show (k + 1) * 2 = k * 2 + 1 + 1 by omega, List.getElem?_cons_succ, List.getElem?_cons_succ, cl_get0 zs k (by simpa using h)]
    rfl
theorem cl_get1 : ∀ (zs : List Tp) (k : Nat), k < zs.length → (cl zs)[k * 2 + 1]? = some (.int .i64 (zs.getD k t0).2)
  | p :: zs, 0, _ => rfl
  | p :: zs, k + 1, h => by
    rw [cl_cons, show (k + 1) * 2 + 1 = k * 2 + 1 + 1 + 1 by omega, List.getElem?_cons_succ, List.getElem?_cons_succ, cl_get1 zs k (by simpa using h)]
    rfl
theorem cl_set : ∀ (zs : List Tp) (k : Nat) (p : Tp), k < zs.length → ((cl zs).set (k * 2) (.string p.1)).set (k * 2 + 1) (.int .i64 p.2) = cl (zs.set k p)
  | q :: zs, 0, p, _ => rfl
  | q :: zs, k + 1, p, h => by
    rw [List.set_cons_succ, cl_cons, cl_cons, show (k + 1) * 2 = k * 2 + 1 + 1 by omega, List.set_cons_succ, List.set_cons_succ, List.set_cons_succ, List.set_cons_succ, cl_set zs k p (by simpa using h)]
theorem cl_take : ∀ (zs : List Tp) (k : Nat), (cl zs).take (k * 2) = cl (zs.take k)
  | [], k => by simp [cl]
  | p :: zs, 0 => rfl
  | p :: zs, k + 1 => by
    rw [cl_cons, show (k + 1) * 2 = k * 2 + 1 + 1 by omega, List.take_succ_cons, List.take_succ_cons, cl_take zs k, List.take_succ_cons, cl_cons]
theorem cl_inj_len {zs : List Tp} {n : Nat} (h : (cl zs).length = n * 2) : zs.length = n := by rw [cl_len] at h; omega
theorem flat_take (zs : List Tp) : ∀ n, n ≤ zs.length → flat n (rowT zs) = cl (zs.take n)
  | 0, _ => rfl
  | n + 1, h => by
    rw [flat_succ, flat_take zs n (by omega), List.take_succ_eq_append_getElem (by omega), cl_append]
    have : zs.getD n t0 = zs[n] := by rw [List.getD_eq_getElem?_getD, List.getElem?_eq_getElem (by omega)]; rfl
    show _ ++ rowT zs n = _ ++ cl [zs[n]]
    unfold rowT
    rw [this]
    rfl
theorem flat_cl (zs : List Tp) : flat zs.length (rowT zs) = cl zs := by rw [flat_take zs _ (Nat.le_refl _), List.take_length]
theorem rowT_congr {a b : List Tp} {n : Nat} (h : a.take n = b.take n) (j : Nat) (hj : j < n) : rowT a j = rowT b j := by
  have e : a.getD j t0 = b.getD j t0 := by
    rw [List.getD_eq_getElem?_getD, List.getD_eq_getElem?_getD, ← List.getElem?_take_of_lt hj, ← List.getElem?_take_of_lt (l := b) hj, h]
  unfold rowT
  rw [e]
/-- The slice at A has n records, which are zs. -/
structure Tps (w : World) (A : Option Addr) (n c : Nat) (zs : List Tp) : Prop where
  rws : Rws w A n c 2 (rowT zs)
  len : zs.length = n
  cap : n ≤ c
  fit : ∀ p ∈ zs, p.1.size ≤ 9223372036854775807
theorem Tps.below {w w1 : World} {A : Option Addr} {n c : Nat} {zs : List Tp} (h : Tps w A n c zs) (hb : Below w.heap.size w w1) : Tps w1 A n c zs := ⟨h.rws.below hb, h.len, h.cap, h.fit⟩
theorem Tps.src {w : World} {A : Option Addr} {n c : Nat} {zs : List Tp} (h : Tps w A n c zs) : Src w A n c 2 (cl zs) := by
  have := h.rws.src
  rw [← h.len, flat_cl, h.len] at this
  exact this
theorem Tps.get {w : World} {A : Option Addr} {n c : Nat} {zs : List Tp} (h : Tps w A n c zs) {k : Nat} (hk : k < n) :
    ∃ b off, A = some ⟨b, off, none⟩ ∧ b < w.heap.size ∧ w.cell? ⟨b, off + k * 2, none⟩ = some (.string (zs.getD k t0).1) ∧ w.cell? ⟨b, off + k * 2 + 1, none⟩ = some (.int .i64 (zs.getD k t0).2) ∧ (zs.getD k t0).1.size ≤ 9223372036854775807 := by
  obtain ⟨b, off, e, hlt, hr⟩ := h.rws.get hk
  refine ⟨b, off, e, hlt, hr 0 _ rfl, hr 1 _ rfl, h.fit _ ?_⟩
  rw [List.getD_eq_getElem?_getD, List.getElem?_eq_getElem (by rw [h.len]; exact hk)]
  simp
theorem Tps.nil (w : World) : Tps w none 0 0 [] := ⟨Rws.zero _ _ _ _ _ (fun _ => rfl), rfl, Nat.le_refl _, by simp⟩
theorem rowT_len (zs : List Tp) (j : Nat) : (rowT zs j).length = 2 := rfl
theorem rowT_one (zs : List Tp) (j : Nat) : ∀ u ∈ rowT zs j, u.oneCell' = true := by
  intro u hu
  simp only [rowT, List.mem_cons, List.not_mem_nil, or_false] at hu
  rcases hu with rfl | rfl <;> rfl
/-- The front of a block of records is a list of records. -/
theorem Tps.ofBlk {w : World} {g n c : Nat} {cs : List Value} {zs : List Tp} (h : Blk w g cs 44) (hc : cs.take (n * 2) = cl zs) (hl : zs.length = n) (hn : n ≤ c) (hm : n ≤ 9223372036854775807) (hf : ∀ p ∈ zs, p.1.size ≤ 9223372036854775807) : Tps w (some ⟨g, 0, none⟩) n c zs := by
  refine ⟨⟨fun j _ => rfl, fun j _ => rowT_one zs j, by unfold maxLen; omega, (fun e => by cases e), .inr ⟨g, 0, rfl, h.lt, fun j hj i v hv => ?_⟩⟩, hl, hn, hf⟩
  refine h.cell ?_
  have hi : i < 2 := (List.getElem?_eq_some_iff.1 hv).1
  rw [Nat.zero_add, ← List.getElem?_take_of_lt (l := cs) (show j * 2 + i < n * 2 by omega), hc]
  rcases (show i = 0 ∨ i = 1 by omega) with rfl | rfl
  · rw [Nat.add_zero, cl_get0 zs j (by omega)]; exact hv
  · rw [cl_get1 zs j (by omega)]; exact hv
/-- A row of the call's own is a list of records. -/
theorem Tps.ofOwn {w : World} {B : Nat} {v : Value} {n : Nat} {zs : List Tp} (h : w.ownsRow B 44 2 v n (cl zs)) (hl : zs.length = n) (hm : n ≤ 1000000) (hf : ∀ p ∈ zs, p.1.size ≤ 9223372036854775807) : ∃ A c, v = .slice A n c ∧ Tps w A n c zs ∧ ∀ b off, A = some ⟨b, off, none⟩ → B ≤ b := by
  obtain ⟨A, c, rfl⟩ := own_slice h
  have h' := h
  rw [← flat_cl, hl] at h'
  refine ⟨A, c, rfl, ⟨own_rows h' (fun j _ => rfl) (fun j _ => rowT_one zs j) (by unfold maxLen; omega), hl, ?_, hf⟩, fun b off e => by subst e; exact (h.lt b rfl).1⟩
  rcases h.2 with ⟨hv, h1⟩ | ⟨g, cap, cur, hv, _, _, hnc, _⟩
  · omega
  · simp only [Value.slice.injEq, true_and] at hv
    rw [hv.2]; exact hnc
/-- It survives what leaves its block alone. -/
theorem Tps.grew {w w1 : World} {A : Option Addr} {n c : Nat} {zs : List Tp} {row : Option Nat} (h : Tps w A n c zs) (hg : w.grownBy w1 row) (hne : ∀ b off, A = some ⟨b, off, none⟩ → some b ≠ row) : Tps w1 A n c zs := by
  refine ⟨⟨h.rws.len, h.rws.one, h.rws.big, h.rws.nil, h.rws.at_.imp id fun ⟨b, off, e, hlt, hc⟩ => ⟨b, off, e, Nat.lt_of_lt_of_le hlt hg.size, fun j hj i v hv => ?_⟩⟩, h.len, h.cap, h.fit⟩
  exact (World.cell?_of_block (a := ⟨b, off + j * 2 + i, none⟩) (hg.block b hlt (hne b off e))).trans (hc j hj i v hv)
/-- One record more at the end of a row of the call's own. -/
theorem cl_snoc (zs : List Tp) (p : Tp) : cl zs ++ [.string p.1, .int .i64 p.2] = cl (zs ++ [p]) := by rw [cl_append]; rfl
theorem Blk.put {w : World} {g : Nat} {zs : List Tp} (h : Blk w g (cl zs) 44) (k : Nat) (p : Tp) (hk : k < zs.length) : Blk (w.setCells g (k * 2) [.string p.1, .int .i64 p.2]) g (cl (zs.set k p)) 44 := by
  have := (h.set (k * 2) (.string p.1)).set (k * 2 + 1) (.int .i64 p.2)
  rw [cl_set zs k p hk] at this
  exact this
theorem info44 : (Try.prog.info? 44).map (fun i => (i.zero, i.size, i.bytes)) = some (some (.agg #[.string ⟨#[]⟩, .int .i64 0]), 2, 24) := by kernel_rfl
theorem size44 : (Try.prog.info? 44).map (·.size) = some 2 := by kernel_rfl
/-- make of a row, its length variable. -/
theorem wpList_make_blk {ops : Array Oper} {rest : List Oper} {o : Oper} {a : Act} {Q : Exit → Act → World → Prop} {w : World} (hg : o.guard = none) {l : Operand} (hop : o.op = .makeSlice 22 l l) (n : Nat) (hl : a.eval l = .int .i64 (n : Int)) (hn : n ≤ 1000000)
    (hK : ∀ w' cur, Blk w' w.heap.size cur 44 → cur.length = n * 2 → Below w.heap.size w w' → w.heap.size < w'.heap.size → wpList Try.prog ops Q rest (a.put o.dst (.slice (some ⟨w.heap.size, 0, none⟩) n n)) w') : wpList Try.prog ops Q (o :: rest) a w := by
  obtain ⟨i0, hi, hz0, hz1, hz2⟩ := info_parts info44
  refine wpList_plain hg fun K hK' => ?_
  have hr := run_make (P := Try.prog) w 22 44 i0 _ Try.underlying22 hi hz0 .i64 .i64 n n (by omega) (Int.le_refl _) (by rw [hz2]; omega) (by omega)
  simp only [Int.toNat_natCast] at hr
  unfold Oper.wp
  simp [execOp, hop, hl, hr, Result.andThen]
  refine hK' _ _ (hK _ (madeCells (Value.agg #[.string ⟨#[]⟩, .int .i64 0]).cells (n * i0.size)).toList ?_ ?_ ((Below.refl _ w).alloc (Nat.le_refl _) _) (by simp))
  · have := blk_new w (madeCells (Value.agg #[.string ⟨#[]⟩, .int .i64 0]).cells (n * i0.size)).toList 44
    rw [Array.toArray_toList] at this
    exact this
  · rw [Array.length_toList, size_madeCells, hz1]
/-- copy of all records into a row of the call's own that has as many. -/
theorem wpList_copy_blk {ops : Array Oper} {rest : List Oper} {o : Oper} {a : Act} {Q : Exit → Act → World → Prop} {w : World} (hgd : o.guard = none) (d s : Operand)
    (ho : o.op = .call { callee := .builtin .copy, args := #[d, s], argTypes := #[22, 22] }) (g n c : Nat) (A : Option Addr) (cur : List Value) (zs : List Tp) (hd : a.eval d = .slice (some ⟨g, 0, none⟩) n n) (hs : a.eval s = .slice A n c)
    (hb : Blk w g cur 44) (hl : cur.length = n * 2) (h : Tps w A n c zs) (B : Nat) (w0 : World) (hbel : Below B w0 w) (hBg : B ≤ g)
    (hK : ∀ w', Blk w' g (cl zs) 44 → Below B w0 w' → wpList Try.prog ops Q rest (a.put o.dst (goInt n)) w') : wpList Try.prog ops Q (o :: rest) a w := by
  obtain ⟨i0, hi, hz0, hz1, hz2⟩ := info_parts info44
  refine wpList_plain hgd fun K hK' => ?_
  have hsrc := h.src
  cases A with
  | none =>
    obtain ⟨h0, _⟩ := hsrc.nil rfl
    subst h0
    have hz : zs = [] := List.eq_nil_of_length_eq_zero h.len
    have hcur : cur = [] := List.eq_nil_of_length_eq_zero (by rw [hl])
    subst hz hcur
    have hr : (Builtin.copy_ #[22, 22] o.type #[.slice (some ⟨g, 0, none⟩) 0 0, .slice none 0 c]).run Try.prog w = .ok (goInt 0) w := by
      simp [Builtin.copy_, run_underlying Try.underlying22, Builtin.lenOf, Builtin.firstCells, sizeOf, typeInfo, hi, storeCells]
    unfold Oper.wp
    simp [execOp, ho, resolve, invoke, builtin, hd, hs, hr, Result.andThen]
    exact hK' _ _ (hK w hb hbel)
  | some ad =>
    have hcs : ∀ j v, (cl zs)[j]? = some v → w.cell? (ad.add j) = some v := by
      intro j u hu
      rcases hsrc.cell with h0 | ⟨b, off, he, _, hc⟩
      · have h1 : cl zs = [] := List.eq_nil_of_length_eq_zero (by rw [hsrc.len, h0, Nat.zero_mul])
        rw [h1] at hu
        simp at hu
      · cases he
        rw [Addr.add_lit]
        exact hc j u hu
    have hload := run_loadCells_list (P := Try.prog) w ad (cl zs) hcs
    have hlen : (cl zs).length = n * 2 := hsrc.len
    rw [hlen] at hload
    have hst := run_storeCells_at Try.prog g 0 44 (cl zs) 0 cur.toArray w hb.heap (by simp [hlen, hl]) hsrc.one
    have hr : (Builtin.copy_ #[22, 22] o.type #[.slice (some ⟨g, 0, none⟩) n n, .slice (some ad) n c]).run Try.prog w = .ok (goInt n) (w.setRow g ((cur.take 0 ++ cl zs ++ cur.drop (0 + (cl zs).length)).toArray)) := by
      simp [Builtin.copy_, run_underlying Try.underlying22, Builtin.lenOf, Builtin.firstCells, sizeOf, typeInfo, hi, hz1, hload, hst]
    unfold Oper.wp
    simp only [execOp, ho, resolve, invoke, builtin, Sem.run_bind, Sem.run_pure, Result.andThen_ok, List.map_toArray, List.map_cons, List.map_nil, hd, hs, hr]
    refine hK' _ _ (hK _ ⟨?_⟩ (below_setRow hbel hBg _))
    have e : cur.take 0 ++ cl zs ++ cur.drop (0 + (cl zs).length) = cl zs := by
      rw [List.take_zero, List.nil_append, List.drop_of_length_le (by omega), List.append_nil]
    rw [e]
    exact setRow_heap w g cur.toArray (cl zs).toArray 44 (0, 0) hb.heap
/-- clear of the end of a row of the call's own. -/
theorem wpList_clear_blk {ops : Array Oper} {rest : List Oper} {o : Oper} {a : Act} {Q : Exit → Act → World → Prop} {w : World} (hgd : o.guard = none) (x : Operand)
    (ho : o.op = .call { callee := .builtin .clear, args := #[x], argTypes := #[22] }) (hd : o.dst = none) (g k m c : Nat) (cur : List Value) (hx : a.eval x = .slice (some ⟨g, k * 2, none⟩) m c) (hm : 0 < m) (hb : Blk w g cur 44) (hl : cur.length = (k + m) * 2) (B : Nat) (w0 : World) (hbel : Below B w0 w) (hBg : B ≤ g)
    (hK : ∀ w' cs, Blk w' g cs 44 → cs.take (k * 2) = cur.take (k * 2) → Below B w0 w' → wpList Try.prog ops Q rest a w') : wpList Try.prog ops Q (o :: rest) a w := by
  obtain ⟨i0, hi, hz0, hz1, hz2⟩ := info_parts info44
  obtain ⟨m', rfl⟩ : ∃ m', m = m' + 1 := ⟨m - 1, by omega⟩
  refine wpList_plain hgd fun K hK' => ?_
  obtain ⟨zc, hzc⟩ : ∃ zc, (Builtin.zeroCells (Value.agg #[.string ⟨#[]⟩, .int .i64 0]).cells (m' + 1)).toList = zc := ⟨_, rfl⟩
  have hzl : zc.length = (m' + 1) * 2 := by rw [← hzc]; simp [Builtin.zeroCells, Value.cells]
  have hone : ∀ v ∈ zc, v.oneCell' = true := by
    intro v hv
    rw [← hzc] at hv
    simp only [Builtin.zeroCells, Array.toList_map, List.mem_map] at hv
    obtain ⟨i, _, rfl⟩ := hv
    show (#[Value.string ⟨#[]⟩, Value.int .i64 0][i % 2]!).oneCell' = true
    rcases (show i % 2 = 0 ∨ i % 2 = 1 by omega) with e | e <;> rw [e] <;> rfl
  have hst := run_storeCells_at Try.prog g (k * 2) 44 zc 0 cur.toArray w hb.heap (by simp [hzl, hl]; omega) hone
  have hzv : (zeroValue 44).run Try.prog w = .ok (.agg #[.string ⟨#[]⟩, .int .i64 0]) w := by simp [zeroValue, typeInfo, hi, hz0]
  have hr : (Builtin.clear_ #[22] o.type #[.slice (some ⟨g, k * 2, none⟩) (m' + 1) c]).run Try.prog w = .ok (.tuple #[]) (w.setRow g ((cur.take (k * 2 + 0) ++ zc ++ cur.drop (k * 2 + 0 + zc.length)).toArray)) := by
    simp only [Builtin.clear_]
    simp [run_underlying Try.underlying22, hzv, hzc, hst]
  unfold Oper.wp
  simp only [execOp, ho, resolve, invoke, builtin, Sem.run_bind, Sem.run_pure, Result.andThen_ok, List.map_toArray, List.map_cons, List.map_nil, hx, hr]
  rw [Oper.upon_value, hd]
  refine hK' _ _ (hK _ _ ⟨setRow_heap w g cur.toArray _ 44 (0, 0) hb.heap⟩ ?_ (below_setRow hbel hBg _))
  rw [Nat.add_zero, List.append_assoc, List.take_append_of_le_length (by rw [List.length_take]; omega), List.take_take, Nat.min_self]
end Go.Proofs.Ytjifohepbmaebaa
