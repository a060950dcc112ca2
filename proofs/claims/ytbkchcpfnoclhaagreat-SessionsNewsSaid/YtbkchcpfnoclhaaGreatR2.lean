/- Records: slices.Insert at any place (written by tools/rec.py out of layer 38's texts). Bound: at most 900000 records. -/
import Derived.Test.YtbkchcpfnoclhaaGreatR1
import Derived.Test.YtbkchcpfnoclhaaGreatG4
import Derived.Test.YtbkchcpfnoclhaaGreatIW1
import Derived.Lib.AppendZerosOnto
import Derived.Lib.Overlaps
namespace Go.Proofs.YtbkchcpfnoclhaaGreat
set_option maxRecDepth 100000
open Go.RowKit
set_option linter.unusedVariables false
set_option maxRecDepth 100000
set_option linter.unusedSimpArgs false

theorem info44 : (Tryz.prog.info? 36).map (fun i => (i.zero, i.size, i.bytes)) = some (some (.agg #[.string ⟨#[]⟩, .string ⟨#[]⟩, .int .i64 0]), 3, 40) := by kernel_rfl
theorem size44 : (Tryz.prog.info? 36).map (·.size) = some 3 := by kernel_rfl
theorem under22 : Tryz.prog.underlying 22 = some (.slice 36) := Tryz.underlying22
theorem size22e (w : World) : (Go.sizeOf (Tryz.prog.elem 22)).run Tryz.prog w = .ok 3 w := by kernel_rfl
theorem ret_slice2 {A : Option Addr} {n m c : Nat} (h : m = n) : Ending.returned (.slice A n c) = .returned (.slice A m c) := by rw [h]
theorem blk_src {w : World} {g : Nat} {p : Rc} (h : Blk w g (enc p) 36) : Src w (some ⟨g, 0, none⟩) 1 1 3 (enc p) :=
  ⟨rfl, (fun e => by cases e), .inr ⟨g, 0, rfl, h.lt, fun j u hu => by rw [Nat.zero_add]; exact h.cell hu⟩, enc_one p⟩
theorem run_end22 {A : Option Addr} {n c : Nat} (hc : n ≤ c) (w : World) : ∃ X, ∀ w, (Instr.sliceAt 22 (.slice A n c) (some (.int .i64 (n : Int))) none none).run Tryz.prog w = .ok (.slice X 0 (c - n)) w := by
  refine ⟨if c = n then A else A.map (·.add (n * 3)), fun w => ?_⟩
  have hrun := run_slice_l (P := Tryz.prog) w 22 A n c under22 .i64 (n : Int) (by omega) (by omega)
  rw [size22e] at hrun
  rw [run_sliceAt_slice w 22 _ _ _ _ under22, hrun]
  show Result.ok (sliced A n n c 3) w = _
  unfold sliced
  rw [Nat.sub_self]
set_option maxHeartbeats 1000000 in
theorem ins60_end (A : Option Addr) (n c : Nat) (zs : List Rc) (p : Rc) (g : Nat) (w w0 : World) (h : w.ownsRow w0.heap.size 36 3 (.slice A n c) n (cl zs)) (hg : Blk w g (enc p) 36) (hp : fitR p) (hf : ∀ p ∈ zs, fitR p) (hn : n ≤ 900000) (hl : zs.length = n) (hb0 : Below w0.heap.size w0 w) :
    Calls Tryz.prog 32 #[.slice A n c, .int .i64 (n : Int), .slice (some ⟨g, 0, none⟩) 1 1] w fun e w' => ∃ A' c', e = .returned (.slice A' (n + 1) c') ∧ Rcs w' A' (n + 1) c' (zs ++ [p]) ∧ Below w0.heap.size w0 w' ∧ (∀ b off, A' = some ⟨b, off, none⟩ → w0.heap.size ≤ b) ∧ w.grownBy w' (Value.slice A n c).ownBlock := by
  have hc : n ≤ c := by
    rcases h.2 with ⟨hv, h1⟩ | ⟨g, cap, cur, hv, _, _, hnc, _⟩
    · omega
    · simp only [Value.slice.injEq, true_and] at hv
      rw [hv.2]; exact hnc
  obtain ⟨X, r1⟩ := run_end22 (A := A) hc w
  have H := Lib.hid h
  have HG := Lib.hid (blk_src hg)
  have HB := Lib.hid hb0
  have HF := Lib.hid hf
  have HP := Lib.hid hp
  have HL := Lib.hid hl
  obtain ⟨i0, hi, hz0, hz1, hz2⟩ := info_parts info44
  have HI := Lib.hid (And.intro hi (And.intro hz0 (And.intro hz1 hz2)))
  clear h hg hb0 hf hp hl hi hz0 hz1 hz2
  go_enter Tryz.func32, Tryz.ntmps32
  go_wp2_with (at_builtin; refine wpList_append_any _ rfl (.tmp 23) (.tmp 24) 22 rfl w0.heap.size 36 i0 _ 3 40 Tryz.underlying22 HI.out.1 HI.out.2.1 HI.out.2.2.1 HI.out.2.2.2 rfl (by decide) (.slice A n c) n (cl zs) rfl H.out (some ⟨g, 0, none⟩) 1 1 (enc p) rfl HG.out (by unfold maxLen; omega) (by omega) HB.out.size ?_; intro v3 w3 hgr; have B3 := Lib.hid (hgr.below HB.out H.out); have O3 := Lib.hid hgr.own; have W3 := Lib.hid hgr.grow; clear hgr)
  have h3 := O3.out
  rw [cl_snoc] at h3
  obtain ⟨A2, c2, rfl, hT, hap⟩ := Rcs.ofOwn h3 (by rw [List.length_append, HL.out]; rfl) (by omega) (fun q hq => by rcases List.mem_append.1 hq with h | h; exact HF.out q h; rw [List.mem_singleton.1 h]; exact HP.out)
  have T3 := Lib.hid hT
  have P3 := Lib.hid hap
  clear h3 hT hap
  go_ret
  exact ⟨A2, c2, rfl, T3.out, B3.out, P3.out, W3.out⟩
theorem shift_row {cur : List Value} {zs : List Rc} {n i : Nat} (p : Rc) (h : cur.take (n * 3) = cl zs) (hl : zs.length = n) (hi : i < n) (hc : (n + 1) * 3 ≤ cur.length) :
    (splice (splice cur ((i + 1) * 3) (cl (zs.drop i))) (i * 3) (enc p)).take ((n + 1) * 3) = cl (zs.take i ++ p :: zs.drop i) := by
  have hP : cur.take (i * 3) = cl (zs.take i) := by rw [← cl_take zs i (by omega), ← h, List.take_take, Nat.min_eq_left (by omega)]
  have hPl : (cl (zs.take i)).length = i * 3 := by rw [cl_len, List.length_take]; omega
  have hDl : (cl (zs.drop i)).length = (n - i) * 3 := by rw [cl_len, List.length_drop, hl]
  obtain ⟨Q, R, hQ, hQl⟩ : ∃ Q R, cur.drop (i * 3) = Q ++ R ∧ Q.length = 3 := ⟨(cur.drop (i * 3)).take 3, (cur.drop (i * 3)).drop 3, (List.take_append_drop _ _).symm, by rw [List.length_take, List.length_drop]; omega⟩
  have e0 : cur = (cl (zs.take i) ++ Q) ++ R := by rw [List.append_assoc, ← hQ, ← hP, List.take_append_drop]
  rw [e0, splice_at _ _ _ ((i + 1) * 3) (by rw [List.length_append, hPl, hQl]; omega), List.append_assoc, splice_at _ _ _ (i * 3) hPl, cl_append, cl_cons]
  rw [List.drop_append, enc_len, List.drop_of_length_le (by omega), hQl, List.nil_append, Nat.sub_self, List.drop_zero]
  rw [← List.append_assoc, ← List.append_assoc, ← List.append_assoc, List.take_append_of_le_length (by simp only [List.length_append, hPl, hDl, enc_len]; omega)]
  exact List.take_of_length_le (by simp only [List.length_append, hPl, hDl, enc_len]; omega)
theorem grow_row {R : List Value} {zs : List Rc} {n i : Nat} (p : Rc) (hl : zs.length = n) (hi : i < n) :
    (splice (splice (cl (zs.take i) ++ R) (i * 3) (enc p)) ((i + 1) * 3) (cl (zs.drop i))).take ((n + 1) * 3) = cl (zs.take i ++ p :: zs.drop i) := by
  have hPl : (cl (zs.take i)).length = i * 3 := by rw [cl_len, List.length_take]; omega
  have hDl : (cl (zs.drop i)).length = (n - i) * 3 := by rw [cl_len, List.length_drop, hl]
  rw [splice_at _ _ _ (i * 3) hPl, ← List.append_assoc, splice_at _ _ _ ((i + 1) * 3) (by rw [List.length_append, hPl, enc_len]; omega), cl_append, cl_cons]
  rw [← List.append_assoc, ← List.append_assoc, List.take_append_of_le_length (by simp only [List.length_append, hPl, hDl, enc_len]; omega)]
  exact List.take_of_length_le (by simp only [List.length_append, hPl, hDl, enc_len]; omega)
theorem run_copy_sub (w : World) (g o dl dc sl sc : Nat) (ad : Addr) (cur cs : List Value) (hb : Blk w g cur 36) (hn : cs.length = Nat.min sl dl * 3) (hsrc : ∀ j v, cs[j]? = some v → w.cell? (ad.add j) = some v) (hfit : o + cs.length ≤ cur.length) (h1 : ∀ v ∈ cs, v.oneCell' = true) (ty : TypeId) :
    (Builtin.copy_ #[22, 22] ty #[.slice (some ⟨g, o, none⟩) dl dc, .slice (some ad) sl sc]).run Tryz.prog w = .ok (goInt (Nat.min sl dl)) (w.setRow g (cur.take o ++ cs ++ cur.drop (o + cs.length)).toArray) := by
  obtain ⟨i0, hi, hz0, hz1, hz2⟩ := info_parts info44
  have hload := run_loadCells_list (P := Tryz.prog) w ad cs hsrc
  rw [hn] at hload
  have hst := run_storeCells_at Tryz.prog g o 36 cs 0 cur.toArray w hb.heap (by simpa using hfit) h1
  simp [Builtin.copy_, run_underlying Tryz.underlying22, Builtin.lenOf, Builtin.firstCells, sizeOf, typeInfo, hi, hz1, hload, hst]
theorem grown_setRow (w : World) (g : Nat) (cs : Array Value) : w.grownBy (w.setRow g cs) (some g) := ⟨rfl, rfl, rfl, by simp [World.setRow], fun k _ hk => setRow_other w g k cs (fun e => hk (by rw [e]))⟩
theorem wpList_copy_sub {ops : Array Oper} {rest : List Oper} {o : Oper} {a : Act} {Q : Exit → Act → World → Prop} {w : World} (hgd : o.guard = none) (d s : Operand)
    (ho : o.op = .call { callee := .builtin .copy, args := #[d, s], argTypes := #[22, 22] }) (g k dl dc sl sc : Nat) (ad : Addr) (cur cs : List Value) (hd : a.eval d = .slice (some ⟨g, k, none⟩) dl dc) (hs : a.eval s = .slice (some ad) sl sc)
    (hb : Blk w g cur 36) (hn : cs.length = Nat.min sl dl * 3) (hsrc : ∀ j v, cs[j]? = some v → w.cell? (ad.add j) = some v) (hfit : k + cs.length ≤ cur.length) (h1 : ∀ v ∈ cs, v.oneCell' = true)
    (hK : ∀ w', Blk w' g (splice cur k cs) 36 → w.grownBy w' (some g) → wpList Tryz.prog ops Q rest (a.put o.dst (goInt (Nat.min sl dl))) w') : wpList Tryz.prog ops Q (o :: rest) a w := by
  refine wpList_plain hgd fun K hK' => ?_
  have hr := run_copy_sub w g k dl dc sl sc ad cur cs hb hn hsrc hfit h1 o.type
  unfold Oper.wp
  simp only [execOp, ho, resolve, invoke, builtin, Sem.run_bind, Sem.run_pure, Result.andThen_ok, List.map_toArray, List.map_cons, List.map_nil, hd, hs, hr]
  refine hK' _ _ (hK _ ⟨?_⟩ (grown_setRow w g _))
  rw [List.append_assoc]
  exact setRow_heap w g cur.toArray _ 36 (0, 0) hb.heap
theorem step_copy_sub {ops : Array Oper} {o : Oper} {a : Act} {w : World} {K : Act → World → Prop} {Q : Exit → Act → World → Prop} {E : Prop} (hgd : o.guard = none) (d s : Operand)
    (ho : o.op = .call { callee := .builtin .copy, args := #[d, s], argTypes := #[22, 22] }) (g k dl dc sl sc : Nat) (ad : Addr) (cur cs : List Value) (hd : a.eval d = .slice (some ⟨g, k, none⟩) dl dc) (hs : a.eval s = .slice (some ad) sl sc)
    (hb : Blk w g cur 36) (hn : cs.length = Nat.min sl dl * 3) (hsrc : ∀ j v, cs[j]? = some v → w.cell? (ad.add j) = some v) (hfit : k + cs.length ≤ cur.length) (h1 : ∀ v ∈ cs, v.oneCell' = true)
    (hK : ∀ w', Blk w' g (splice cur k cs) 36 → w.grownBy w' (some g) → K (a.put o.dst (goInt (Nat.min sl dl))) w') : if Region.wanted o (yielded ops a.tmps) = true then Oper.wp Tryz.prog o a w K Q else E := by
  have hw : Region.wanted o (yielded ops a.tmps) = true := by simp [Region.wanted, hgd]
  rw [if_pos hw]
  have hr := run_copy_sub w g k dl dc sl sc ad cur cs hb hn hsrc hfit h1 o.type
  unfold Oper.wp
  simp only [execOp, ho, resolve, invoke, builtin, Sem.run_bind, Sem.run_pure, Result.andThen_ok, List.map_toArray, List.map_cons, List.map_nil, hd, hs, hr]
  refine hK _ ⟨?_⟩ (grown_setRow w g _)
  rw [List.append_assoc]
  exact setRow_heap w g cur.toArray _ 36 (0, 0) hb.heap
theorem run_cut22 {g i n c : Nat} (hi : i ≤ n) (hc : n ≤ c) (hic : i < c) (hb : c ≤ 9223372036854775807) (z : Int) (hz : z = (i : Int)) (w : World) : (Instr.sliceAt 22 (.slice (some ⟨g, 0, none⟩) n c) (some (.int .i64 z)) none none).run Tryz.prog w = .ok (.slice (some ⟨g, i * 3, none⟩) (n - i) (c - i)) w := by
  subst hz
  have hrun := run_slice_l (P := Tryz.prog) w 22 (some ⟨g, 0, none⟩) n c under22 .i64 (i : Int) (by omega) (by omega)
  rw [size22e] at hrun
  rw [run_sliceAt_slice w 22 _ _ _ _ under22, hrun]
  show Result.ok (sliced (some ⟨g, 0, none⟩) i n c 3) w = _
  congr 1
  unfold sliced
  rw [if_neg (by omega)]
  simp [Addr.add] <;> (intro h; exact h.symm)
theorem run_top22 {A : Option Addr} {n c k : Nat} (hk : k ≤ c) (hb : c ≤ 9223372036854775807) (z : Int) (hz : z = (k : Int)) (w : World) :
    (Instr.sliceAt 22 (.slice A n c) none (some (.int .i64 z)) none).run Tryz.prog w = .ok (.slice A k c) w := by
  subst hz
  have hrun := run_slice_h (P := Tryz.prog) w 22 A n c under22 .i64 (k : Int) (by omega) (by omega)
  rw [size22e] at hrun
  rw [run_sliceAt_slice w 22 _ _ _ _ under22, hrun]
  show Result.ok (sliced A 0 k c 3) w = _
  congr 1
  cases A <;> simp [sliced, Addr.add]
theorem size44e (w : World) : (Go.sizeOf 36).run Tryz.prog w = .ok 3 w := by kernel_rfl
theorem apart73 (w : World) (g v : Nat) (cur vs : List Value) (o lb cb : Nat) (hg : Blk w g cur 36) (hv : Blk w v vs 36) (hne : v ≠ g) (h0 : cur.length ≠ 0) :
    (callFunc 45 #[.slice (some ⟨v, 0, none⟩) 1 1, .slice (some ⟨g, o, none⟩) lb cb]).run Tryz.prog w = .ok (.value (.bool false)) w := by
  rw [run_callFunc_extern Tryz.func45 (by kernel_rfl) (by kernel_rfl) (by kernel_rfl) (e := Extern.SlicesOverlaps.overlaps #[22, 22] #[4]) (by kernel_rfl),
    Lib.run_overlaps_apart w 22 4 36 Tryz.underlying22 3 size44e ⟨v, 0, none⟩ ⟨g, o, none⟩ 1 1 lb cb hne 36 36 vs.length cur.length (by unfold World.shape?; rw [hv.heap]; simp) (by unfold World.shape?; rw [hg.heap]; simp) h0 (hv.free 0) (hv.free _)]
  rfl
def MidP (w0 w : World) (A : Option Addr) (n c : Nat) (zz : List Rc) (e : Ending) (w' : World) : Prop := ∃ A' c', e = .returned (.slice A' (n + 1) c') ∧ Rcs w' A' (n + 1) c' zz ∧ Below w0.heap.size w0 w' ∧ (∀ b off, A' = some ⟨b, off, none⟩ → w0.heap.size ≤ b) ∧ w.grownBy w' (Value.slice A n c).ownBlock
theorem grown_below {w0 w w' : World} {g : Nat} (h : w.grownBy w' (some g)) (hb : Below w0.heap.size w0 w) (hg : w0.heap.size ≤ g) : Below w0.heap.size w0 w' := hb.grown h hb.size (fun k hk => by cases hk; exact hg)
theorem blk_grown {w w' : World} {g t : Nat} {cs : List Value} (h : Blk w t cs 36) (hg : w.grownBy w' (some g)) (hne : t ≠ g) : Blk w' t cs 36 := ⟨(hg.block t h.lt (fun e => hne (Option.some.inj e))).trans h.heap⟩
theorem cl_at {w : World} {g : Nat} {cur : List Value} {zs : List Rc} {n i : Nat} (h : Blk w g cur 36) (ht : cur.take (n * 3) = cl zs) (hl : zs.length = n) (hi : i ≤ n) : ∀ j v, (cl (zs.drop i))[j]? = some v → w.cell? ((⟨g, i * 3, none⟩ : Addr).add j) = some v := by
  intro j v hv
  rw [Addr.add_lit]
  refine h.cell ?_
  have hj : j < (cl (zs.drop i)).length := (List.getElem?_eq_some_iff.1 hv).1
  rw [cl_len, List.length_drop, hl] at hj
  rw [← List.getElem?_take_of_lt (l := cur) (show i * 3 + j < n * 3 by omega), ht, ← List.getElem?_drop, cl_drop zs i (by omega)]
  exact hv
set_option maxRecDepth 100000 in
set_option maxHeartbeats 4000000 in
theorem ins60_shift (g0 n c i : Nat) (zs : List Rc) (p : Rc) (g : Nat) (cur : List Value) (w w0 : World) (hX : Blk w g0 cur 36) (hB : w0.heap.size ≤ g0) (hcl : c * 3 = cur.length) (hcm : c ≤ maxLen) (ht : cur.take (n * 3) = cl zs) (hg : Blk w g (enc p) 36) (hne : g ≠ g0) (hp : fitR p) (hf : ∀ p ∈ zs, fitR p) (hn : n ≤ 900000) (hl : zs.length = n) (hi : i < n) (hroom : n + 1 ≤ c) (hb0 : Below w0.heap.size w0 w) :
    Calls Tryz.prog 32 #[.slice (some ⟨g0, 0, none⟩) n c, .int .i64 (i : Int), .slice (some ⟨g, 0, none⟩) 1 1] w (MidP w0 w (some ⟨g0, 0, none⟩) n c (zs.take i ++ p :: zs.drop i)) := by
  unfold maxLen at hcm
  obtain ⟨zz, hzz⟩ : ∃ zz, zz = zs.take i ++ p :: zs.drop i := ⟨_, rfl⟩
  have HZ := Lib.hid hzz
  rw [← hzz]
  have hzl : zz.length = n + 1 := by rw [hzz, List.length_append, List.length_take, List.length_cons, List.length_drop, hl]; omega
  have hzf : ∀ q ∈ zz, fitR q := by
    intro q hq
    rw [hzz] at hq
    rcases List.mem_append.1 hq with h | h
    · exact hf q (List.mem_of_mem_take h)
    · rcases List.mem_cons.1 h with h | h
      · rw [h]; exact hp
      · exact hf q (List.mem_of_mem_drop h)
  clear hzz
  have HZl := Lib.hid hzl
  have HZf := Lib.hid hzf
  have r1 := run_cut22 (g := g0) (i := i) (n := n) (c := c) (by omega) (by omega) (by omega) (by omega) _ rfl
  have r2 := run_top22 (A := some ⟨g0, 0, none⟩) (n := n) (c := c) (k := n + 1) (by omega) (by omega) ((n : Int) + 1) (by omega)
  have r3 := run_cut22 (g := g0) (i := i + 1) (n := n + 1) (c := c) (by omega) (by omega) (by omega) (by omega) ((i : Int) + 1) (by omega)
  have r4 := run_cut22 (g := g0) (i := i) (n := n + 1) (c := c) (by omega) (by omega) (by omega) (by omega) _ rfl
  have hov := fun lb cb => apart73 w g0 g cur _ ((i + 1) * 3) lb cb hX hg hne (by omega)
  have h1 : ¬ ((i : Int) = (n : Int)) := by omega
  have h2 : ¬ ((c : Int) < (n : Int) + 1) := by omega
  have HX := Lib.hid hX
  have HG := Lib.hid hg
  have HT := Lib.hid ht
  have HC := Lib.hid hcl
  have HL := Lib.hid hl
  have HB0 := Lib.hid hb0
  have HS1 := Lib.hid (cl_at (i := i) hX.drew ht hl (by omega))
  have HN1 := Lib.hid (show (cl (zs.drop i)).length = Nat.min (n + 1 - i) (n + 1 - (i + 1)) * 3 by rw [cl_len, List.length_drop, hl]; show (n - i) * 3 = min (n + 1 - i) (n + 1 - (i + 1)) * 3; omega)
  have HF1 := Lib.hid (show (i + 1) * 3 + (cl (zs.drop i)).length ≤ cur.length by rw [cl_len, List.length_drop, hl]; omega)
  have HN2 := Lib.hid (show (enc p).length = Nat.min 1 (n + 1 - i) * 3 by show 3 = min 1 (n + 1 - i) * 3; omega)
  have hw1 : IntKind.i64.wrap ((i : Int) + 1) = (i : Int) + 1 := by rw [IntKind.wrap_i64]; omega
  have hb1 : (0 : Int) ≤ (i : Int) + 1 := by omega
  have hin : i ≤ n := by omega
  have hb2 : ¬ (c = i + 1) := by omega
  have hb3 : (i : Int) ≤ (n : Int) + 1 := by omega
  have hb4 : ¬ (c = i) := by omega
  have htn : ((i : Int) + 1).toNat = i + 1 := by omega
  clear hX hg ht hcl hl hb0 hzl hzf hp hf
  go_enter Tryz.func32, Tryz.ntmps32
  go_wp2_with (simp only [hov])
  go_region_law (refine step_copy_sub rfl _ _ rfl g0 ((i + 1) * 3) (n + 1 - (i + 1)) (c - (i + 1)) (n + 1 - i) (c - i) ⟨g0, i * 3, none⟩ cur (cl (zs.drop i)) (by simp [Act.eval, Act.put]) (by simp [Act.eval, Act.put]) HX.out.drew HN1.out HS1.out HF1.out (cl_one _) ?_; intro w1 hb1x hg1; have X1 := Lib.hid hb1x; have G1 := Lib.hid hg1; clear hb1x hg1)
  have HS2 : Hid (∀ j v, (enc p)[j]? = some v → w1.cell? ((⟨g, 0, none⟩ : Addr).add j) = some v) := Lib.hid (fun j v hv => by rw [Addr.add_lit, Nat.zero_add]; exact (blk_grown HG.out.drew G1.out hne).cell hv)
  have HF2 : Hid (i * 3 + (enc p).length ≤ (splice cur ((i + 1) * 3) (cl (zs.drop i))).length) := Lib.hid (by rw [length_splice _ _ _ HF1.out]; have := HF1.out; show i * 3 + 3 ≤ _; omega)
  clear hw1 hb1 hb2 hb3 hb4 htn
  go_wp2_with (refine wpList_copy_sub rfl (.tmp 80) (.tmp 81) rfl g0 (i * 3) (n + 1 - i) (c - i) 1 1 ⟨g, 0, none⟩ _ (enc p) rfl rfl X1.out HN2.out HS2.out HF2.out (enc_one p) ?_; intro w2 hb2x hg2; have X2 := Lib.hid hb2x; have G2 := Lib.hid hg2; clear hb2x hg2)
  go_ret
  have hgw : w.grownBy w2 (some g0) := by
    have h := G1.out.trans G2.out
    exact ⟨h.os, h.tape, h.output, h.size, h.block⟩
  refine ⟨some ⟨g0, 0, none⟩, c, rfl, ?_, grown_below hgw HB0.out hB, (fun b off e => by cases e; exact hB), hgw⟩
  exact Rcs.ofBlk X2.out (by rw [HZ.out]; exact shift_row p HT.out HL.out hi (by have := HC.out; omega)) HZl.out hroom (by omega) HZf.out
set_option maxRecDepth 100000 in
set_option maxHeartbeats 4000000 in
theorem ins60_grow (g0 n c i : Nat) (zs : List Rc) (p : Rc) (g : Nat) (cur : List Value) (w w0 : World) (hX : Blk w g0 cur 36) (hB : w0.heap.size ≤ g0) (ht : cur.take (n * 3) = cl zs) (hcl : c * 3 = cur.length) (hg : Blk w g (enc p) 36) (hp : fitR p) (hf : ∀ p ∈ zs, fitR p) (hn : n ≤ 900000) (hl : zs.length = n) (hi : i < n) (hnc : n ≤ c) (hroom : c < n + 1) (hb0 : Below w0.heap.size w0 w) :
    Calls Tryz.prog 32 #[.slice (some ⟨g0, 0, none⟩) n c, .int .i64 (i : Int), .slice (some ⟨g, 0, none⟩) 1 1] w (MidP w0 w (some ⟨g0, 0, none⟩) n c (zs.take i ++ p :: zs.drop i)) := by
  obtain ⟨zz, hzz⟩ : ∃ zz, zz = zs.take i ++ p :: zs.drop i := ⟨_, rfl⟩
  have HZ := Lib.hid hzz
  rw [← hzz]
  have hzl : zz.length = n + 1 := by rw [hzz, List.length_append, List.length_take, List.length_cons, List.length_drop, hl]; omega
  have hzf : ∀ q ∈ zz, fitR q := by
    intro q hq
    rw [hzz] at hq
    rcases List.mem_append.1 hq with h | h
    · exact hf q (List.mem_of_mem_take h)
    · rcases List.mem_cons.1 h with h | h
      · rw [h]; exact hp
      · exact hf q (List.mem_of_mem_drop h)
  clear hzz
  have HZl := Lib.hid hzl
  have HZf := Lib.hid hzf
  obtain ⟨i0, hi0, hz0, hzs, hzb⟩ := info_parts info44
  have hti : cur.take (i * 3) = cl (zs.take i) := by rw [← cl_take zs i (by omega), ← ht, List.take_take, Nat.min_eq_left (by omega)]
  have hold : (Builtin.firstCells i0.size i (.slice (some ⟨g0, 0, none⟩) i c)).run Tryz.prog w.drew = .ok (cl (zs.take i)).toArray w.drew := by
    have hload := run_loadCells_list (P := Tryz.prog) w.drew ⟨g0, 0, none⟩ (cl (zs.take i)) (fun j v hv => by
      rw [Addr.add_lit, Nat.zero_add]
      rw [← hti, List.getElem?_take] at hv
      split at hv
      · exact hX.drew.cell hv
      · cases hv)
    rw [show (cl (zs.take i)).length = i * 3 by rw [cl_len, List.length_take]; omega] at hload
    rw [hzs]
    exact hload
  have hkk : (n : Int) + 1 - (i : Int) = ((n + 1 - i : Nat) : Int) := by omega
  have hik : i + (n + 1 - i) = n + 1 := by omega
  obtain ⟨G, hG⟩ : ∃ G, G = grownCap w (n + 1) c 36 := ⟨_, rfl⟩
  obtain ⟨R, hR⟩ : ∃ R : List Value, R = (Builtin.zeroCells (Value.agg #[.string ⟨#[]⟩, .string ⟨#[]⟩, .int .i64 0]).cells (n + 1 - i) ++ Builtin.zeroCells (Value.agg #[.string ⟨#[]⟩, .string ⟨#[]⟩, .int .i64 0]).cells (G - (n + 1))).toList := ⟨_, rfl⟩
  obtain ⟨W1, hW1⟩ : ∃ W1, W1 = w.drew.alloc (.cells (cl (zs.take i) ++ R).toArray 36) := ⟨_, rfl⟩
  have hrz : ∀ ty, (Builtin.append_ #[22, 3] ty #[.slice (some ⟨g0, 0, none⟩) i c, .int .i64 ((n : Int) + 1 - (i : Int))]).run Tryz.prog w = .ok (.slice (some ⟨w.heap.size, 0, none⟩) (n + 1) G) W1 := fun ty => by
    have h := Lib.run_append_grow_zeros w 22 3 ty 36 i0 _ .i64 .i64 Tryz.underlying22 Tryz.underlying3 hi0 hz0 (some ⟨g0, 0, none⟩) i c (cl (zs.take i)) hold (n + 1 - i) (by omega) (by omega) (by omega) (by omega) (by rw [hzb]; omega) (by rw [hzb, hik]; exact growslice_fits hroom (by omega))
    rw [hik] at h
    rw [hkk, hW1, hR, hG]
    rw [h]
    congr 3
    simp
  have hGn : n + 1 ≤ G := by rw [hG]; exact grownCap_ge w _ _ _
  have hG63 : G ≤ 9223372036854775807 := by
    have := grownCap_le_maxLen w (n + 1) c 36 (by unfold maxLen; omega)
    rw [← hG] at this
    unfold maxLen at this
    omega
  have hRl : (n + 1 - i) * 3 ≤ R.length := by
    rw [hR]
    simp [Builtin.zeroCells, Value.cells]
  have hN : Blk W1 w.heap.size (cl (zs.take i) ++ R) 36 := by rw [hW1]; exact blk_new w.drew _ 36
  have hb1 : Below w.heap.size w W1 := by rw [hW1]; exact ((Below.refl w.heap.size w).drew).alloc (Nat.le_refl _) _
  have hne : g0 ≠ w.heap.size := by have := hX.lt; omega
  have hne2 : g ≠ w.heap.size := by have := hg.lt; omega
  obtain ⟨N, hNd⟩ : ∃ N, N = w.heap.size := ⟨_, rfl⟩
  rw [← hNd] at hrz hN hne hne2
  have HND := Lib.hid hNd
  clear hW1 hR hG hold hkk hik hi0 hz0 hzs hzb hNd
  have r1 := run_cut22 (g := g0) (i := i) (n := n) (c := c) (by omega) (by omega) (by omega) (by omega) _ rfl
  have r2 := run_top22 (A := some ⟨g0, 0, none⟩) (n := n) (c := c) (k := i) (by omega) (by omega) (i : Int) (by omega)
  have r3 := run_cut22 (g := N) (i := i) (n := n + 1) (c := G) (by omega) (by omega) (by omega) (by omega) _ rfl
  have hPl : (cl (zs.take i)).length = i * 3 := by rw [cl_len, List.length_take]; omega
  have h1 : ¬ ((i : Int) = (n : Int)) := by omega
  have h2 : (c : Int) < (n : Int) + 1 := by omega
  have HX := Lib.hid (hX.below hb1)
  have HG := Lib.hid (hg.below hb1)
  have HN0 := Lib.hid hN
  have HT := Lib.hid ht
  have HL := Lib.hid hl
  have HB0 := Lib.hid hb0
  have HB1 := Lib.hid hb1
  have HS1 : Hid (∀ j v, (enc p)[j]? = some v → W1.cell? ((⟨g, 0, none⟩ : Addr).add j) = some v) := Lib.hid (fun j v hv => by rw [Addr.add_lit, Nat.zero_add]; exact HG.out.cell hv)
  have HN1 := Lib.hid (show (enc p).length = Nat.min 1 (n + 1 - i) * 3 by show 3 = min 1 (n + 1 - i) * 3; omega)
  have HF1 := Lib.hid (show i * 3 + (enc p).length ≤ (cl (zs.take i) ++ R).length by rw [List.length_append, hPl]; show i * 3 + 3 ≤ _; omega)
  have HN2 := Lib.hid (show (cl (zs.drop i)).length = Nat.min (n - i) (n + 1 - (i + 1)) * 3 by rw [cl_len, List.length_drop, hl]; show (n - i) * 3 = min (n - i) (n + 1 - (i + 1)) * 3; omega)
  have HF2 := Lib.hid (show (i + 1) * 3 + (cl (zs.drop i)).length ≤ (splice (cl (zs.take i) ++ R) (i * 3) (enc p)).length by rw [length_splice _ _ _ HF1.out, cl_len, List.length_drop, hl, List.length_append, hPl]; omega)
  have hw1 : IntKind.i64.wrap ((i : Int) + 1) = (i : Int) + 1 := by rw [IntKind.wrap_i64]; omega
  have hb1' : (0 : Int) ≤ (i : Int) + 1 := by omega
  have hsub : (0 : Int) ≤ (n : Int) + 1 - (i : Int) := by omega
  have hin : i ≤ n := by omega
  have hb2 : ¬ (G = i + 1) := by omega
  have hb3 : (i : Int) ≤ (n : Int) + 1 := by omega
  have hb4 : ¬ (c = i) := by omega
  have htn : ((i : Int) + 1).toNat = i + 1 := by omega
  clear hX hg hN ht hl hb0 hb1 hzl hzf hp hf hti hRl hPl
  go_enter Tryz.func32, Tryz.ntmps32
  go_wp2_with (first
    | (at_builtin; refine Lib.wpList_append_run _ rfl (.tmp 34) (.tmp 39) 22 3 rfl _ _ rfl rfl _ _ (hrz _) ?_)
    | (refine wpList_copy_sub rfl (.tmp 43) (.tmp 44) rfl N (i * 3) (n + 1 - i) (G - i) 1 1 ⟨g, 0, none⟩ _ (enc p) rfl rfl HN0.out HN1.out HS1.out HF1.out (enc_one p) ?_; intro w2 hb2x hg2; have X2 := Lib.hid hb2x; have G2 := Lib.hid hg2; have Y2 := Lib.hid (blk_grown HX.out hg2 hne); clear hb2x hg2))
  have HS2 := Lib.hid (cl_at (i := i) Y2.out.drew HT.out HL.out (by omega))
  go_region_law (refine step_copy_sub rfl _ _ rfl N ((i + 1) * 3) (n + 1 - (i + 1)) (G - (i + 1)) (n - i) (c - i) ⟨g0, i * 3, none⟩ _ (cl (zs.drop i)) (by simp [Act.eval, Act.put]) (by simp [Act.eval, Act.put]) X2.out.drew HN2.out HS2.out HF2.out (cl_one _) ?_; intro w3 hb3x hg3; have X3 := Lib.hid hb3x; have G3 := Lib.hid hg3; clear hb3x hg3)
  clear hw1 hb1' hb2 hb3 hb4 htn
  go_wp2
  go_ret
  have hgw : W1.grownBy w3 (some N) := by
    have h := G3.out
    have h' : w2.grownBy w3 (some N) := ⟨h.os, h.tape, h.output, h.size, h.block⟩
    exact G2.out.trans h'
  have hbw : Below w.heap.size w w3 := HB1.out.grown hgw HB1.out.size (fun k hk => by cases hk; exact Nat.le_of_eq HND.out.symm)
  have hle : w0.heap.size ≤ N := by rw [HND.out]; exact HB0.out.size
  refine ⟨some ⟨N, 0, none⟩, G, rfl, ?_, HB0.out.trans (hbw.mono HB0.out.size), (fun b off e => by cases e; exact hle), ⟨hbw.os, hbw.tape, hbw.output, hbw.size, fun k hk _ => hbw.block k hk⟩⟩
  exact Rcs.ofBlk X3.out (by rw [HZ.out]; exact grow_row p HL.out hi) HZl.out hGn (by omega) HZf.out
theorem ins60_mid (A : Option Addr) (n c i : Nat) (zs : List Rc) (p : Rc) (g : Nat) (w w0 : World) (h : w.ownsRow w0.heap.size 36 3 (.slice A n c) n (cl zs)) (hg : Blk w g (enc p) 36) (hne : ∀ b, (Value.slice A n c).ownBlock = some b → b ≠ g) (hp : fitR p) (hf : ∀ p ∈ zs, fitR p) (hn : n ≤ 900000) (hl : zs.length = n) (hi : i < n) (hb0 : Below w0.heap.size w0 w) :
    Calls Tryz.prog 32 #[.slice A n c, .int .i64 (i : Int), .slice (some ⟨g, 0, none⟩) 1 1] w (MidP w0 w A n c (zs.take i ++ p :: zs.drop i)) := by
  rcases h.2 with ⟨_, h0⟩ | ⟨g0, cap, cur, hv, hB, hX, hnc, hcm, hs, ht⟩
  · omega
  · simp only [Value.slice.injEq, true_and] at hv
    obtain ⟨rfl, rfl⟩ := hv
    have hX' : Blk w g0 cur.toList 36 := ⟨by rw [Array.toArray_toList]; exact hX⟩
    have hcl : c * 3 = cur.toList.length := by rw [Array.length_toList, hs]
    have hne' : g ≠ g0 := fun e => hne g0 rfl e.symm
    rcases Nat.lt_or_ge c (n + 1) with hr | hr
    · exact ins60_grow g0 n c i zs p g cur.toList w w0 hX' hB ht hcl hg hp hf hn hl hi hnc hr hb0
    · exact ins60_shift g0 n c i zs p g cur.toList w w0 hX' hB hcl hcm ht hg hne' hp hf hn hl hi hr hb0
end Go.Proofs.YtbkchcpfnoclhaaGreat
