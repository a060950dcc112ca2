/- Laws for a long test: operations that a test leaves out or runs, joined; a store of one cell; four new blocks. No condition. -/
import Derived.Test.YtdacjnlfjaegiaaGreatDoorK36
import Derived.Test.YtdacjnlfjaegiaaGreatDoorK39
namespace Go.Proofs.YtdacjnlfjaegiaaGreatDoor
open Go Go.RowKit
set_option linter.unusedVariables false
set_option linter.unusedSimpArgs false
set_option maxRecDepth 100000

theorem si3 : (Tryz.prog.info? 3).map (·.size) = some 1 := by kernel_rfl
theorem size9 : (Tryz.prog.info? 9).map (·.size) = some 1 := by kernel_rfl
theorem size4 : (Tryz.prog.info? 4).map (·.size) = some 1 := by kernel_rfl
theorem size23 : (Tryz.prog.info? 23).map (·.size) = some 1 := by kernel_rfl
theorem alloc29 (w : World) : (Instr.alloc 29 true (.tuple #[])).run Tryz.prog w = .ok (.pointer (some ⟨w.heap.size, 0, none⟩)) (w.alloc (.cells ([.string ⟨#[]⟩, .int .i64 0, .int .i64 0, .bool false, .string ⟨#[]⟩, .slice none 0 0, .slice none 0 0, .slice none 0 0, .slice none 0 0, .int .i64 0, .int .i64 0, .int .i64 0, .int .i64 0, .int .i64 0, .int .i64 0, .int .i64 0] : List Value).toArray 29)) := by kernel_rfl
section
variable {P : Program}
theorem run_storeAt_one (w : World) (t i : Nat) (ty : TypeId) (v : Value) {cs : List Value} {T : TypeId} (hb : Blk w t cs T) (hi : i < cs.length) (hs : (P.info? ty).map (·.size) = some 1) (hv : v.oneCell' = true) :
    (Instr.storeAt ty (.pointer (some ⟨t, i, none⟩)) v).run P w = .ok () (w.setCell ⟨t, i, none⟩ v) := by
  have h1 : w.cell? ⟨t, i, none⟩ = some cs[i] := hb.cell (List.getElem?_eq_getElem hi)
  have := run_storeCells_cells (P := P) t i [v] 0 w (fun j hj => by
      have : j = 0 := by simpa using hj
      subst this
      simp [h1]) (fun j hj => by
      have : j = 0 := by simpa using hj
      subst this
      exact hb.free i) (fun u hu => by
      have : u = v := by simpa using hu
      subst this
      exact hv)
  have e1 : w.setCells t i [v] = w.setCell ⟨t, i, none⟩ v := rfl
  simp only [Nat.add_zero, e1] at this
  cases hq : P.info? ty with
  | none => simp [hq] at hs
  | some d =>
    have hs1 : d.size = 1 := by simpa [hq] using hs
    have hc : v.cells = #[v] := by
      cases v <;> first | rfl | (simp [Value.oneCell'] at hv; done)
    simp only [Instr.storeAt, Instr.sureAddr, Sem.run_bind, Sem.run_pure, Result.andThen_ok]
    simp [storeVar, sizeOf, typeInfo, hq, hc, hs1, this]
theorem store_one {ops : Array Oper} {rest : List Oper} {op : Oper} {a : Act} {w : World} {Q : Exit → Act → World → Prop} (hgd : op.guard = none) (ty : TypeId) (x y : Operand) (ho : op.op = .store ty x y)
    (t i : Nat) (v : Value) (cs : List Value) (T : TypeId) (hx : a.eval x = .pointer (some ⟨t, i, none⟩)) (hy : a.eval y = v) (hb : Blk w t cs T) (hi : i < cs.length) (hs : (P.info? ty).map (·.size) = some 1) (hv : v.oneCell' = true)
    (h : ∀ w', Blk w' t (cs.set i v) T → Put w w' t → wpList P ops Q rest (a.put op.dst undef) w') : wpList P ops Q (op :: rest) a w :=
  wpList_plain hgd fun K hK => by
    unfold Oper.wp execOp
    simp only [ho, hx, hy, run_storeAt_one w t i ty v hb hi hs hv, Sem.run_bind, Sem.run_pure, Result.andThen_ok]
    exact hK _ _ (h _ (hb.set i v) ⟨fun t' cs' T' hne hb' => hb'.other ⟨t, i, none⟩ v hne, fun B hB => (Below.refl B w).setCell (p := ⟨t, i, none⟩) hB v⟩)
theorem exec_load {ev : Operand → Value} {op : Oper} {w : World} (ty : TypeId) (x : Operand) (ho : op.op = .load ty x) (b o : Nat) (hx : ev x = .pointer (some ⟨b, o, none⟩)) (cs : List Value) (d : TypeDesc) (hc : w.rangeAt b o cs)
    (hu : P.underlying ty = some d) (hd : d.isRow = true) (hi : (P.info? ty).map (·.size) = some cs.length) : (execOp ev op).run P w = .ok (.value (.agg cs.toArray)) w := by
  unfold execOp
  simp only [ho, hx, Instr.loadAt, Instr.sureAddr, Sem.run_bind, Sem.run_pure, Result.andThen_ok, run_loadVar_mid w b o ty cs d hc hu hd hi]
theorem st_callB {ops : Array Oper} {rest : List Oper} {o : Oper} {a : Act} {w : World} {Q : Exit → Act → World → Prop} (f : FuncId) (args : Array Value) (v : Value) (hw : Region.wanted o (yielded ops a.tmps) = true)
    (hr : ∀ w, (execOp a.eval o).run P w = .ok (.enter f args) w) (hc : Calls P f args w fun e w' => e = .returned v ∧ Below w.heap.size w w') (H : ∀ w', Below w.heap.size w w' → wpList P ops Q rest (a.put o.dst v) w') : wpList P ops Q (o :: rest) a w :=
  st_call f args hw hr (hc.mono fun e w' ⟨he, hb⟩ => ⟨v, he, H w' hb⟩)
/-- Four operations that run unless q, and a pick: true in both cases. -/
theorem or5_join {ops : Array Oper} {rest : List Oper} {o1 o2 o3 o4 o5 : Oper} {a : Act} {w : World} {Q : Exit → Act → World → Prop} (f : FuncId) (args : Array Value) (q : Bool) (v : Int) (hs : (q || (v == 1)) = true) (v1 v2 : Value)
    (hw1 : Region.wanted o1 (yielded ops a.tmps) = !q)
    (hr1 : (execOp a.eval o1).run P w = .ok (.value v1) w)
    (hw2 : ∀ x, Region.wanted o2 (yielded ops (a.put o1.dst x).tmps) = !q)
    (hr2 : (execOp (a.put o1.dst v1).eval o2).run P w = .ok (.value v2) w)
    (hw3 : ∀ x y, Region.wanted o3 (yielded ops ((a.put o1.dst x).put o2.dst y).tmps) = !q)
    (hr3 : ∀ w : World, (execOp ((a.put o1.dst v1).put o2.dst v2).eval o3).run P w = .ok (.enter f args) w)
    (hw4 : ∀ x y z, Region.wanted o4 (yielded ops (((a.put o1.dst x).put o2.dst y).put o3.dst z).tmps) = !q)
    (hr4 : v = 1 → ∀ x y (w : World), (execOp (((a.put o1.dst x).put o2.dst y).put o3.dst (.int .i64 1)).eval o4).run P w = .ok (.value (.bool true)) w)
    (hw5 : ∀ x y z u, Region.wanted o5 (yielded ops ((((a.put o1.dst x).put o2.dst y).put o3.dst z).put o4.dst u).tmps) = true)
    (hr5t : q = true → ∀ x y z u (w : World), (execOp ((((a.put o1.dst x).put o2.dst y).put o3.dst z).put o4.dst u).eval o5).run P w = .ok (.value (.bool true)) w)
    (hr5f : q = false → ∀ x y z (w : World), (execOp ((((a.put o1.dst x).put o2.dst y).put o3.dst z).put o4.dst (.bool true)).eval o5).run P w = .ok (.value (.bool true)) w)
    (hc : Calls P f args w fun e w' => e = .returned (.int .i64 v) ∧ Below w.heap.size w w')
    (H : ∀ x y z u w', Below w.heap.size w w' → wpList P ops Q rest (((((a.put o1.dst x).put o2.dst y).put o3.dst z).put o4.dst u).put o5.dst (.bool true)) w') :
    wpList P ops Q (o1 :: o2 :: o3 :: o4 :: o5 :: rest) a w := by
  cases q with
  | false =>
    have hv : v = 1 := by simpa using hs
    subst hv
    refine st_val (by rw [hw1]; rfl) hr1 ?_
    refine st_val (by rw [hw2]; rfl) hr2 ?_
    refine st_call f args (by rw [hw3]; rfl) hr3 ?_
    refine hc.mono fun e w' hh => ?_
    obtain ⟨rfl, hb⟩ := hh
    refine ⟨_, rfl, ?_⟩
    refine st_val (by rw [hw4]; rfl) (hr4 rfl _ _ _) ?_
    refine st_val (hw5 _ _ _ _) (hr5f rfl _ _ _ _) ?_
    exact H _ _ _ _ _ hb
  | true =>
    refine wpList_step fun K hK => ?_
    rw [if_neg (by rw [hw1]; simp)]
    refine hK _ _ (wpList_step fun K2 hK2 => ?_)
    rw [if_neg (by rw [hw2]; simp)]
    refine hK2 _ _ (wpList_step fun K3 hK3 => ?_)
    rw [if_neg (by rw [hw3]; simp)]
    refine hK3 _ _ (wpList_step fun K4 hK4 => ?_)
    rw [if_neg (by rw [hw4]; simp)]
    refine hK4 _ _ ?_
    refine st_val (hw5 _ _ _ _) (hr5t rfl _ _ _ _ _) ?_
    exact H _ _ _ _ _ (Below.refl _ _)
end
/-- Four new blocks with the same cells. -/
structure F4 (w wx : World) (cs : List Value) (a b c d : Nat) : Prop where
  bel : Below w.heap.size w wx
  xa : Blk wx a cs 29
  xb : Blk wx b cs 29
  xc : Blk wx c cs 29
  xd : Blk wx d cs 29
  ab : a ≠ b
  ac : a ≠ c
  ad : a ≠ d
  bc : b ≠ c
  bd : b ≠ d
  cd : c ≠ d
  la : w.heap.size ≤ a
  lb : w.heap.size ≤ b
  lc : w.heap.size ≤ c
  ld : w.heap.size ≤ d
/-- New blocks, all of the same cells. -/
structure S4 (w y : World) (bs : List Nat) : Prop where
  bel : Below w.heap.size w y
  blk : ∀ b ∈ bs, Blk y b [.string ⟨#[]⟩, .int .i64 0, .int .i64 0, .bool false, .string ⟨#[]⟩, .slice none 0 0, .slice none 0 0, .slice none 0 0, .slice none 0 0, .int .i64 0, .int .i64 0, .int .i64 0, .int .i64 0, .int .i64 0, .int .i64 0, .int .i64 0] 29
  ge : ∀ b ∈ bs, w.heap.size ≤ b
  nd : bs.Nodup
theorem S4.nil {w y : World} (h : Below w.heap.size w y) : S4 w y [] := ⟨h, (fun b hb => by cases hb), (fun b hb => by cases hb), List.nodup_nil⟩
theorem S4.ins {w y y' : World} (l1 l2 : List Nat) (h : S4 w y (l1 ++ l2)) {t : Nat} (hx : Blk y' t [.string ⟨#[]⟩, .int .i64 0, .int .i64 0, .bool false, .string ⟨#[]⟩, .slice none 0 0, .slice none 0 0, .slice none 0 0, .slice none 0 0, .int .i64 0, .int .i64 0, .int .i64 0, .int .i64 0, .int .i64 0, .int .i64 0, .int .i64 0] 29) (hb : Below y.heap.size y y') (ht : y.heap.size ≤ t) : S4 w y' (l1 ++ t :: l2) := by
  have hm : ∀ b, b ∈ l1 ++ t :: l2 → b = t ∨ b ∈ l1 ++ l2 := fun b hb => by
    simp only [List.mem_append, List.mem_cons] at hb ⊢
    rcases hb with h1 | h1 | h1
    · exact .inr (.inl h1)
    · exact .inl h1
    · exact .inr (.inr h1)
  refine ⟨h.bel.trans (hb.mono h.bel.size), fun b hb' => ?_, fun b hb' => ?_, ?_⟩
  · rcases hm b hb' with rfl | h1
    · exact hx
    · exact (h.blk b h1).below hb
  · rcases hm b hb' with rfl | h1
    · exact Nat.le_trans h.bel.size ht
    · exact h.ge b h1
  · have hn : t ∉ l1 ++ l2 := fun h1 => absurd (h.blk t h1).lt (Nat.not_lt_of_le ht)
    exact (List.perm_middle.nodup_iff).2 (List.nodup_cons.2 ⟨hn, h.nd⟩)
/-- Four blocks, their cells. -/
structure G4 (w y : World) (A B C D : List Value) (a b c d : Nat) : Prop where
  bel : Below w.heap.size w y
  xa : Blk y a A 29
  xb : Blk y b B 29
  xc : Blk y c C 29
  xd : Blk y d D 29
  ab : a ≠ b
  ac : a ≠ c
  ad : a ≠ d
  bc : b ≠ c
  bd : b ≠ d
  cd : c ≠ d
  la : w.heap.size ≤ a
  lb : w.heap.size ≤ b
  lc : w.heap.size ≤ c
  ld : w.heap.size ≤ d
theorem S4.g4 {w y : World} {a b c d : Nat} (h : S4 w y [a, b, c, d]) : G4 w y [.string ⟨#[]⟩, .int .i64 0, .int .i64 0, .bool false, .string ⟨#[]⟩, .slice none 0 0, .slice none 0 0, .slice none 0 0, .slice none 0 0, .int .i64 0, .int .i64 0, .int .i64 0, .int .i64 0, .int .i64 0, .int .i64 0, .int .i64 0] [.string ⟨#[]⟩, .int .i64 0, .int .i64 0, .bool false, .string ⟨#[]⟩, .slice none 0 0, .slice none 0 0, .slice none 0 0, .slice none 0 0, .int .i64 0, .int .i64 0, .int .i64 0, .int .i64 0, .int .i64 0, .int .i64 0, .int .i64 0] [.string ⟨#[]⟩, .int .i64 0, .int .i64 0, .bool false, .string ⟨#[]⟩, .slice none 0 0, .slice none 0 0, .slice none 0 0, .slice none 0 0, .int .i64 0, .int .i64 0, .int .i64 0, .int .i64 0, .int .i64 0, .int .i64 0, .int .i64 0] [.string ⟨#[]⟩, .int .i64 0, .int .i64 0, .bool false, .string ⟨#[]⟩, .slice none 0 0, .slice none 0 0, .slice none 0 0, .slice none 0 0, .int .i64 0, .int .i64 0, .int .i64 0, .int .i64 0, .int .i64 0, .int .i64 0, .int .i64 0] a b c d := by
  have hn := h.nd
  simp only [List.nodup_cons, List.mem_cons, List.not_mem_nil, or_false, not_or] at hn
  exact ⟨h.bel, h.blk a (by simp), h.blk b (by simp), h.blk c (by simp), h.blk d (by simp), hn.1.1, hn.1.2.1, hn.1.2.2, hn.2.1.1, hn.2.1.2, hn.2.2.1, h.ge a (by simp), h.ge b (by simp), h.ge c (by simp), h.ge d (by simp)⟩
section
variable {w y y' : World} {A B C D E : List Value} {a b c d : Nat}
theorem G4.sa (h : G4 w y A B C D a b c d) (hx : Blk y' a E 29) (hp : Put y y' a) : G4 w y' E B C D a b c d := ⟨h.bel.trans (hp.bel _ h.la), hx, hp.oth _ _ _ h.ab.symm h.xb, hp.oth _ _ _ h.ac.symm h.xc, hp.oth _ _ _ h.ad.symm h.xd, h.ab, h.ac, h.ad, h.bc, h.bd, h.cd, h.la, h.lb, h.lc, h.ld⟩
theorem G4.sb (h : G4 w y A B C D a b c d) (hx : Blk y' b E 29) (hp : Put y y' b) : G4 w y' A E C D a b c d := ⟨h.bel.trans (hp.bel _ h.lb), hp.oth _ _ _ h.ab h.xa, hx, hp.oth _ _ _ h.bc.symm h.xc, hp.oth _ _ _ h.bd.symm h.xd, h.ab, h.ac, h.ad, h.bc, h.bd, h.cd, h.la, h.lb, h.lc, h.ld⟩
theorem G4.sc (h : G4 w y A B C D a b c d) (hx : Blk y' c E 29) (hp : Put y y' c) : G4 w y' A B E D a b c d := ⟨h.bel.trans (hp.bel _ h.lc), hp.oth _ _ _ h.ac h.xa, hp.oth _ _ _ h.bc h.xb, hx, hp.oth _ _ _ h.cd.symm h.xd, h.ab, h.ac, h.ad, h.bc, h.bd, h.cd, h.la, h.lb, h.lc, h.ld⟩
theorem G4.sd (h : G4 w y A B C D a b c d) (hx : Blk y' d E 29) (hp : Put y y' d) : G4 w y' A B C E a b c d := ⟨h.bel.trans (hp.bel _ h.ld), hp.oth _ _ _ h.ad h.xa, hp.oth _ _ _ h.bd h.xb, hp.oth _ _ _ h.cd h.xc, hx, h.ab, h.ac, h.ad, h.bc, h.bd, h.cd, h.la, h.lb, h.lc, h.ld⟩
theorem G4.f4 (h : G4 w y A A A A a b c d) : F4 w y A a b c d := ⟨h.bel, h.xa, h.xb, h.xc, h.xd, h.ab, h.ac, h.ad, h.bc, h.bd, h.cd, h.la, h.lb, h.lc, h.ld⟩
end
theorem bel_put {B t : Nat} {w w1 w2 : World} (h : Below B w w1) (hp : Put w1 w2 t) (hB : B ≤ t) : Below B w w2 := h.trans (hp.bel B hB)
end Go.Proofs.YtdacjnlfjaegiaaGreatDoor
