/- Sessions: find, Use, Reads of the program. Bound: at most 900000 shares. -/
import Derived.Test.YtbkchcpfnoclhaaGreatV1
namespace Go.Proofs.YtbkchcpfnoclhaaGreat
set_option maxRecDepth 100000
open Go Go.RowKit
set_option linter.unusedVariables false
set_option linter.unusedSimpArgs false

theorem bel_dn {B : Nat} {a w : World} (h : Below B a w) (n : Nat) : Below B a (w.drewN n) := h.trans ⟨rfl, rfl, rfl, Nat.le_refl _, fun _ _ => rfl⟩
theorem below_setRow {B b : Nat} {a w : World} (h : Below B a w) (hb : B ≤ b) (vs : List Value) (o : Nat) : Below B a (w.setCells b o vs) := by
  induction vs generalizing o w with
  | nil => exact h
  | cons v vs ih => exact ih (h.setCell (p := ⟨b, o, none⟩) hb v) (o + 1)
theorem results_cell_tmp2 {fn : Func} {p u v : Tmp} {ty : TypeId} (h : fn.results = #[.cell p ty, .tmp u, .tmp v]) (tmps : Array Value) (P : Program) (w : World) :
    (results fn tmps).run P w =
      ((asAddr (tmps.getD p undef)).run P w).andThen fun a w₁ => ((loadVar ty a).run P w₁).andThen fun x w₂ => .ok (.tuple #[x, tmps.getD u undef, tmps.getD v undef]) w₂ := by
  simp only [results, h]
  simp [Sem.run_bind, Result.andThen]
theorem results_cell_tmp2_blk {P : Program} {fn : Func} {p u v : Tmp} {ty : TypeId} (h : fn.results = #[.cell p ty, .tmp u, .tmp v]) (tmps : Array Value) (w : World) (t : Nat) (cs : List Value) (T : TypeId) (d : TypeDesc)
    (hp : tmps.getD p undef = .pointer (some ⟨t, 0, none⟩)) (hc : Blk w t cs T) (hu : P.underlying ty = some d) (hd : (match d with | .struct _ | .array _ _ => true | _ => false) = true) (hi : (P.info? ty).map (·.size) = some cs.length) :
    (results fn tmps).run P w = .ok (.tuple #[.agg cs.toArray, tmps.getD u undef, tmps.getD v undef]) w := by
  have hi' : (P.info? ty).map (·.size) = some cs.toArray.size := by simpa using hi
  rw [results_cell_tmp2 h, hp]
  simp [asAddr, Result.andThen, run_loadVar_row (P := P) w t T ty cs.toArray (0, 0) d hc.heap hu hd hi']
def i64B (k : Int) : Prop := -9223372036854775808 ≤ k ∧ k ≤ 9223372036854775807
abbrev sC (id : Int) (rm : ByteArray) (nx : Int) (A : Option Addr) (n c : Nat) : List Value := [.int .i64 id, .string rm, .int .i64 nx, .slice A n c]
theorem size24 : (Tryz.prog.info? 24).map (·.size) = some 4 := by kernel_rfl
/-- A session. -/
structure Ses where
  id : Int
  rm : ByteArray
  nx : Int
  l : List Rc
def s0 : Ses := ⟨0, ⟨#[]⟩, 0, []⟩
def IsS (w : World) (S : Ses) (v : Value) : Prop := ∃ A c, v = .agg #[.int .i64 S.id, .string S.rm, .int .i64 S.nx, .slice A S.l.length c] ∧ Rcs w A S.l.length c S.l
theorem IsS.below {w w1 : World} {S : Ses} {v : Value} (h : IsS w S v) (hb : Below w.heap.size w w1) : IsS w1 S v := by
  obtain ⟨A, c, e, hr⟩ := h
  exact ⟨A, c, e, hr.below hb⟩
theorem isS_zero (w : World) : IsS w s0 (.agg #[.int .i64 0, .string ⟨#[]⟩, .int .i64 0, .slice none 0 0]) := ⟨none, 0, rfl, Rcs.nil w⟩
theorem own_keep {w w' : World} {B : Nat} {e : TypeId} {sz : Nat} {v : Value} {n : Nat} {xs : List Value} (h : w.ownsRow B e sz v n xs) (hk : ∀ b, v.ownBlock = some b → b < w.heap.size → w'.heap[b]? = w.heap[b]?) : w'.ownsRow B e sz v n xs :=
  ⟨h.1, h.2.imp id fun ⟨g, cap, cur, ev, hB, hg, r⟩ => ⟨g, cap, cur, ev, hB, (hk g (by rw [ev]; rfl) (Array.getElem?_eq_some_iff.1 hg).1).trans hg, r⟩⟩
theorem Rcs.setRow {t : Nat} {A : Option Addr} {n c : Nat} {zs : List Rc} {w : World} (h : Rcs w A n c zs) (hne : ∀ b off, A = some ⟨b, off, none⟩ → t < b) (vs : List Value) (o : Nat) : Rcs (w.setCells t o vs) A n c zs := by
  refine h.grew (row := some t) ⟨?_, ?_, ?_, ?_, fun k hk hkt => ?_⟩ (fun b off e h1 => by have h2 : b = t := Option.some.inj h1; have := hne b off e; omega)
  all_goals first
    | exact (below_setRow (B := 0) (Below.refl 0 w) (Nat.zero_le _) vs o).os
    | exact (below_setRow (B := 0) (Below.refl 0 w) (Nat.zero_le _) vs o).tape
    | exact (below_setRow (B := 0) (Below.refl 0 w) (Nat.zero_le _) vs o).output
    | exact (below_setRow (B := 0) (Below.refl 0 w) (Nat.zero_le _) vs o).size
    | exact World.heap_setCells_other w t o vs hk (fun e => hkt (by rw [e]))
set_option maxRecDepth 100000 in
theorem find28 (id : Int) (rm : ByteArray) (nx : Int) (A : Option Addr) (n c : Nat) (l : List Rc) (u d : ByteArray) (w : World) (h : Rcs w A n c l) : Calls Tryz.prog 14 #[.agg #[.int .i64 id, .string rm, .int .i64 nx, .slice A n c], .agg #[.string u, .string d]] w fun e w' => e = .returned (.int .i64 (fidx (smH u d) l)) ∧ Below w.heap.size w w' := by
  have BA := Lib.hid (((Below.refl w.heap.size w).alloc (Nat.le_refl _) (.cells #[.int .i64 id, .string rm, .int .i64 nx, .slice A n c] 24)).alloc (by simp) (.cells #[.string u, .string d] 39))
  have XS := Lib.hid ((blk_new w (sC id rm nx A n c) 24).alloc (.cells #[.string u, .string d] 39))
  have XH := Lib.hid (blk_new2 w (.cells #[.int .i64 id, .string rm, .int .i64 nx, .slice A n c] 24) [.string u, .string d] 39)
  have HI := Lib.hid (index41 (smH u d) (w.heap.size + 1) A n c l _ (h.below BA.out) (fun p x hb => find41 p.us p.dv u d p.ix (w.heap.size + 1) x (XH.out.at_ hb XH.out.lt)))
  clear h
  have y3 := XS.out.cell (i := 3) rfl
  go_enter Tryz.func14, Tryz.ntmps14
  go_wp2_with (first
    | (go_at_call 30; (with_reducible refine HI.out.mono ?_); rintro e w1 ⟨rfl, hb⟩; have B1 := Lib.hid (BA.out.trans (hb.mono BA.out.size)); clear hb)
    | go_in)
  go_ret
  exact ⟨rfl, B1.out⟩
/-- What Use gives. -/
def useS (S : Ses) (m : Int) : Ses × Int × Int := if m < 1 ∨ 10000 < m ∨ S.nx < 0 then (s0, 0, 2) else if m ≤ S.nx then (s0, 0, 26) else (⟨S.id, S.rm, S.nx + 1, S.l⟩, S.nx, 0)
def UseP (w : World) (x : Ses × Int × Int) (r : Ending) (w' : World) : Prop := ∃ v, r = .returned (.tuple #[v, .int .i64 x.2.1, .int .i64 x.2.2]) ∧ IsS w' x.1 v ∧ Below w.heap.size w w'
set_option maxRecDepth 100000 in
set_option maxHeartbeats 4000000 in
theorem use10 (S : Ses) (A : Option Addr) (c : Nat) (m : Int) (w : World) (h : Rcs w A S.l.length c S.l) (hn : S.l.length ≤ 900000) (hnx : i64B S.nx) : Calls Tryz.prog 22 #[.agg #[.int .i64 S.id, .string S.rm, .int .i64 S.nx, .slice A S.l.length c], .int .i64 m] w (UseP w (useS S m)) := by
  obtain ⟨id, rm, nx, l⟩ := S
  dsimp only at h hn hnx ⊢
  have BA := Lib.hid (((Below.refl w.heap.size w).alloc (Nat.le_refl _) (.cells #[.int .i64 id, .string rm, .int .i64 nx, .slice A l.length c] 24)).alloc (by simp) (.cells #[.int .i64 0, .string ⟨#[]⟩, .int .i64 0, .slice none 0 0] 24))
  have XS := Lib.hid ((blk_new w (sC id rm nx A l.length c) 24).alloc (.cells #[.int .i64 0, .string ⟨#[]⟩, .int .i64 0, .slice none 0 0] 24))
  have XR := Lib.hid (blk_new2 w (.cells #[.int .i64 id, .string rm, .int .i64 nx, .slice A l.length c] 24) [.int .i64 0, .string ⟨#[]⟩, .int .i64 0, .slice none 0 0] 24)
  have HC := Lib.hid (clone27 A l.length c (rowR l) _ (h.below BA.out).rws (by omega))
  have HL := Lib.hid h
  clear h
  unfold i64B at hnx
  have y2 := XS.out.cell (i := 2) rfl
  have y3 := XS.out.cell (i := 3) rfl
  have hU := Lib.hid (show useS ⟨id, rm, nx, l⟩ m = if m < 1 ∨ 10000 < m ∨ nx < 0 then (s0, 0, 2) else if m ≤ nx then (s0, 0, 26) else (⟨id, rm, nx + 1, l⟩, nx, 0) from rfl)
  generalize useS ⟨id, rm, nx, l⟩ m = X at hU ⊢
  by_cases h1 : m < 1
  · have hU2 := Lib.hid (hU.out.trans (if_pos (.inl h1)))
    go_enter Tryz.func22, Tryz.ntmps22
    go_wp2_with (first
      | (refine wpList_store_mid rfl 24 _ _ rfl (w.heap.size + 1) 0 #[.int .i64 0, .string ⟨#[]⟩, .int .i64 0, .slice none 0 0] rfl rfl (Blk.there (n := 4) XR.out (by decide)) size24 (by simp [Value.oneCell']) ?_)
      | go_in)
    try simp only [Exit.inBlock, Exit.then]
    refine bodyPost_ret (results_cell_tmp2_blk rfl _ _ (w.heap.size + 1) [.int .i64 0, .string ⟨#[]⟩, .int .i64 0, .slice none 0 0] 24 _ rfl (XR.out.setAll [.int .i64 0, .string ⟨#[]⟩, .int .i64 0, .slice none 0 0] rfl) Tryz.underlying24 rfl size24) rfl ?_
    rw [hU2.out]
    exact ⟨_, rfl, isS_zero _, below_setRow BA.out (Nat.le_succ _) _ _⟩
  · by_cases h2 : 10000 < m
    · have hU2 := Lib.hid (hU.out.trans (if_pos (.inr (.inl h2))))
      go_enter Tryz.func22, Tryz.ntmps22
      go_wp2_with (first
        | (refine wpList_store_mid rfl 24 _ _ rfl (w.heap.size + 1) 0 #[.int .i64 0, .string ⟨#[]⟩, .int .i64 0, .slice none 0 0] rfl rfl (Blk.there (n := 4) XR.out (by decide)) size24 (by simp [Value.oneCell']) ?_)
        | go_in)
      try simp only [Exit.inBlock, Exit.then]
      refine bodyPost_ret (results_cell_tmp2_blk rfl _ _ (w.heap.size + 1) [.int .i64 0, .string ⟨#[]⟩, .int .i64 0, .slice none 0 0] 24 _ rfl (XR.out.setAll [.int .i64 0, .string ⟨#[]⟩, .int .i64 0, .slice none 0 0] rfl) Tryz.underlying24 rfl size24) rfl ?_
      rw [hU2.out]
      exact ⟨_, rfl, isS_zero _, below_setRow BA.out (Nat.le_succ _) _ _⟩
    · by_cases h3 : nx < 0
      · have hU2 := Lib.hid (hU.out.trans (if_pos (.inr (.inr h3))))
        go_enter Tryz.func22, Tryz.ntmps22
        go_wp2_with (first
          | (refine wpList_store_mid rfl 24 _ _ rfl (w.heap.size + 1) 0 #[.int .i64 0, .string ⟨#[]⟩, .int .i64 0, .slice none 0 0] rfl rfl (Blk.there (n := 4) XR.out (by decide)) size24 (by simp [Value.oneCell']) ?_)
          | go_in)
        try simp only [Exit.inBlock, Exit.then]
        refine bodyPost_ret (results_cell_tmp2_blk rfl _ _ (w.heap.size + 1) [.int .i64 0, .string ⟨#[]⟩, .int .i64 0, .slice none 0 0] 24 _ rfl (XR.out.setAll [.int .i64 0, .string ⟨#[]⟩, .int .i64 0, .slice none 0 0] rfl) Tryz.underlying24 rfl size24) rfl ?_
        rw [hU2.out]
        exact ⟨_, rfl, isS_zero _, below_setRow BA.out (Nat.le_succ _) _ _⟩
      · have hU1 := Lib.hid (hU.out.trans (if_neg (by omega)))
        by_cases h4 : m ≤ nx
        · have hU2 := Lib.hid (hU1.out.trans (if_pos h4))
          clear hU hU1
          go_enter Tryz.func22, Tryz.ntmps22
          go_wp2_with (first
            | (refine wpList_store_mid rfl 24 _ _ rfl (w.heap.size + 1) 0 #[.int .i64 0, .string ⟨#[]⟩, .int .i64 0, .slice none 0 0] rfl rfl (Blk.there (n := 4) XR.out (by decide)) size24 (by simp [Value.oneCell']) ?_)
            | go_in)
          try simp only [Exit.inBlock, Exit.then]
          refine bodyPost_ret (results_cell_tmp2_blk rfl _ _ (w.heap.size + 1) [.int .i64 0, .string ⟨#[]⟩, .int .i64 0, .slice none 0 0] 24 _ rfl (XR.out.setAll [.int .i64 0, .string ⟨#[]⟩, .int .i64 0, .slice none 0 0] rfl) Tryz.underlying24 rfl size24) rfl ?_
          rw [hU2.out]
          exact ⟨_, rfl, isS_zero _, below_setRow BA.out (Nat.le_succ _) _ _⟩
        · have hU2 := Lib.hid (hU1.out.trans (if_neg h4))
          clear hU hU1
          have f2 := fun (w1 : World) (X1 : Blk w1 w.heap.size (sC id rm nx A l.length c) 24) => X1.free 2
          go_enter Tryz.func22, Tryz.ntmps22
          go_upto_region 8 with (first
            | (go_at_call 33; (with_reducible refine HC.out.mono ?_); rintro e w2 ⟨A', c', rfl, hC⟩; have HB := Lib.hid hC.bel; have HO := Lib.hid hC.own; have X2 := Lib.hid (XS.out.at_ hC.bel XS.out.lt); have R2 := Lib.hid (XR.out.at_ hC.bel XR.out.lt); have f2 := X2.out.free 2; have f3 := X2.out.free 3; have z2 := X2.out.cell (i := 2) rfl; have z3 := X2.out.cell (i := 3) rfl; clear hC)
            | fail)
          generalize hwd : World.setCell _ _ _ = wd
          have XD := Lib.hid (show Blk wd w.heap.size (sC id rm (nx + 1) A' l.length c') 24 by rw [← hwd]; exact (X2.out.set 3 _).set 2 _)
          have RD := Lib.hid (show Blk wd (w.heap.size + 1) [.int .i64 0, .string ⟨#[]⟩, .int .i64 0, .slice none 0 0] 24 by rw [← hwd]; exact (R2.out.other _ _ (by simp)).other _ _ (by simp))
          have BD := Lib.hid (show Below w.heap.size w wd by rw [← hwd]; exact ((BA.out.trans (HB.out.mono BA.out.size)).setCell (p := ⟨w.heap.size, 3, none⟩) (Nat.le_refl _) _).setCell (p := ⟨w.heap.size, 2, none⟩) (Nat.le_refl _) _)
          have OD := Lib.hid (show wd.ownsRow (w.heap.size + 1 + 1) 36 3 (.slice A' l.length c') l.length (cl l) by
            rw [← hwd]
            have h5 := HO.out
            rw [flat_cl] at h5
            have h6 := own_mono h5 (B' := w.heap.size + 1 + 1) (by simp)
            refine own_keep h6 (fun g hg hl => ?_)
            have h7 := (h6.lt g hg).1
            rw [heap_setCell_other _ _ _ _ (by simp; omega), heap_setCell_other _ _ _ _ (by simp; omega)])
          clear hwd z2 z3 f2 f3 y2 y3
          go_wp2_with (first
            | (refine wpList_load_mid rfl 24 _ rfl w.heap.size 0 rfl (sC id rm (nx + 1) A' l.length c') _ XD.out.range Tryz.underlying24 rfl size24 ?_)
            | (refine wpList_store_mid rfl 24 _ _ rfl (w.heap.size + 1) 0 #[.int .i64 id, .string rm, .int .i64 (nx + 1), .slice A' l.length c'] rfl rfl (Blk.there (n := 4) RD.out (by decide)) size24 (by simp [Value.oneCell']) ?_)
            | go_in)
          try simp only [Exit.inBlock, Exit.then]
          refine bodyPost_ret (results_cell_tmp2_blk rfl _ _ (w.heap.size + 1) [.int .i64 id, .string rm, .int .i64 (nx + 1), .slice A' l.length c'] 24 _ rfl (RD.out.setAll [.int .i64 id, .string rm, .int .i64 (nx + 1), .slice A' l.length c'] rfl) Tryz.underlying24 rfl size24) rfl ?_
          rw [hU2.out]
          obtain ⟨A2, c2, e2, hr2, hn2⟩ := Rcs.ofOwn OD.out rfl (by omega) HL.out.fit
          simp only [Value.slice.injEq, true_and] at e2
          obtain ⟨rfl, rfl⟩ := e2
          exact ⟨_, rfl, ⟨A', c', rfl, hr2.setRow (fun b off e => by have := hn2 b off e; omega) _ _⟩, below_setRow BD.out (Nat.le_succ _) _ _⟩
end Go.Proofs.YtbkchcpfnoclhaaGreat
