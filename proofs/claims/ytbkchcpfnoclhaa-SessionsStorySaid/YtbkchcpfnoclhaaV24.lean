/- SessionsStory: its walk. -/
import Derived.Test.YtbkchcpfnoclhaaV20
import Derived.Test.YtbkchcpfnoclhaaSp
namespace Go.Proofs.Ytbkchcpfnoclhaa
open Go Go.RowKit
set_option linter.unusedVariables false
set_option linter.unusedSimpArgs false
set_option maxRecDepth 100000

theorem alloc24 (w : World) : (Instr.alloc 24 true (.tuple #[])).run Try.prog w = .ok (.pointer (some ⟨w.heap.size, 0, none⟩)) (w.alloc (.cells ([.int .i64 0, .string ⟨#[]⟩, .int .i64 0, .slice none 0 0] : List Value).toArray 24)) := by kernel_rfl
theorem size26 : (Try.prog.info? 26).map (·.size) = some 2 := by kernel_rfl
theorem step_store_ses {P : Program} {w : World} {ops : Array Oper} {o : Oper} {a : Act} {K : Act → World → Prop} {Q : Exit → Act → World → Prop} {E : Prop} (hgd : o.guard = none) (ty : TypeId) (x y : Operand) (ho : o.op = .store ty x y)
    (t : Nat) (cs : List Value) (T : TypeId) (vs : List Value) (hx : a.eval x = .pointer (some ⟨t, 0, none⟩)) (hy : a.eval y = .agg vs.toArray) (hb : Blk w t cs T) (hl : vs.length = cs.length)
    (hi : (P.info? ty).map (·.size) = some vs.length) (h1 : vs.toArray.all (·.oneCell') = true)
    (h : ∀ w', w' = w.setCells t 0 vs → K (a.put o.dst undef) w') :
    if Region.wanted o (yielded ops a.tmps) = true then Oper.wp P o a w K Q else E := by
  have hw : Region.wanted o (yielded ops a.tmps) = true := by simp [Region.wanted, hgd]
  rw [if_pos hw]
  exact wp_store_mid ty x y ho t 0 vs.toArray hx hy (hb.there (by simp [hl])) (by simpa using hi) h1 (h _ rfl)
theorem rg_tail {w : World} {b o : Nat} {x y z : Value} (h : World.rangeAt w b o [x, y, z]) : World.rangeAt w b (o + 1) [y, z] := fun i v hv => by
  have := h (i + 1) v (by simpa using hv)
  rw [show o + 1 + i = o + (i + 1) by omega]
  exact this
/-- From which message on a device reads, or -1. -/
def frL (u d : ByteArray) (l : List Rc) : Int := match l.find? (smH u d) with
  | none => -1
  | some p => p.ix
theorem rd_fr {u d : ByteArray} {l : List Rc} (h : ∀ p ∈ l, 0 ≤ p.ix) (nx i : Int) : rdB l nx u d i = (decide (0 ≤ frL u d l) && decide (frL u d l ≤ i) && decide (i < nx)) := by
  unfold rdB frL
  rcases e : l.find? (smH u d) with _ | p
  · rfl
  · have := h p (List.mem_of_find?_eq_some e)
    dsimp only
    rw [decide_eq_true this, Bool.true_and]
    by_cases hi : p.ix ≤ i
    · rw [decide_eq_true (show 0 ≤ i by omega), Bool.true_and]
    · rw [decide_eq_false hi, Bool.and_false]
/-- The device that a step names is the one asked. -/
def smS (u d u' d' : ByteArray) : Bool := decide (u = u') && decide (d = d')
theorem smS_yes {u d u' d' : ByteArray} (h : u = u') (k : d = d') : smS u d u' d' = true := by unfold smS; rw [decide_eq_true h, decide_eq_true k]; rfl
theorem smS_ne1 {u d u' d' : ByteArray} (h : ¬ u = u') : smS u d u' d' = false := by unfold smS; rw [decide_eq_false h, Bool.false_and]
theorem smS_ne2 {u d u' d' : ByteArray} (h : ¬ d = d') : smS u d u' d' = false := by unfold smS; rw [decide_eq_false h, Bool.and_false]
theorem fr_ins {u d yu zd : ByteArray} {nx : Int} {l : List Rc} {q : Rc → Bool} (hno : ∀ p ∈ l, smH u d p = false) : (smS u d yu zd = true → frL yu zd (insQ q ⟨u, d, nx⟩ l) = nx) ∧ (smS u d yu zd = false → frL yu zd (insQ q ⟨u, d, nx⟩ l) = frL yu zd l) := by
  unfold frL insQ
  rw [List.find?_append, List.find?_cons]
  refine ⟨fun h => ?_, fun h => ?_⟩
  · unfold smS at h
    simp only [Bool.and_eq_true, decide_eq_true_eq] at h
    obtain ⟨rfl, rfl⟩ := h
    have h0 : (l.take (l.findIdx q)).find? (smH u d) = none := find_none (fun p hp => hno p (List.mem_of_mem_take hp))
    have h1 : smH u d ⟨u, d, nx⟩ = true := smH_yes rfl rfl
    rw [h0, h1]
    rfl
  · have h1 : smH yu zd ⟨u, d, nx⟩ = false := h
    rw [h1]
    dsimp only
    rw [← List.find?_append, List.take_append_drop]
theorem ins_lenS (q : Rc → Bool) (x : Rc) (l : List Rc) : (insQ q x l).length = l.length + 1 := by
  unfold insQ
  rw [List.length_append, List.length_cons, List.length_take, List.length_drop]
  have := List.findIdx_le_length (p := q) (xs := l)
  omega
theorem ins_memS {q : Rc → Bool} {x p : Rc} {l : List Rc} (h : p ∈ insQ q x l) : p = x ∨ p ∈ l := by
  unfold insQ at h
  rcases List.mem_append.1 h with h | h
  · exact .inr (List.mem_of_mem_take h)
  · rcases List.mem_cons.1 h with h | h
    · exact .inl h
    · exact .inr (List.mem_of_mem_drop h)
theorem give_cases (S : Ses) (u d : ByteArray) (hl : S.l.length ≤ 1000) : (∃ er : Int, ¬ er = 0 ∧ giveS S u d = (s0, er)) ∨ (giveS S u d = (⟨S.id, S.rm, S.nx, insQ (gtH u d) ⟨u, d, S.nx⟩ S.l⟩, 0) ∧ ∀ p ∈ S.l, smH u d p = false) := by
  unfold giveS
  split
  · exact .inl ⟨3, by decide, rfl⟩
  · split
    · exact .inl ⟨4, by decide, rfl⟩
    · rename_i h2
      rw [if_neg (by omega)]
      refine .inr ⟨rfl, ?_⟩
      rcases fidx_cases (smH u d) S.l with ⟨_, h⟩ | ⟨k, _, h, _⟩
      · exact h
      · omega
theorem new_one (u : World) : Calls Try.prog 24 #[.int .i64 1, .string xR] u fun r w' => ∃ A c, r = .returned (.tuple #[.agg #[.int .i64 1, .string xR, .int .i64 0, .slice A 0 c], .int .i64 0]) ∧ Rcs w' A 0 c [] ∧ Below u.heap.size u w' := by
  have := new24 1 xR u (by decide)
  rw [show newS 1 xR = (⟨1, xR, 0, []⟩, 0) by kernel_rfl] at this
  exact this.mono (fun e w' ⟨v, hr, ⟨A', c', hv, hrc⟩, hb⟩ => ⟨A', c', by rw [hr, hv]; rfl, hrc, hb⟩)
theorem gives_give (S : Ses) (A : Option Addr) (c : Nat) (u d : ByteArray) (X : Ses × Int) (hX : giveS S u d = X) (w : World) (h : Rcs w A S.l.length c S.l) (hn : S.l.length ≤ 900000) (hu : u.size ≤ 9223372036854775807) (hd : d.size ≤ 9223372036854775807) : Calls Try.prog 25 #[.agg #[.int .i64 S.id, .string S.rm, .int .i64 S.nx, .slice A S.l.length c], .string u, .string d] w fun r w' => ∃ A' c', r = .returned (.tuple #[.agg #[.int .i64 X.1.id, .string X.1.rm, .int .i64 X.1.nx, .slice A' X.1.l.length c'], .int .i64 X.2]) ∧ Rcs w' A' X.1.l.length c' X.1.l ∧ Below w.heap.size w w' := by
  have := give25 S A c u d w h hn hu hd
  rw [hX] at this
  exact this.mono (fun e w' ⟨v, hr, ⟨A', c', hv, hrc⟩, hb⟩ => ⟨A', c', by rw [hr, hv], hrc, hb⟩)
theorem give_zero (S : Ses) (A : Option Addr) (c : Nat) (u d : ByteArray) (er : Int) (hX : giveS S u d = (s0, er)) (w : World) (h : Rcs w A S.l.length c S.l) (hn : S.l.length ≤ 900000) (hu : u.size ≤ 9223372036854775807) (hd : d.size ≤ 9223372036854775807) : Calls Try.prog 25 #[.agg #[.int .i64 S.id, .string S.rm, .int .i64 S.nx, .slice A S.l.length c], .string u, .string d] w fun r w' => ∃ A' c', r = .returned (.tuple #[.agg #[.int .i64 0, .string ⟨#[]⟩, .int .i64 0, .slice A' 0 c'], .int .i64 er]) ∧ Rcs w' A' 0 c' [] ∧ Below w.heap.size w w' := gives_give S A c u d _ hX w h hn hu hd
theorem use_ok (nx : Int) (l : List Rc) (h0 : 0 ≤ nx) (h1 : nx ≤ 30) : useS ⟨1, xR, nx, l⟩ 10000 = (⟨1, xR, nx + 1, l⟩, nx, 0) := by
  unfold useS
  rw [if_neg (by dsimp only; omega), if_neg (by dsimp only; omega)]
theorem reads13b' (id : Int) (rm : ByteArray) (nx : Int) (A : Option Addr) (c : Nat) (l : List Rc) (u d : ByteArray) (ix : Int) (q : Bool) (hq : rdB l nx u d ix = q) (w : World) (h : Rcs w A l.length c l) : Calls Try.prog 13 #[.agg #[.int .i64 id, .string rm, .int .i64 nx, .slice A l.length c], .string u, .string d, .int .i64 ix] w fun r w' => r = .returned (.bool q) ∧ Below w.heap.size w w' := by
  have := reads13 id rm nx A c l u d ix w h
  rwa [hq] at this
set_option maxHeartbeats 16000000 in
theorem story_walk (A : Option Addr) (n c : Nat) (L : List Sp.Rc) (yu zd : ByteArray) (w : World) (h : Sp.Rcs w A n c L) (hyu : yu.size ≤ 9223372036854775807) (hzd : zd.size ≤ 9223372036854775807) : Calls Try.prog 6 #[.slice A n c, .agg #[.string yu, .string zd]] w fun r w' => r = .returned (.bool true) ∧ Below w.heap.size w w' := by
  have XV := Lib.hid (blk_new w [.string yu, .string zd] 26)
  have BA := Lib.hid ((Below.refl w.heap.size w).alloc (Nat.le_refl _) (.cells #[.string yu, .string zd] 26))
  have H := Lib.hid h
  have hbig := h.rws.big
  unfold maxLen at hbig
  clear h
  have d0 := XV.out.cell (i := 0) rfl
  have d1 := XV.out.cell (i := 1) rfl
  by_cases e0 : (30 : Int) < (n : Int)
  · go_enter Try.func6, Try.ntmps6
    go_wp2
    go_ret
    exact ⟨rfl, BA.out⟩
  by_cases e1 : (200 : Int) < (yu.size : Int)
  · go_enter Try.func6, Try.ntmps6
    go_wp2
    go_ret
    exact ⟨rfl, BA.out⟩
  by_cases e2 : (200 : Int) < (zd.size : Int)
  · go_enter Try.func6, Try.ntmps6
    go_wp2
    go_ret
    exact ⟨rfl, BA.out⟩
  have hn30 : n ≤ 30 := by omega
  go_enter Try.func6, Try.ntmps6
  go_upto_region 4 with (first
    | (go_at_call 24; (with_reducible refine (new_one _).mono ?_); rintro e w1 ⟨AX, cX, rfl, hr, hb⟩; have RX := Lib.hid hr; have B1 := Lib.hid (BA.out.trans (hb.mono BA.out.size)); have V1 := Lib.hid (XV.out.below hb); clear hr hb d0 d1)
    | (refine store_as61 rfl 24 _ _ rfl [.int .i64 0, .string ⟨#[]⟩, .int .i64 0, .slice none 0 0] [.int .i64 1, .string xR, .int .i64 0, .slice AX 0 cX] rfl rfl rfl size24 (by simp [Value.oneCell']) ?_; intro w2 hx hb; have X2 := Lib.hid hx; have R2 := Lib.hid (RX.out.below hb); have B2 := Lib.hid (B1.out.trans (hb.mono B1.out.size)); have V2 := Lib.hid (V1.out.below hb); clear hx hb)
    | fail)
  have hb5 : w.heap.size < w1.heap.size := V1.out.lt
  generalize w1.heap.size = b5 at X2 hb5 ⊢
  clear RX B1 V1 XV BA
  go_wp2
  go_loopg [7, 8, 9] n (fun gg s7 s8 s9 wr => ∃ (k : Nat) (nx : Int) (l : List Rc) (A1 : Option Addr) (c1 : Nat), k ≤ n ∧ n - k ≤ gg ∧ s7 = .int .i64 nx ∧ s8 = .int .i64 (frL yu zd l) ∧ s9 = .int .i64 (k : Int) ∧ 0 ≤ nx ∧ nx ≤ (k : Int) ∧ Hid (l.length ≤ k) ∧ Hid (∀ p ∈ l, 0 ≤ p.ix) ∧ Hid (Blk wr b5 (sC 1 xR nx A1 l.length c1) 24) ∧ Hid (Rcs wr A1 l.length c1 l) ∧ Hid (Below w.heap.size w wr) ∧ Hid (Blk wr w.heap.size [.string yu, .string zd] 26))
  case atStart => exact ⟨0, 0, [], AX, cX, Nat.zero_le _, by omega, rfl, rfl, rfl, by omega, by omega, Lib.hid (Nat.le_refl _), Lib.hid (fun p hp => by cases hp), X2, R2, B2, V2⟩
  case round =>
    clear X2 R2 B2 V2
    obtain ⟨k, nx, l, A1, c1, hk, hg, rfl, rfl, rfl, hx0, hxk, HLn, HP, X, R, BX, V⟩ := hrel
    have d0 := V.out.cell (i := 0) rfl
    have d1 := V.out.cell (i := 1) rfl
    by_cases hlt : k < n
    · have hltz : (k : Int) < (n : Int) := by omega
      have hk0 : (0 : Int) ≤ (k : Int) := by omega
      obtain ⟨b, off, rfl, hb0, hr, hft⟩ := H.out.get hlt
      generalize L.getD k Sp.t0 = p at hr hft
      obtain ⟨mg, us, id⟩ := p
      have HR0 := Lib.hid (show World.rangeAt w b (off + k * 3) [.bool mg, .string us, .string id] from fun i v hv => hr i v hv)
      have q0 : wr.cell? ⟨b, off + k * 3, none⟩ = some (.bool mg) := rg_below HR0.out hb0 BX.out 0 _ rfl
      have q1 : wr.cell? ⟨b, off + k * 3 + 1, none⟩ = some (.string us) := rg_below HR0.out hb0 BX.out 1 _ rfl
      have q2 : wr.cell? ⟨b, off + k * 3 + 2, none⟩ = some (.string id) := rg_below HR0.out hb0 BX.out 2 _ rfl
      have HFt := Lib.hid hft
      clear hr hft
      generalize hfr : frL yu zd l = fr
      have HF := Lib.hid hfr
      clear hfr
      by_cases f1 : (200 : Int) < (us.size : Int)
      · go_wp2
        go_ret
        exact ⟨rfl, BX.out⟩
      by_cases f2 : (200 : Int) < (id.size : Int)
      · go_wp2
        go_ret
        exact ⟨rfl, BX.out⟩
      cases mg with
      | true =>
        have HU := Lib.hid (uses_use ⟨1, xR, nx, l⟩ A1 c1 10000 _ (use_ok nx l hx0 (by omega)) wr R.out (by have := HLn.out; dsimp only; omega) (by unfold i64B; dsimp only; omega))
        dsimp only at HU
        go_wp2_with (first
          | (refine wpList_load_mid rfl 24 _ rfl b5 0 rfl (sC 1 xR nx A1 l.length c1) _ X.out.range Try.underlying24 rfl size24 ?_)
          | (refine wpList_load_mid rfl 24 _ rfl w4.heap.size 0 rfl [.int .i64 1, .string xR, .int .i64 (nx + 1), .slice AU l.length cU] _ Y5.out.range Try.underlying24 rfl size24 ?_)
          | (go_at_call 10; (with_reducible refine HU.out.mono ?_); rintro e w4 ⟨AU, cU, rfl, hr, hb⟩; have RU := Lib.hid hr; have X4 := Lib.hid (X.out.below hb); have B4 := Lib.hid (BX.out.trans (hb.mono BX.out.size)); have V4 := Lib.hid (V.out.below hb); clear hr hb d0 d1 q0 q1 q2)
          | (refine store_as61 rfl 24 _ _ rfl [.int .i64 0, .string ⟨#[]⟩, .int .i64 0, .slice none 0 0] [.int .i64 1, .string xR, .int .i64 (nx + 1), .slice AU l.length cU] rfl rfl rfl size24 (by simp [Value.oneCell']) ?_; intro w5 hx hb; have Y5 := Lib.hid hx; have RU5 := Lib.hid (RU.out.below hb); have X5 := Lib.hid (X4.out.below hb); have B5 := Lib.hid (B4.out.trans (hb.mono B4.out.size)); have V5 := Lib.hid (V4.out.below hb); clear hx hb)
          | (refine wpList_store_mid rfl 24 _ _ rfl b5 0 [.int .i64 1, .string xR, .int .i64 (nx + 1), .slice AU l.length cU].toArray rfl rfl (Blk.there (n := 4) X5.out (Nat.le_refl 4)) size24 (by simp [Value.oneCell']) ?_; obtain ⟨w8, hw, hx, hr, hb⟩ := st_ses X5.out [.int .i64 1, .string xR, .int .i64 (nx + 1), .slice AU l.length cU] rfl RU5.out; rw [hw]; have X8 := Lib.hid hx; have R8 := Lib.hid hr; have B8 := Lib.hid (hb _ _ B5.out (by omega)); have V8 := Lib.hid (V5.out.at_ (hb _ _ (Below.refl b5 w5) (Nat.le_refl _)) (by omega)); clear hw hx hr hb)
          | fail)
        go_roundg (n - (k + 1))
        case measure => omega
        case rel => exact ⟨k + 1, nx + 1, l, AU, cU, by omega, by omega, by go_num, by rw [HF.out], by go_num, by omega, by omega, Lib.hid (by have := HLn.out; omega), HP, X8, R8, B8, V8⟩
      | false =>
        rcases give_cases ⟨1, xR, nx, l⟩ us id (by have := HLn.out; dsimp only; omega) with ⟨er, hne, hX⟩ | ⟨hX, hno⟩
        · have HGv := Lib.hid (fun y (hb : Below wr.heap.size wr y) => give_zero ⟨1, xR, nx, l⟩ A1 c1 us id er hX y (R.out.below hb) (by have := HLn.out; dsimp only; omega) HFt.out.1 HFt.out.2)
          dsimp only at HGv
          have hbq : (er == 0) = false := by simpa using hne
          clear hX
          go_upto_region 15 with (fail)
          clear d0 d1 q0 q1 q2
          refine wp_region_held_drew (S := (fun y => Below wr.heap.size wr y)) (by kernel_rfl) ((Below.refl wr.heap.size wr).drew) (fun hH0 => ?_)
          generalize hy0 : World.drew _ = y0 at hH0 ⊢
          have RB0 : Hid (Below wr.heap.size wr y0) := Lib.hid hH0
          clear hy0
          refine wpAnyH_take (i := 0) (oi := ({ dst := some 81, op := Op.load 24 (Operand.tmp 5), type := 24, pos := "law.go:101", after := #[], guard := none } : Oper)) (v := .agg #[.int .i64 1, .string xR, .int .i64 nx, .slice A1 l.length c1]) rfl (by kernel_rfl) (by kernel_rfl) (by kernel_rfl) (fun _ _ _ h => h) (yieldsIf_load_mid (by rfl) 24 _ rfl b5 0 rfl [.int .i64 1, .string xR, .int .i64 nx, .slice A1 l.length c1] _ (fun w0 hw0 => (X.out.below hw0).range) Try.underlying24 rfl size24) (by assumption) ?_
          try simp only [Act.put, List.setIfInBounds_toArray, List.set_cons_zero, List.set_cons_succ]
          refine wpAnyH_take (i := 1) (oi := ({ dst := some 82, op := Op.move (Operand.tmp 0), type := 46, pos := "law.go:101", after := #[], guard := none } : Oper)) (v := ?hv1) rfl (by kernel_rfl) (by kernel_rfl) (by kernel_rfl) (fun _ _ _ h => h) (Or.inl ⟨by rfl, ?hy1⟩) (by assumption) ?hr1
          case hy1 => (intro w hSw; (try dsimp only at hSw); go_simp; (try with_reducible rfl))
          try simp only [Act.put, List.setIfInBounds_toArray, List.set_cons_zero, List.set_cons_succ]
          refine wpAnyH_take (i := 2) (oi := ({ dst := some 83, op := Op.move (Operand.tmp 9), type := 3, pos := "law.go:101", after := #[], guard := none } : Oper)) (v := ?hv2) rfl (by kernel_rfl) (by kernel_rfl) (by kernel_rfl) (fun _ _ _ h => h) (Or.inl ⟨by rfl, ?hy2⟩) (by assumption) ?hr2
          case hy2 => (intro w hSw; (try dsimp only at hSw); go_simp; (try with_reducible rfl))
          try simp only [Act.put, List.setIfInBounds_toArray, List.set_cons_zero, List.set_cons_succ]
          refine wpAnyH_take (i := 3) (oi := ({ dst := some 84, op := Op.indexAddr 46 (Operand.tmp 82) (Operand.tmp 83), type := 0, pos := "law.go:101", after := #[{ on := 1, ground := Ground.data }, { on := 2, ground := Ground.data }], guard := none } : Oper)) (v := ?hv3) rfl (by kernel_rfl) (by kernel_rfl) (by kernel_rfl) (fun _ _ _ h => h) (Or.inl ⟨by rfl, ?hy3⟩) (by assumption) ?hr3
          case hy3 => (intro w hSw; (try dsimp only at hSw); go_simp; (try with_reducible rfl))
          try simp only [Act.put, List.setIfInBounds_toArray, List.set_cons_zero, List.set_cons_succ]
          refine wpAnyH_take (i := 4) (oi := ({ dst := some 85, op := Op.fieldAddr 50 (Operand.tmp 84) 1, type := 0, pos := "law.go:101", after := #[{ on := 3, ground := Ground.data }], guard := none } : Oper)) (v := ?hv4) rfl (by kernel_rfl) (by kernel_rfl) (by kernel_rfl) (fun _ _ _ h => h) (Or.inl ⟨by rfl, ?hy4⟩) (by assumption) ?hr4
          case hy4 => (intro w hSw; (try dsimp only at hSw); go_simp; (try with_reducible rfl))
          try simp only [Act.put, List.setIfInBounds_toArray, List.set_cons_zero, List.set_cons_succ]
          refine wpAnyH_take (i := 5) (oi := ({ dst := some 86, op := Op.fieldAddr 26 (Operand.tmp 85) 0, type := 0, pos := "law.go:101", after := #[{ on := 4, ground := Ground.data }], guard := none } : Oper)) (v := ?hv5) rfl (by kernel_rfl) (by kernel_rfl) (by kernel_rfl) (fun _ _ _ h => h) (Or.inl ⟨by rfl, ?hy5⟩) (by assumption) ?hr5
          case hy5 => (intro w hSw; (try dsimp only at hSw); go_simp; (try with_reducible rfl))
          try simp only [Act.put, List.setIfInBounds_toArray, List.set_cons_zero, List.set_cons_succ]
          refine wpAnyH_take (i := 6) (oi := ({ dst := some 87, op := Op.load 9 (Operand.tmp 86), type := 9, pos := "law.go:101", after := #[{ on := 5, ground := Ground.data }], guard := none } : Oper)) (v := .string us) rfl (by kernel_rfl) (by kernel_rfl) (by kernel_rfl) (fun _ _ _ h => h) (Or.inl ⟨by rfl, fun w0 hw0 => by have q0 := rg_below HR0.out hb0 (BX.out.trans (hw0.mono BX.out.size)) 1 _ rfl; go_simp⟩) (by assumption) ?_
          try simp only [Act.put, List.setIfInBounds_toArray, List.set_cons_zero, List.set_cons_succ]
          refine wpAnyH_take (i := 7) (oi := ({ dst := some 88, op := Op.move (Operand.tmp 0), type := 46, pos := "law.go:101", after := #[], guard := none } : Oper)) (v := ?hv6) rfl (by kernel_rfl) (by kernel_rfl) (by kernel_rfl) (fun _ _ _ h => h) (Or.inl ⟨by rfl, ?hy6⟩) (by assumption) ?hr6
          case hy6 => (intro w hSw; (try dsimp only at hSw); go_simp; (try with_reducible rfl))
          try simp only [Act.put, List.setIfInBounds_toArray, List.set_cons_zero, List.set_cons_succ]
          refine wpAnyH_take (i := 8) (oi := ({ dst := some 89, op := Op.move (Operand.tmp 9), type := 3, pos := "law.go:101", after := #[], guard := none } : Oper)) (v := ?hv7) rfl (by kernel_rfl) (by kernel_rfl) (by kernel_rfl) (fun _ _ _ h => h) (Or.inl ⟨by rfl, ?hy7⟩) (by assumption) ?hr7
          case hy7 => (intro w hSw; (try dsimp only at hSw); go_simp; (try with_reducible rfl))
          try simp only [Act.put, List.setIfInBounds_toArray, List.set_cons_zero, List.set_cons_succ]
          refine wpAnyH_take (i := 9) (oi := ({ dst := some 90, op := Op.indexAddr 46 (Operand.tmp 88) (Operand.tmp 89), type := 0, pos := "law.go:101", after := #[{ on := 7, ground := Ground.data }, { on := 8, ground := Ground.data }], guard := none } : Oper)) (v := ?hv8) rfl (by kernel_rfl) (by kernel_rfl) (by kernel_rfl) (fun _ _ _ h => h) (Or.inl ⟨by rfl, ?hy8⟩) (by assumption) ?hr8
          case hy8 => (intro w hSw; (try dsimp only at hSw); go_simp; (try with_reducible rfl))
          try simp only [Act.put, List.setIfInBounds_toArray, List.set_cons_zero, List.set_cons_succ]
          refine wpAnyH_take (i := 10) (oi := ({ dst := some 91, op := Op.fieldAddr 50 (Operand.tmp 90) 1, type := 0, pos := "law.go:101", after := #[{ on := 9, ground := Ground.data }], guard := none } : Oper)) (v := ?hv9) rfl (by kernel_rfl) (by kernel_rfl) (by kernel_rfl) (fun _ _ _ h => h) (Or.inl ⟨by rfl, ?hy9⟩) (by assumption) ?hr9
          case hy9 => (intro w hSw; (try dsimp only at hSw); go_simp; (try with_reducible rfl))
          try simp only [Act.put, List.setIfInBounds_toArray, List.set_cons_zero, List.set_cons_succ]
          refine wpAnyH_take (i := 11) (oi := ({ dst := some 92, op := Op.fieldAddr 26 (Operand.tmp 91) 1, type := 0, pos := "law.go:101", after := #[{ on := 10, ground := Ground.data }], guard := none } : Oper)) (v := ?hv10) rfl (by kernel_rfl) (by kernel_rfl) (by kernel_rfl) (fun _ _ _ h => h) (Or.inl ⟨by rfl, ?hy10⟩) (by assumption) ?hr10
          case hy10 => (intro w hSw; (try dsimp only at hSw); go_simp; (try with_reducible rfl))
          try simp only [Act.put, List.setIfInBounds_toArray, List.set_cons_zero, List.set_cons_succ]
          refine wpAnyH_take (i := 12) (oi := ({ dst := some 93, op := Op.load 9 (Operand.tmp 92), type := 9, pos := "law.go:101", after := #[{ on := 11, ground := Ground.data }], guard := none } : Oper)) (v := .string id) rfl (by kernel_rfl) (by kernel_rfl) (by kernel_rfl) (fun _ _ _ h => h) (Or.inl ⟨by rfl, fun w0 hw0 => by have q0 := rg_below HR0.out hb0 (BX.out.trans (hw0.mono BX.out.size)) 2 _ rfl; go_simp⟩) (by assumption) ?_
          try simp only [Act.put, List.setIfInBounds_toArray, List.set_cons_zero, List.set_cons_succ]
          refine wpAnyH_ready (rs := [13, 17]) (by kernel_rfl) (by simp) ?_
          refine AllReadyH.cons (o := ({ dst := some 94, op := Op.call { callee := Callee.value (Operand.func 25), args := #[Operand.tmp 81, Operand.tmp 87, Operand.tmp 93], argTypes := #[24, 9, 9] }, type := 47, pos := "law.go:101", after := #[{ on := 0, ground := Ground.data }, { on := 6, ground := Ground.data }, { on := 12, ground := Ground.data }], guard := none } : Oper)) rfl (fun KK hKK => ?_) ?_
          · go_simp
            (with_reducible refine (HGv.out _ RB0.out).mono ?_)
            rintro e1 y1 ⟨AG, cG, rfl, hr, hb⟩
            have RB1 := Lib.hid (RB0.out.trans (hb.mono RB0.out.size)); have RG1 := Lib.hid hr
            clear hr hb
            refine hKK.out _ _ (RB1.out) (fun hH1 => ?_)
            clear hKK KK
            try simp only [Act.put, List.setIfInBounds_toArray, List.set_cons_zero, List.set_cons_succ]
            refine wpAnyH_take (i := 14) (oi := ({ dst := some 80, op := Op.move (Operand.tmp 94), type := 47, pos := "law.go:101", after := #[{ on := 13, ground := Ground.data }], guard := none } : Oper)) (v := ?hv11) rfl (by kernel_rfl) (by kernel_rfl) (by kernel_rfl) (fun _ _ _ h => h) (Or.inl ⟨by rfl, ?hy11⟩) (by assumption) ?hr11
            case hy11 => (intro w hSw; (try dsimp only at hSw); go_simp; (try with_reducible rfl))
            try simp only [Act.put, List.setIfInBounds_toArray, List.set_cons_zero, List.set_cons_succ]
            refine wpAnyH_take (i := 15) (oi := ({ dst := some 95, op := Op.extract (Operand.tmp 80) 0, type := 24, pos := "law.go:101", after := #[{ on := 14, ground := Ground.data }], guard := none } : Oper)) (v := ?hv12) rfl (by kernel_rfl) (by kernel_rfl) (by kernel_rfl) (fun _ _ _ h => h) (Or.inl ⟨by rfl, ?hy12⟩) (by assumption) ?hr12
            case hy12 => (intro w hSw; (try dsimp only at hSw); go_simp; (try with_reducible rfl))
            try simp only [Act.put, List.setIfInBounds_toArray, List.set_cons_zero, List.set_cons_succ]
            refine wpAnyH_take (i := 16) (oi := ({ dst := some 96, op := Op.extract (Operand.tmp 80) 1, type := 28, pos := "law.go:101", after := #[{ on := 14, ground := Ground.data }, { on := 18, ground := Ground.gcOnly Departure.lateStores }], guard := none } : Oper)) (v := ?hv13) rfl (by kernel_rfl) (by kernel_rfl) (by kernel_rfl) (fun _ _ _ h => h) (Or.inl ⟨by rfl, ?hy13⟩) (by assumption) ?hr13
            case hy13 => (intro w hSw; (try dsimp only at hSw); go_simp; (try with_reducible rfl))
            try simp only [Act.put, List.setIfInBounds_toArray, List.set_cons_zero, List.set_cons_succ]
            refine wpAnyH_ready (rs := [17]) (by kernel_rfl) (by simp) ?_
            refine AllReadyH.cons (o := ({ dst := some 13, op := Op.alloc 24, type := 0, pos := "law.go:101", after := #[], guard := none } : Oper)) rfl (fun KK hKK => ?_) AllReadyH.nil
            refine step_alloc_new rfl 24 rfl [.int .i64 0, .string ⟨#[]⟩, .int .i64 0, .slice none 0 0] alloc24 ?_
            intro t y2 hx hb ht
            have XB2 := Lib.hid hx; have RB2 := Lib.hid (RB1.out.trans (hb.mono RB1.out.size)); have HT := Lib.hid (show wr.heap.size ≤ t from Nat.le_trans RB1.out.size ht); have RG2 := Lib.hid (RG1.out.below hb)
            clear hx hb ht
            refine hKK.out _ _ (RB2.out) (fun hH2 => ?_)
            clear hKK KK
            try simp only [Act.put, List.setIfInBounds_toArray, List.set_cons_zero, List.set_cons_succ]
            refine wpAnyH_ready (rs := [18]) (by kernel_rfl) (by simp) ?_
            refine AllReadyH.cons (o := ({ dst := none, op := Op.store 24 (Operand.tmp 13) (Operand.tmp 95), type := 0, pos := "law.go:101", after := #[{ on := 17, ground := Ground.data }, { on := 15, ground := Ground.data }, { on := 13, ground := Ground.chain }, { on := 0, ground := Ground.phase }, { on := 1, ground := Ground.phase }, { on := 2, ground := Ground.phase }, { on := 3, ground := Ground.phase }, { on := 4, ground := Ground.phase }, { on := 5, ground := Ground.phase }, { on := 6, ground := Ground.phase }, { on := 7, ground := Ground.phase }, { on := 8, ground := Ground.phase }, { on := 9, ground := Ground.phase }, { on := 10, ground := Ground.phase }, { on := 11, ground := Ground.phase }, { on := 12, ground := Ground.phase }, { on := 13, ground := Ground.phase }, { on := 14, ground := Ground.phase }, { on := 15, ground := Ground.phase }, { on := 16, ground := Ground.textOnly Departure.lateStores }, { on := 17, ground := Ground.phase }], guard := none } : Oper)) rfl (fun KK hKK => ?_) AllReadyH.nil
            refine step_store_ses rfl 24 _ _ rfl t [.int .i64 0, .string ⟨#[]⟩, .int .i64 0, .slice none 0 0] 24 [.int .i64 0, .string ⟨#[]⟩, .int .i64 0, .slice AG 0 cG] rfl rfl XB2.out rfl size24 (by simp [Value.oneCell']) ?_
            intro y3 he
            have XB3 := Lib.hid (show Blk y3 t [.int .i64 0, .string ⟨#[]⟩, .int .i64 0, .slice AG 0 cG] 24 by rw [he]; exact XB2.out.setAll _ rfl); have RB3 := Lib.hid (show Below wr.heap.size wr y3 by rw [he]; exact below_setAll HT.out _ _ _ RB2.out); have RG3 := Lib.hid (show Rcs y3 AG 0 cG [] by rw [he]; exact RG2.out.off_ses XB2.out _)
            clear he
            refine hKK.out _ _ (RB3.out) (fun hH3 => ?_)
            clear hKK KK
            try simp only [Act.put, List.setIfInBounds_toArray, List.set_cons_zero, List.set_cons_succ]
            refine wpAnyH_take (i := 19) (oi := ({ dst := some 14, op := Op.assign (Operand.tmp 96), type := 28, pos := "law.go:101", after := #[{ on := 16, ground := Ground.data }, { on := 18, ground := Ground.chain }, { on := 0, ground := Ground.phase }, { on := 1, ground := Ground.phase }, { on := 2, ground := Ground.phase }, { on := 3, ground := Ground.phase }, { on := 4, ground := Ground.phase }, { on := 5, ground := Ground.phase }, { on := 6, ground := Ground.phase }, { on := 7, ground := Ground.phase }, { on := 8, ground := Ground.phase }, { on := 9, ground := Ground.phase }, { on := 10, ground := Ground.phase }, { on := 11, ground := Ground.phase }, { on := 12, ground := Ground.phase }, { on := 13, ground := Ground.phase }, { on := 14, ground := Ground.phase }, { on := 15, ground := Ground.phase }, { on := 16, ground := Ground.phase }, { on := 17, ground := Ground.phase }, { on := 18, ground := Ground.phase }], guard := none } : Oper)) (v := ?hv14) rfl (by kernel_rfl) (by kernel_rfl) (by kernel_rfl) (fun _ _ _ h => h) (Or.inl ⟨by rfl, ?hy14⟩) (by assumption) ?hr14
            case hy14 => (intro w hSw; (try dsimp only at hSw); go_simp; (try with_reducible rfl))
            try simp only [Act.put, List.setIfInBounds_toArray, List.set_cons_zero, List.set_cons_succ]
            refine wpAnyH_done (by kernel_rfl) ?_ _
            have X5 := Lib.hid (X.out.below RB3.out)
            have B5 := Lib.hid (BX.out.trans (RB3.out.mono BX.out.size))
            have V5 := Lib.hid (V.out.below RB3.out)
            have R5 := Lib.hid (R.out.below RB3.out)
            go_wp2
            go_roundg (n - (k + 1))
            case measure => omega
            case rel => exact ⟨k + 1, nx, l, A1, c1, by omega, by omega, rfl, by rw [HF.out], by go_num, by omega, by omega, Lib.hid (by have := HLn.out; omega), HP, X5, R5, B5, V5⟩
          refine AllReadyH.cons (o := ({ dst := some 13, op := Op.alloc 24, type := 0, pos := "law.go:101", after := #[], guard := none } : Oper)) rfl (fun KK hKK => ?_) AllReadyH.nil
          refine step_alloc_new rfl 24 rfl [.int .i64 0, .string ⟨#[]⟩, .int .i64 0, .slice none 0 0] alloc24 ?_
          intro t y1 hx hb ht
          have XB1 := Lib.hid hx; have RB1 := Lib.hid (RB0.out.trans (hb.mono RB0.out.size)); have HT := Lib.hid (show wr.heap.size ≤ t from Nat.le_trans RB0.out.size ht); skip
          clear hx hb ht
          refine hKK.out _ _ (RB1.out) (fun hH1 => ?_)
          clear hKK KK
          try simp only [Act.put, List.setIfInBounds_toArray, List.set_cons_zero, List.set_cons_succ]
          refine wpAnyH_ready (rs := [13]) (by kernel_rfl) (by simp) ?_
          refine AllReadyH.cons (o := ({ dst := some 94, op := Op.call { callee := Callee.value (Operand.func 25), args := #[Operand.tmp 81, Operand.tmp 87, Operand.tmp 93], argTypes := #[24, 9, 9] }, type := 47, pos := "law.go:101", after := #[{ on := 0, ground := Ground.data }, { on := 6, ground := Ground.data }, { on := 12, ground := Ground.data }], guard := none } : Oper)) rfl (fun KK hKK => ?_) AllReadyH.nil
          go_simp
          (with_reducible refine (HGv.out _ RB1.out).mono ?_)
          rintro e2 y2 ⟨AG, cG, rfl, hr, hb⟩
          have RB2 := Lib.hid (RB1.out.trans (hb.mono RB1.out.size)); have RG2 := Lib.hid hr; have XB2 := Lib.hid (XB1.out.below hb)
          clear hr hb
          refine hKK.out _ _ (RB2.out) (fun hH2 => ?_)
          clear hKK KK
          try simp only [Act.put, List.setIfInBounds_toArray, List.set_cons_zero, List.set_cons_succ]
          refine wpAnyH_take (i := 14) (oi := ({ dst := some 80, op := Op.move (Operand.tmp 94), type := 47, pos := "law.go:101", after := #[{ on := 13, ground := Ground.data }], guard := none } : Oper)) (v := ?hv15) rfl (by kernel_rfl) (by kernel_rfl) (by kernel_rfl) (fun _ _ _ h => h) (Or.inl ⟨by rfl, ?hy15⟩) (by assumption) ?hr15
          case hy15 => (intro w hSw; (try dsimp only at hSw); go_simp; (try with_reducible rfl))
          try simp only [Act.put, List.setIfInBounds_toArray, List.set_cons_zero, List.set_cons_succ]
          refine wpAnyH_take (i := 15) (oi := ({ dst := some 95, op := Op.extract (Operand.tmp 80) 0, type := 24, pos := "law.go:101", after := #[{ on := 14, ground := Ground.data }], guard := none } : Oper)) (v := ?hv16) rfl (by kernel_rfl) (by kernel_rfl) (by kernel_rfl) (fun _ _ _ h => h) (Or.inl ⟨by rfl, ?hy16⟩) (by assumption) ?hr16
          case hy16 => (intro w hSw; (try dsimp only at hSw); go_simp; (try with_reducible rfl))
          try simp only [Act.put, List.setIfInBounds_toArray, List.set_cons_zero, List.set_cons_succ]
          refine wpAnyH_take (i := 16) (oi := ({ dst := some 96, op := Op.extract (Operand.tmp 80) 1, type := 28, pos := "law.go:101", after := #[{ on := 14, ground := Ground.data }, { on := 18, ground := Ground.gcOnly Departure.lateStores }], guard := none } : Oper)) (v := ?hv17) rfl (by kernel_rfl) (by kernel_rfl) (by kernel_rfl) (fun _ _ _ h => h) (Or.inl ⟨by rfl, ?hy17⟩) (by assumption) ?hr17
          case hy17 => (intro w hSw; (try dsimp only at hSw); go_simp; (try with_reducible rfl))
          try simp only [Act.put, List.setIfInBounds_toArray, List.set_cons_zero, List.set_cons_succ]
          refine wpAnyH_ready (rs := [18]) (by kernel_rfl) (by simp) ?_
          refine AllReadyH.cons (o := ({ dst := none, op := Op.store 24 (Operand.tmp 13) (Operand.tmp 95), type := 0, pos := "law.go:101", after := #[{ on := 17, ground := Ground.data }, { on := 15, ground := Ground.data }, { on := 13, ground := Ground.chain }, { on := 0, ground := Ground.phase }, { on := 1, ground := Ground.phase }, { on := 2, ground := Ground.phase }, { on := 3, ground := Ground.phase }, { on := 4, ground := Ground.phase }, { on := 5, ground := Ground.phase }, { on := 6, ground := Ground.phase }, { on := 7, ground := Ground.phase }, { on := 8, ground := Ground.phase }, { on := 9, ground := Ground.phase }, { on := 10, ground := Ground.phase }, { on := 11, ground := Ground.phase }, { on := 12, ground := Ground.phase }, { on := 13, ground := Ground.phase }, { on := 14, ground := Ground.phase }, { on := 15, ground := Ground.phase }, { on := 16, ground := Ground.textOnly Departure.lateStores }, { on := 17, ground := Ground.phase }], guard := none } : Oper)) rfl (fun KK hKK => ?_) AllReadyH.nil
          refine step_store_ses rfl 24 _ _ rfl t [.int .i64 0, .string ⟨#[]⟩, .int .i64 0, .slice none 0 0] 24 [.int .i64 0, .string ⟨#[]⟩, .int .i64 0, .slice AG 0 cG] rfl rfl XB2.out rfl size24 (by simp [Value.oneCell']) ?_
          intro y3 he
          have XB3 := Lib.hid (show Blk y3 t [.int .i64 0, .string ⟨#[]⟩, .int .i64 0, .slice AG 0 cG] 24 by rw [he]; exact XB2.out.setAll _ rfl); have RB3 := Lib.hid (show Below wr.heap.size wr y3 by rw [he]; exact below_setAll HT.out _ _ _ RB2.out); have RG3 := Lib.hid (show Rcs y3 AG 0 cG [] by rw [he]; exact RG2.out.off_ses XB2.out _)
          clear he
          refine hKK.out _ _ (RB3.out) (fun hH3 => ?_)
          clear hKK KK
          try simp only [Act.put, List.setIfInBounds_toArray, List.set_cons_zero, List.set_cons_succ]
          refine wpAnyH_take (i := 19) (oi := ({ dst := some 14, op := Op.assign (Operand.tmp 96), type := 28, pos := "law.go:101", after := #[{ on := 16, ground := Ground.data }, { on := 18, ground := Ground.chain }, { on := 0, ground := Ground.phase }, { on := 1, ground := Ground.phase }, { on := 2, ground := Ground.phase }, { on := 3, ground := Ground.phase }, { on := 4, ground := Ground.phase }, { on := 5, ground := Ground.phase }, { on := 6, ground := Ground.phase }, { on := 7, ground := Ground.phase }, { on := 8, ground := Ground.phase }, { on := 9, ground := Ground.phase }, { on := 10, ground := Ground.phase }, { on := 11, ground := Ground.phase }, { on := 12, ground := Ground.phase }, { on := 13, ground := Ground.phase }, { on := 14, ground := Ground.phase }, { on := 15, ground := Ground.phase }, { on := 16, ground := Ground.phase }, { on := 17, ground := Ground.phase }, { on := 18, ground := Ground.phase }], guard := none } : Oper)) (v := ?hv18) rfl (by kernel_rfl) (by kernel_rfl) (by kernel_rfl) (fun _ _ _ h => h) (Or.inl ⟨by rfl, ?hy18⟩) (by assumption) ?hr18
          case hy18 => (intro w hSw; (try dsimp only at hSw); go_simp; (try with_reducible rfl))
          try simp only [Act.put, List.setIfInBounds_toArray, List.set_cons_zero, List.set_cons_succ]
          refine wpAnyH_done (by kernel_rfl) ?_ _
          have X5 := Lib.hid (X.out.below RB3.out)
          have B5 := Lib.hid (BX.out.trans (RB3.out.mono BX.out.size))
          have V5 := Lib.hid (V.out.below RB3.out)
          have R5 := Lib.hid (R.out.below RB3.out)
          go_wp2
          go_roundg (n - (k + 1))
          case measure => omega
          case rel => exact ⟨k + 1, nx, l, A1, c1, by omega, by omega, rfl, by rw [HF.out], by go_num, by omega, by omega, Lib.hid (by have := HLn.out; omega), HP, X5, R5, B5, V5⟩
        · have HGv := Lib.hid (fun y (hb : Below wr.heap.size wr y) => gives_give ⟨1, xR, nx, l⟩ A1 c1 us id _ hX y (R.out.below hb) (by have := HLn.out; dsimp only; omega) HFt.out.1 HFt.out.2)
          dsimp only at HGv hno
          have HFr := Lib.hid (fr_ins (yu := yu) (zd := zd) (nx := nx) (q := gtH us id) hno)
          have HL2 := Lib.hid (ins_lenS (gtH us id) ⟨us, id, nx⟩ l)
          have HP2 : Hid (∀ p ∈ insQ (gtH us id) ⟨us, id, nx⟩ l, 0 ≤ p.ix) := Lib.hid (fun p hp => (ins_memS hp).elim (fun e => by rw [e]; exact hx0) (HP.out p))
          clear hX hno
          generalize insQ (gtH us id) ⟨us, id, nx⟩ l = l2 at HGv HFr HL2 HP2
          go_upto_region 15 with (fail)
          clear d0 d1 q0 q1 q2
          refine wp_region_held_drew (S := (fun y => Below wr.heap.size wr y)) (by kernel_rfl) ((Below.refl wr.heap.size wr).drew) (fun hH0 => ?_)
          generalize hy0 : World.drew _ = y0 at hH0 ⊢
          have RB0 : Hid (Below wr.heap.size wr y0) := Lib.hid hH0
          clear hy0
          refine wpAnyH_take (i := 0) (oi := ({ dst := some 81, op := Op.load 24 (Operand.tmp 5), type := 24, pos := "law.go:101", after := #[], guard := none } : Oper)) (v := .agg #[.int .i64 1, .string xR, .int .i64 nx, .slice A1 l.length c1]) rfl (by kernel_rfl) (by kernel_rfl) (by kernel_rfl) (fun _ _ _ h => h) (yieldsIf_load_mid (by rfl) 24 _ rfl b5 0 rfl [.int .i64 1, .string xR, .int .i64 nx, .slice A1 l.length c1] _ (fun w0 hw0 => (X.out.below hw0).range) Try.underlying24 rfl size24) (by assumption) ?_
          try simp only [Act.put, List.setIfInBounds_toArray, List.set_cons_zero, List.set_cons_succ]
          refine wpAnyH_take (i := 1) (oi := ({ dst := some 82, op := Op.move (Operand.tmp 0), type := 46, pos := "law.go:101", after := #[], guard := none } : Oper)) (v := ?hv19) rfl (by kernel_rfl) (by kernel_rfl) (by kernel_rfl) (fun _ _ _ h => h) (Or.inl ⟨by rfl, ?hy19⟩) (by assumption) ?hr19
          case hy19 => (intro w hSw; (try dsimp only at hSw); go_simp; (try with_reducible rfl))
          try simp only [Act.put, List.setIfInBounds_toArray, List.set_cons_zero, List.set_cons_succ]
          refine wpAnyH_take (i := 2) (oi := ({ dst := some 83, op := Op.move (Operand.tmp 9), type := 3, pos := "law.go:101", after := #[], guard := none } : Oper)) (v := ?hv20) rfl (by kernel_rfl) (by kernel_rfl) (by kernel_rfl) (fun _ _ _ h => h) (Or.inl ⟨by rfl, ?hy20⟩) (by assumption) ?hr20
          case hy20 => (intro w hSw; (try dsimp only at hSw); go_simp; (try with_reducible rfl))
          try simp only [Act.put, List.setIfInBounds_toArray, List.set_cons_zero, List.set_cons_succ]
          refine wpAnyH_take (i := 3) (oi := ({ dst := some 84, op := Op.indexAddr 46 (Operand.tmp 82) (Operand.tmp 83), type := 0, pos := "law.go:101", after := #[{ on := 1, ground := Ground.data }, { on := 2, ground := Ground.data }], guard := none } : Oper)) (v := ?hv21) rfl (by kernel_rfl) (by kernel_rfl) (by kernel_rfl) (fun _ _ _ h => h) (Or.inl ⟨by rfl, ?hy21⟩) (by assumption) ?hr21
          case hy21 => (intro w hSw; (try dsimp only at hSw); go_simp; (try with_reducible rfl))
          try simp only [Act.put, List.setIfInBounds_toArray, List.set_cons_zero, List.set_cons_succ]
          refine wpAnyH_take (i := 4) (oi := ({ dst := some 85, op := Op.fieldAddr 50 (Operand.tmp 84) 1, type := 0, pos := "law.go:101", after := #[{ on := 3, ground := Ground.data }], guard := none } : Oper)) (v := ?hv22) rfl (by kernel_rfl) (by kernel_rfl) (by kernel_rfl) (fun _ _ _ h => h) (Or.inl ⟨by rfl, ?hy22⟩) (by assumption) ?hr22
          case hy22 => (intro w hSw; (try dsimp only at hSw); go_simp; (try with_reducible rfl))
          try simp only [Act.put, List.setIfInBounds_toArray, List.set_cons_zero, List.set_cons_succ]
          refine wpAnyH_take (i := 5) (oi := ({ dst := some 86, op := Op.fieldAddr 26 (Operand.tmp 85) 0, type := 0, pos := "law.go:101", after := #[{ on := 4, ground := Ground.data }], guard := none } : Oper)) (v := ?hv23) rfl (by kernel_rfl) (by kernel_rfl) (by kernel_rfl) (fun _ _ _ h => h) (Or.inl ⟨by rfl, ?hy23⟩) (by assumption) ?hr23
          case hy23 => (intro w hSw; (try dsimp only at hSw); go_simp; (try with_reducible rfl))
          try simp only [Act.put, List.setIfInBounds_toArray, List.set_cons_zero, List.set_cons_succ]
          refine wpAnyH_take (i := 6) (oi := ({ dst := some 87, op := Op.load 9 (Operand.tmp 86), type := 9, pos := "law.go:101", after := #[{ on := 5, ground := Ground.data }], guard := none } : Oper)) (v := .string us) rfl (by kernel_rfl) (by kernel_rfl) (by kernel_rfl) (fun _ _ _ h => h) (Or.inl ⟨by rfl, fun w0 hw0 => by have q0 := rg_below HR0.out hb0 (BX.out.trans (hw0.mono BX.out.size)) 1 _ rfl; go_simp⟩) (by assumption) ?_
          try simp only [Act.put, List.setIfInBounds_toArray, List.set_cons_zero, List.set_cons_succ]
          refine wpAnyH_take (i := 7) (oi := ({ dst := some 88, op := Op.move (Operand.tmp 0), type := 46, pos := "law.go:101", after := #[], guard := none } : Oper)) (v := ?hv24) rfl (by kernel_rfl) (by kernel_rfl) (by kernel_rfl) (fun _ _ _ h => h) (Or.inl ⟨by rfl, ?hy24⟩) (by assumption) ?hr24
          case hy24 => (intro w hSw; (try dsimp only at hSw); go_simp; (try with_reducible rfl))
          try simp only [Act.put, List.setIfInBounds_toArray, List.set_cons_zero, List.set_cons_succ]
          refine wpAnyH_take (i := 8) (oi := ({ dst := some 89, op := Op.move (Operand.tmp 9), type := 3, pos := "law.go:101", after := #[], guard := none } : Oper)) (v := ?hv25) rfl (by kernel_rfl) (by kernel_rfl) (by kernel_rfl) (fun _ _ _ h => h) (Or.inl ⟨by rfl, ?hy25⟩) (by assumption) ?hr25
          case hy25 => (intro w hSw; (try dsimp only at hSw); go_simp; (try with_reducible rfl))
          try simp only [Act.put, List.setIfInBounds_toArray, List.set_cons_zero, List.set_cons_succ]
          refine wpAnyH_take (i := 9) (oi := ({ dst := some 90, op := Op.indexAddr 46 (Operand.tmp 88) (Operand.tmp 89), type := 0, pos := "law.go:101", after := #[{ on := 7, ground := Ground.data }, { on := 8, ground := Ground.data }], guard := none } : Oper)) (v := ?hv26) rfl (by kernel_rfl) (by kernel_rfl) (by kernel_rfl) (fun _ _ _ h => h) (Or.inl ⟨by rfl, ?hy26⟩) (by assumption) ?hr26
          case hy26 => (intro w hSw; (try dsimp only at hSw); go_simp; (try with_reducible rfl))
          try simp only [Act.put, List.setIfInBounds_toArray, List.set_cons_zero, List.set_cons_succ]
          refine wpAnyH_take (i := 10) (oi := ({ dst := some 91, op := Op.fieldAddr 50 (Operand.tmp 90) 1, type := 0, pos := "law.go:101", after := #[{ on := 9, ground := Ground.data }], guard := none } : Oper)) (v := ?hv27) rfl (by kernel_rfl) (by kernel_rfl) (by kernel_rfl) (fun _ _ _ h => h) (Or.inl ⟨by rfl, ?hy27⟩) (by assumption) ?hr27
          case hy27 => (intro w hSw; (try dsimp only at hSw); go_simp; (try with_reducible rfl))
          try simp only [Act.put, List.setIfInBounds_toArray, List.set_cons_zero, List.set_cons_succ]
          refine wpAnyH_take (i := 11) (oi := ({ dst := some 92, op := Op.fieldAddr 26 (Operand.tmp 91) 1, type := 0, pos := "law.go:101", after := #[{ on := 10, ground := Ground.data }], guard := none } : Oper)) (v := ?hv28) rfl (by kernel_rfl) (by kernel_rfl) (by kernel_rfl) (fun _ _ _ h => h) (Or.inl ⟨by rfl, ?hy28⟩) (by assumption) ?hr28
          case hy28 => (intro w hSw; (try dsimp only at hSw); go_simp; (try with_reducible rfl))
          try simp only [Act.put, List.setIfInBounds_toArray, List.set_cons_zero, List.set_cons_succ]
          refine wpAnyH_take (i := 12) (oi := ({ dst := some 93, op := Op.load 9 (Operand.tmp 92), type := 9, pos := "law.go:101", after := #[{ on := 11, ground := Ground.data }], guard := none } : Oper)) (v := .string id) rfl (by kernel_rfl) (by kernel_rfl) (by kernel_rfl) (fun _ _ _ h => h) (Or.inl ⟨by rfl, fun w0 hw0 => by have q0 := rg_below HR0.out hb0 (BX.out.trans (hw0.mono BX.out.size)) 2 _ rfl; go_simp⟩) (by assumption) ?_
          try simp only [Act.put, List.setIfInBounds_toArray, List.set_cons_zero, List.set_cons_succ]
          refine wpAnyH_ready (rs := [13, 17]) (by kernel_rfl) (by simp) ?_
          refine AllReadyH.cons (o := ({ dst := some 94, op := Op.call { callee := Callee.value (Operand.func 25), args := #[Operand.tmp 81, Operand.tmp 87, Operand.tmp 93], argTypes := #[24, 9, 9] }, type := 47, pos := "law.go:101", after := #[{ on := 0, ground := Ground.data }, { on := 6, ground := Ground.data }, { on := 12, ground := Ground.data }], guard := none } : Oper)) rfl (fun KK hKK => ?_) ?_
          · go_simp
            (with_reducible refine (HGv.out _ RB0.out).mono ?_)
            rintro e1 y1 ⟨AG, cG, rfl, hr, hb⟩
            have RB1 := Lib.hid (RB0.out.trans (hb.mono RB0.out.size)); have RG1 := Lib.hid hr
            clear hr hb
            refine hKK.out _ _ (RB1.out) (fun hH1 => ?_)
            clear hKK KK
            try simp only [Act.put, List.setIfInBounds_toArray, List.set_cons_zero, List.set_cons_succ]
            refine wpAnyH_take (i := 14) (oi := ({ dst := some 80, op := Op.move (Operand.tmp 94), type := 47, pos := "law.go:101", after := #[{ on := 13, ground := Ground.data }], guard := none } : Oper)) (v := ?hv29) rfl (by kernel_rfl) (by kernel_rfl) (by kernel_rfl) (fun _ _ _ h => h) (Or.inl ⟨by rfl, ?hy29⟩) (by assumption) ?hr29
            case hy29 => (intro w hSw; (try dsimp only at hSw); go_simp; (try with_reducible rfl))
            try simp only [Act.put, List.setIfInBounds_toArray, List.set_cons_zero, List.set_cons_succ]
            refine wpAnyH_take (i := 15) (oi := ({ dst := some 95, op := Op.extract (Operand.tmp 80) 0, type := 24, pos := "law.go:101", after := #[{ on := 14, ground := Ground.data }], guard := none } : Oper)) (v := ?hv30) rfl (by kernel_rfl) (by kernel_rfl) (by kernel_rfl) (fun _ _ _ h => h) (Or.inl ⟨by rfl, ?hy30⟩) (by assumption) ?hr30
            case hy30 => (intro w hSw; (try dsimp only at hSw); go_simp; (try with_reducible rfl))
            try simp only [Act.put, List.setIfInBounds_toArray, List.set_cons_zero, List.set_cons_succ]
            refine wpAnyH_take (i := 16) (oi := ({ dst := some 96, op := Op.extract (Operand.tmp 80) 1, type := 28, pos := "law.go:101", after := #[{ on := 14, ground := Ground.data }, { on := 18, ground := Ground.gcOnly Departure.lateStores }], guard := none } : Oper)) (v := ?hv31) rfl (by kernel_rfl) (by kernel_rfl) (by kernel_rfl) (fun _ _ _ h => h) (Or.inl ⟨by rfl, ?hy31⟩) (by assumption) ?hr31
            case hy31 => (intro w hSw; (try dsimp only at hSw); go_simp; (try with_reducible rfl))
            try simp only [Act.put, List.setIfInBounds_toArray, List.set_cons_zero, List.set_cons_succ]
            refine wpAnyH_ready (rs := [17]) (by kernel_rfl) (by simp) ?_
            refine AllReadyH.cons (o := ({ dst := some 13, op := Op.alloc 24, type := 0, pos := "law.go:101", after := #[], guard := none } : Oper)) rfl (fun KK hKK => ?_) AllReadyH.nil
            refine step_alloc_new rfl 24 rfl [.int .i64 0, .string ⟨#[]⟩, .int .i64 0, .slice none 0 0] alloc24 ?_
            intro t y2 hx hb ht
            have XB2 := Lib.hid hx; have RB2 := Lib.hid (RB1.out.trans (hb.mono RB1.out.size)); have HT := Lib.hid (show wr.heap.size ≤ t from Nat.le_trans RB1.out.size ht); have RG2 := Lib.hid (RG1.out.below hb)
            clear hx hb ht
            refine hKK.out _ _ (RB2.out) (fun hH2 => ?_)
            clear hKK KK
            try simp only [Act.put, List.setIfInBounds_toArray, List.set_cons_zero, List.set_cons_succ]
            refine wpAnyH_ready (rs := [18]) (by kernel_rfl) (by simp) ?_
            refine AllReadyH.cons (o := ({ dst := none, op := Op.store 24 (Operand.tmp 13) (Operand.tmp 95), type := 0, pos := "law.go:101", after := #[{ on := 17, ground := Ground.data }, { on := 15, ground := Ground.data }, { on := 13, ground := Ground.chain }, { on := 0, ground := Ground.phase }, { on := 1, ground := Ground.phase }, { on := 2, ground := Ground.phase }, { on := 3, ground := Ground.phase }, { on := 4, ground := Ground.phase }, { on := 5, ground := Ground.phase }, { on := 6, ground := Ground.phase }, { on := 7, ground := Ground.phase }, { on := 8, ground := Ground.phase }, { on := 9, ground := Ground.phase }, { on := 10, ground := Ground.phase }, { on := 11, ground := Ground.phase }, { on := 12, ground := Ground.phase }, { on := 13, ground := Ground.phase }, { on := 14, ground := Ground.phase }, { on := 15, ground := Ground.phase }, { on := 16, ground := Ground.textOnly Departure.lateStores }, { on := 17, ground := Ground.phase }], guard := none } : Oper)) rfl (fun KK hKK => ?_) AllReadyH.nil
            refine step_store_ses rfl 24 _ _ rfl t [.int .i64 0, .string ⟨#[]⟩, .int .i64 0, .slice none 0 0] 24 [.int .i64 1, .string xR, .int .i64 nx, .slice AG l2.length cG] rfl rfl XB2.out rfl size24 (by simp [Value.oneCell']) ?_
            intro y3 he
            have XB3 := Lib.hid (show Blk y3 t [.int .i64 1, .string xR, .int .i64 nx, .slice AG l2.length cG] 24 by rw [he]; exact XB2.out.setAll _ rfl); have RB3 := Lib.hid (show Below wr.heap.size wr y3 by rw [he]; exact below_setAll HT.out _ _ _ RB2.out); have RG3 := Lib.hid (show Rcs y3 AG l2.length cG l2 by rw [he]; exact RG2.out.off_ses XB2.out _)
            clear he
            refine hKK.out _ _ (RB3.out) (fun hH3 => ?_)
            clear hKK KK
            try simp only [Act.put, List.setIfInBounds_toArray, List.set_cons_zero, List.set_cons_succ]
            refine wpAnyH_take (i := 19) (oi := ({ dst := some 14, op := Op.assign (Operand.tmp 96), type := 28, pos := "law.go:101", after := #[{ on := 16, ground := Ground.data }, { on := 18, ground := Ground.chain }, { on := 0, ground := Ground.phase }, { on := 1, ground := Ground.phase }, { on := 2, ground := Ground.phase }, { on := 3, ground := Ground.phase }, { on := 4, ground := Ground.phase }, { on := 5, ground := Ground.phase }, { on := 6, ground := Ground.phase }, { on := 7, ground := Ground.phase }, { on := 8, ground := Ground.phase }, { on := 9, ground := Ground.phase }, { on := 10, ground := Ground.phase }, { on := 11, ground := Ground.phase }, { on := 12, ground := Ground.phase }, { on := 13, ground := Ground.phase }, { on := 14, ground := Ground.phase }, { on := 15, ground := Ground.phase }, { on := 16, ground := Ground.phase }, { on := 17, ground := Ground.phase }, { on := 18, ground := Ground.phase }], guard := none } : Oper)) (v := ?hv32) rfl (by kernel_rfl) (by kernel_rfl) (by kernel_rfl) (fun _ _ _ h => h) (Or.inl ⟨by rfl, ?hy32⟩) (by assumption) ?hr32
            case hy32 => (intro w hSw; (try dsimp only at hSw); go_simp; (try with_reducible rfl))
            try simp only [Act.put, List.setIfInBounds_toArray, List.set_cons_zero, List.set_cons_succ]
            refine wpAnyH_done (by kernel_rfl) ?_ _
            have X5 := Lib.hid (X.out.below RB3.out)
            have B5 := Lib.hid (BX.out.trans (RB3.out.mono BX.out.size))
            have V5 := Lib.hid (V.out.below RB3.out)
            have R5 := Lib.hid (R.out.below RB3.out)
            clear R5
            go_upto_region 18 with (first
              | (refine wpList_load_mid rfl 24 _ rfl t 0 rfl [.int .i64 1, .string xR, .int .i64 nx, .slice AG l2.length cG] _ XB3.out.range Try.underlying24 rfl size24 ?_)
              | (refine wpList_store_mid rfl 24 _ _ rfl b5 0 [.int .i64 1, .string xR, .int .i64 nx, .slice AG l2.length cG].toArray rfl rfl (Blk.there (n := 4) X5.out (Nat.le_refl 4)) size24 (by simp [Value.oneCell']) ?_; obtain ⟨w8, hw, hx, hr, hb⟩ := st_ses X5.out [.int .i64 1, .string xR, .int .i64 nx, .slice AG l2.length cG] rfl RG3.out; rw [hw]; have X8 := Lib.hid hx; have R8 := Lib.hid hr; have B8 := Lib.hid (hb _ _ B5.out (by omega)); have V8 := Lib.hid (V5.out.at_ (hb _ _ (Below.refl b5 y3) (Nat.le_refl _)) (by omega)); clear hw hx hr hb)
              | fail)
            clear X5 B5 V5 RG3 XB3 RB0 RB1 RB2 RB3 HT HGv
            by_cases g1 : us = yu
            · have z1 : (us.toList == yu.toList) = true := by rw [g1]; exact beq_self_eq_true _
              by_cases g2 : id = zd
              · have z2 : (id.toList == zd.toList) = true := by rw [g2]; exact beq_self_eq_true _
                have HFy := Lib.hid (HFr.out.1 (smS_yes g1 g2))
                clear g1 g2
                refine wp_region_held_drew (S := (fun y => Below w8.heap.size w8 y)) (by kernel_rfl) ((Below.refl w8.heap.size w8).drew) (fun hH0 => ?_)
                generalize hy0 : World.drew _ = y9 at hH0 ⊢
                have RB9 : Hid (Below w8.heap.size w8 y9) := Lib.hid hH0
                clear hy0
                refine wpAnyH_take (i := 0) (oi := ({ dst := some 100, op := Op.move (Operand.tmp 0), type := 46, pos := "law.go:104", after := #[], guard := none } : Oper)) (v := ?hv33) rfl (by kernel_rfl) (by kernel_rfl) (by kernel_rfl) (fun _ _ _ h => h) (Or.inl ⟨by rfl, ?hy33⟩) (by assumption) ?hr33
                case hy33 => (intro w hSw; (try dsimp only at hSw); go_simp; (try with_reducible rfl))
                try simp only [Act.put, List.setIfInBounds_toArray, List.set_cons_zero, List.set_cons_succ]
                refine wpAnyH_take (i := 1) (oi := ({ dst := some 101, op := Op.move (Operand.tmp 9), type := 3, pos := "law.go:104", after := #[], guard := none } : Oper)) (v := ?hv34) rfl (by kernel_rfl) (by kernel_rfl) (by kernel_rfl) (fun _ _ _ h => h) (Or.inl ⟨by rfl, ?hy34⟩) (by assumption) ?hr34
                case hy34 => (intro w hSw; (try dsimp only at hSw); go_simp; (try with_reducible rfl))
                try simp only [Act.put, List.setIfInBounds_toArray, List.set_cons_zero, List.set_cons_succ]
                refine wpAnyH_take (i := 2) (oi := ({ dst := some 102, op := Op.indexAddr 46 (Operand.tmp 100) (Operand.tmp 101), type := 0, pos := "law.go:104", after := #[{ on := 0, ground := Ground.data }, { on := 1, ground := Ground.data }], guard := none } : Oper)) (v := ?hv35) rfl (by kernel_rfl) (by kernel_rfl) (by kernel_rfl) (fun _ _ _ h => h) (Or.inl ⟨by rfl, ?hy35⟩) (by assumption) ?hr35
                case hy35 => (intro w hSw; (try dsimp only at hSw); go_simp; (try with_reducible rfl))
                try simp only [Act.put, List.setIfInBounds_toArray, List.set_cons_zero, List.set_cons_succ]
                refine wpAnyH_take (i := 3) (oi := ({ dst := some 103, op := Op.fieldAddr 50 (Operand.tmp 102) 1, type := 0, pos := "law.go:104", after := #[{ on := 2, ground := Ground.data }], guard := none } : Oper)) (v := ?hv36) rfl (by kernel_rfl) (by kernel_rfl) (by kernel_rfl) (fun _ _ _ h => h) (Or.inl ⟨by rfl, ?hy36⟩) (by assumption) ?hr36
                case hy36 => (intro w hSw; (try dsimp only at hSw); go_simp; (try with_reducible rfl))
                try simp only [Act.put, List.setIfInBounds_toArray, List.set_cons_zero, List.set_cons_succ]
                refine wpAnyH_take (i := 4) (oi := ({ dst := some 104, op := Op.load 26 (Operand.tmp 103), type := 26, pos := "law.go:104", after := #[{ on := 3, ground := Ground.data }], guard := none } : Oper)) (v := .agg #[.string us, .string id]) rfl (by kernel_rfl) (by kernel_rfl) (by kernel_rfl) (fun _ _ _ h => h) (yieldsIf_load_mid (by rfl) 26 _ rfl b (off + k * 3 + 1) rfl [.string us, .string id] _ (fun w0 hw0 => rg_tail (rg_below HR0.out hb0 (B8.out.trans (hw0.mono B8.out.size)))) Try.underlying26 rfl size26) (by assumption) ?_
                try simp only [Act.put, List.setIfInBounds_toArray, List.set_cons_zero, List.set_cons_succ]
                refine wpAnyH_take (i := 5) (oi := ({ dst := some 105, op := Op.load 26 (Operand.tmp 3), type := 26, pos := "law.go:104", after := #[], guard := none } : Oper)) (v := .agg #[.string yu, .string zd]) rfl (by kernel_rfl) (by kernel_rfl) (by kernel_rfl) (fun _ _ _ h => h) (yieldsIf_load_mid (by rfl) 26 _ rfl w.heap.size 0 rfl [.string yu, .string zd] _ (fun w0 hw0 => (V8.out.below hw0).range) Try.underlying26 rfl size26) (by assumption) ?_
                try simp only [Act.put, List.setIfInBounds_toArray, List.set_cons_zero, List.set_cons_succ]
                refine wpAnyH_take (i := 6) (oi := ({ dst := some 106, op := Op.binOp BinOp.eql 26 (Operand.tmp 104) (Operand.tmp 105) 26, type := 4, pos := "law.go:104", after := #[{ on := 4, ground := Ground.data }, { on := 5, ground := Ground.data }], guard := none } : Oper)) (v := ?hv37) rfl (by kernel_rfl) (by kernel_rfl) (by kernel_rfl) (fun _ _ _ h => h) (Or.inl ⟨by rfl, ?hy37⟩) (by assumption) ?hr37
                case hy37 => (intro w hSw; (try dsimp only at hSw); go_simp; (try with_reducible rfl))
                try simp only [Act.put, List.setIfInBounds_toArray, List.set_cons_zero, List.set_cons_succ]
                refine wpAnyH_done (by kernel_rfl) ?_ _
                go_wp2
                go_roundg (n - (k + 1))
                case measure => omega
                case rel => exact ⟨k + 1, nx, l2, AG, cG, by omega, by omega, rfl, by rw [HFy.out], by go_num, by omega, by omega, Lib.hid (by have := HLn.out; have := HL2.out; omega), HP2, Lib.hid (X8.out.below RB9.out), Lib.hid (R8.out.below RB9.out), Lib.hid (B8.out.trans (RB9.out.mono B8.out.size)), Lib.hid (V8.out.below RB9.out)⟩
              · have z2 : (id.toList == zd.toList) = false := beq_eq_false_iff_ne.2 (fun e => g2 (eq_of_toList e))
                have HFy := Lib.hid ((HFr.out.2 (smS_ne2 g2)).trans HF.out)
                clear g2
                refine wp_region_held_drew (S := (fun y => Below w8.heap.size w8 y)) (by kernel_rfl) ((Below.refl w8.heap.size w8).drew) (fun hH0 => ?_)
                generalize hy0 : World.drew _ = y9 at hH0 ⊢
                have RB9 : Hid (Below w8.heap.size w8 y9) := Lib.hid hH0
                clear hy0
                refine wpAnyH_take (i := 0) (oi := ({ dst := some 100, op := Op.move (Operand.tmp 0), type := 46, pos := "law.go:104", after := #[], guard := none } : Oper)) (v := ?hv38) rfl (by kernel_rfl) (by kernel_rfl) (by kernel_rfl) (fun _ _ _ h => h) (Or.inl ⟨by rfl, ?hy38⟩) (by assumption) ?hr38
                case hy38 => (intro w hSw; (try dsimp only at hSw); go_simp; (try with_reducible rfl))
                try simp only [Act.put, List.setIfInBounds_toArray, List.set_cons_zero, List.set_cons_succ]
                refine wpAnyH_take (i := 1) (oi := ({ dst := some 101, op := Op.move (Operand.tmp 9), type := 3, pos := "law.go:104", after := #[], guard := none } : Oper)) (v := ?hv39) rfl (by kernel_rfl) (by kernel_rfl) (by kernel_rfl) (fun _ _ _ h => h) (Or.inl ⟨by rfl, ?hy39⟩) (by assumption) ?hr39
                case hy39 => (intro w hSw; (try dsimp only at hSw); go_simp; (try with_reducible rfl))
                try simp only [Act.put, List.setIfInBounds_toArray, List.set_cons_zero, List.set_cons_succ]
                refine wpAnyH_take (i := 2) (oi := ({ dst := some 102, op := Op.indexAddr 46 (Operand.tmp 100) (Operand.tmp 101), type := 0, pos := "law.go:104", after := #[{ on := 0, ground := Ground.data }, { on := 1, ground := Ground.data }], guard := none } : Oper)) (v := ?hv40) rfl (by kernel_rfl) (by kernel_rfl) (by kernel_rfl) (fun _ _ _ h => h) (Or.inl ⟨by rfl, ?hy40⟩) (by assumption) ?hr40
                case hy40 => (intro w hSw; (try dsimp only at hSw); go_simp; (try with_reducible rfl))
                try simp only [Act.put, List.setIfInBounds_toArray, List.set_cons_zero, List.set_cons_succ]
                refine wpAnyH_take (i := 3) (oi := ({ dst := some 103, op := Op.fieldAddr 50 (Operand.tmp 102) 1, type := 0, pos := "law.go:104", after := #[{ on := 2, ground := Ground.data }], guard := none } : Oper)) (v := ?hv41) rfl (by kernel_rfl) (by kernel_rfl) (by kernel_rfl) (fun _ _ _ h => h) (Or.inl ⟨by rfl, ?hy41⟩) (by assumption) ?hr41
                case hy41 => (intro w hSw; (try dsimp only at hSw); go_simp; (try with_reducible rfl))
                try simp only [Act.put, List.setIfInBounds_toArray, List.set_cons_zero, List.set_cons_succ]
                refine wpAnyH_take (i := 4) (oi := ({ dst := some 104, op := Op.load 26 (Operand.tmp 103), type := 26, pos := "law.go:104", after := #[{ on := 3, ground := Ground.data }], guard := none } : Oper)) (v := .agg #[.string us, .string id]) rfl (by kernel_rfl) (by kernel_rfl) (by kernel_rfl) (fun _ _ _ h => h) (yieldsIf_load_mid (by rfl) 26 _ rfl b (off + k * 3 + 1) rfl [.string us, .string id] _ (fun w0 hw0 => rg_tail (rg_below HR0.out hb0 (B8.out.trans (hw0.mono B8.out.size)))) Try.underlying26 rfl size26) (by assumption) ?_
                try simp only [Act.put, List.setIfInBounds_toArray, List.set_cons_zero, List.set_cons_succ]
                refine wpAnyH_take (i := 5) (oi := ({ dst := some 105, op := Op.load 26 (Operand.tmp 3), type := 26, pos := "law.go:104", after := #[], guard := none } : Oper)) (v := .agg #[.string yu, .string zd]) rfl (by kernel_rfl) (by kernel_rfl) (by kernel_rfl) (fun _ _ _ h => h) (yieldsIf_load_mid (by rfl) 26 _ rfl w.heap.size 0 rfl [.string yu, .string zd] _ (fun w0 hw0 => (V8.out.below hw0).range) Try.underlying26 rfl size26) (by assumption) ?_
                try simp only [Act.put, List.setIfInBounds_toArray, List.set_cons_zero, List.set_cons_succ]
                refine wpAnyH_take (i := 6) (oi := ({ dst := some 106, op := Op.binOp BinOp.eql 26 (Operand.tmp 104) (Operand.tmp 105) 26, type := 4, pos := "law.go:104", after := #[{ on := 4, ground := Ground.data }, { on := 5, ground := Ground.data }], guard := none } : Oper)) (v := ?hv42) rfl (by kernel_rfl) (by kernel_rfl) (by kernel_rfl) (fun _ _ _ h => h) (Or.inl ⟨by rfl, ?hy42⟩) (by assumption) ?hr42
                case hy42 => (intro w hSw; (try dsimp only at hSw); go_simp; (try with_reducible rfl))
                try simp only [Act.put, List.setIfInBounds_toArray, List.set_cons_zero, List.set_cons_succ]
                refine wpAnyH_done (by kernel_rfl) ?_ _
                go_wp2
                go_roundg (n - (k + 1))
                case measure => omega
                case rel => exact ⟨k + 1, nx, l2, AG, cG, by omega, by omega, rfl, by rw [HFy.out], by go_num, by omega, by omega, Lib.hid (by have := HLn.out; have := HL2.out; omega), HP2, Lib.hid (X8.out.below RB9.out), Lib.hid (R8.out.below RB9.out), Lib.hid (B8.out.trans (RB9.out.mono B8.out.size)), Lib.hid (V8.out.below RB9.out)⟩
            · have z1 : (us.toList == yu.toList) = false := beq_eq_false_iff_ne.2 (fun e => g1 (eq_of_toList e))
              have HFy := Lib.hid ((HFr.out.2 (smS_ne1 g1)).trans HF.out)
              clear g1
              refine wp_region_held_drew (S := (fun y => Below w8.heap.size w8 y)) (by kernel_rfl) ((Below.refl w8.heap.size w8).drew) (fun hH0 => ?_)
              generalize hy0 : World.drew _ = y9 at hH0 ⊢
              have RB9 : Hid (Below w8.heap.size w8 y9) := Lib.hid hH0
              clear hy0
              refine wpAnyH_take (i := 0) (oi := ({ dst := some 100, op := Op.move (Operand.tmp 0), type := 46, pos := "law.go:104", after := #[], guard := none } : Oper)) (v := ?hv43) rfl (by kernel_rfl) (by kernel_rfl) (by kernel_rfl) (fun _ _ _ h => h) (Or.inl ⟨by rfl, ?hy43⟩) (by assumption) ?hr43
              case hy43 => (intro w hSw; (try dsimp only at hSw); go_simp; (try with_reducible rfl))
              try simp only [Act.put, List.setIfInBounds_toArray, List.set_cons_zero, List.set_cons_succ]
              refine wpAnyH_take (i := 1) (oi := ({ dst := some 101, op := Op.move (Operand.tmp 9), type := 3, pos := "law.go:104", after := #[], guard := none } : Oper)) (v := ?hv44) rfl (by kernel_rfl) (by kernel_rfl) (by kernel_rfl) (fun _ _ _ h => h) (Or.inl ⟨by rfl, ?hy44⟩) (by assumption) ?hr44
              case hy44 => (intro w hSw; (try dsimp only at hSw); go_simp; (try with_reducible rfl))
              try simp only [Act.put, List.setIfInBounds_toArray, List.set_cons_zero, List.set_cons_succ]
              refine wpAnyH_take (i := 2) (oi := ({ dst := some 102, op := Op.indexAddr 46 (Operand.tmp 100) (Operand.tmp 101), type := 0, pos := "law.go:104", after := #[{ on := 0, ground := Ground.data }, { on := 1, ground := Ground.data }], guard := none } : Oper)) (v := ?hv45) rfl (by kernel_rfl) (by kernel_rfl) (by kernel_rfl) (fun _ _ _ h => h) (Or.inl ⟨by rfl, ?hy45⟩) (by assumption) ?hr45
              case hy45 => (intro w hSw; (try dsimp only at hSw); go_simp; (try with_reducible rfl))
              try simp only [Act.put, List.setIfInBounds_toArray, List.set_cons_zero, List.set_cons_succ]
              refine wpAnyH_take (i := 3) (oi := ({ dst := some 103, op := Op.fieldAddr 50 (Operand.tmp 102) 1, type := 0, pos := "law.go:104", after := #[{ on := 2, ground := Ground.data }], guard := none } : Oper)) (v := ?hv46) rfl (by kernel_rfl) (by kernel_rfl) (by kernel_rfl) (fun _ _ _ h => h) (Or.inl ⟨by rfl, ?hy46⟩) (by assumption) ?hr46
              case hy46 => (intro w hSw; (try dsimp only at hSw); go_simp; (try with_reducible rfl))
              try simp only [Act.put, List.setIfInBounds_toArray, List.set_cons_zero, List.set_cons_succ]
              refine wpAnyH_take (i := 4) (oi := ({ dst := some 104, op := Op.load 26 (Operand.tmp 103), type := 26, pos := "law.go:104", after := #[{ on := 3, ground := Ground.data }], guard := none } : Oper)) (v := .agg #[.string us, .string id]) rfl (by kernel_rfl) (by kernel_rfl) (by kernel_rfl) (fun _ _ _ h => h) (yieldsIf_load_mid (by rfl) 26 _ rfl b (off + k * 3 + 1) rfl [.string us, .string id] _ (fun w0 hw0 => rg_tail (rg_below HR0.out hb0 (B8.out.trans (hw0.mono B8.out.size)))) Try.underlying26 rfl size26) (by assumption) ?_
              try simp only [Act.put, List.setIfInBounds_toArray, List.set_cons_zero, List.set_cons_succ]
              refine wpAnyH_take (i := 5) (oi := ({ dst := some 105, op := Op.load 26 (Operand.tmp 3), type := 26, pos := "law.go:104", after := #[], guard := none } : Oper)) (v := .agg #[.string yu, .string zd]) rfl (by kernel_rfl) (by kernel_rfl) (by kernel_rfl) (fun _ _ _ h => h) (yieldsIf_load_mid (by rfl) 26 _ rfl w.heap.size 0 rfl [.string yu, .string zd] _ (fun w0 hw0 => (V8.out.below hw0).range) Try.underlying26 rfl size26) (by assumption) ?_
              try simp only [Act.put, List.setIfInBounds_toArray, List.set_cons_zero, List.set_cons_succ]
              refine wpAnyH_take (i := 6) (oi := ({ dst := some 106, op := Op.binOp BinOp.eql 26 (Operand.tmp 104) (Operand.tmp 105) 26, type := 4, pos := "law.go:104", after := #[{ on := 4, ground := Ground.data }, { on := 5, ground := Ground.data }], guard := none } : Oper)) (v := ?hv47) rfl (by kernel_rfl) (by kernel_rfl) (by kernel_rfl) (fun _ _ _ h => h) (Or.inl ⟨by rfl, ?hy47⟩) (by assumption) ?hr47
              case hy47 => (intro w hSw; (try dsimp only at hSw); go_simp; (try with_reducible rfl))
              try simp only [Act.put, List.setIfInBounds_toArray, List.set_cons_zero, List.set_cons_succ]
              refine wpAnyH_done (by kernel_rfl) ?_ _
              go_wp2
              go_roundg (n - (k + 1))
              case measure => omega
              case rel => exact ⟨k + 1, nx, l2, AG, cG, by omega, by omega, rfl, by rw [HFy.out], by go_num, by omega, by omega, Lib.hid (by have := HLn.out; have := HL2.out; omega), HP2, Lib.hid (X8.out.below RB9.out), Lib.hid (R8.out.below RB9.out), Lib.hid (B8.out.trans (RB9.out.mono B8.out.size)), Lib.hid (V8.out.below RB9.out)⟩
          refine AllReadyH.cons (o := ({ dst := some 13, op := Op.alloc 24, type := 0, pos := "law.go:101", after := #[], guard := none } : Oper)) rfl (fun KK hKK => ?_) AllReadyH.nil
          refine step_alloc_new rfl 24 rfl [.int .i64 0, .string ⟨#[]⟩, .int .i64 0, .slice none 0 0] alloc24 ?_
          intro t y1 hx hb ht
          have XB1 := Lib.hid hx; have RB1 := Lib.hid (RB0.out.trans (hb.mono RB0.out.size)); have HT := Lib.hid (show wr.heap.size ≤ t from Nat.le_trans RB0.out.size ht); skip
          clear hx hb ht
          refine hKK.out _ _ (RB1.out) (fun hH1 => ?_)
          clear hKK KK
          try simp only [Act.put, List.setIfInBounds_toArray, List.set_cons_zero, List.set_cons_succ]
          refine wpAnyH_ready (rs := [13]) (by kernel_rfl) (by simp) ?_
          refine AllReadyH.cons (o := ({ dst := some 94, op := Op.call { callee := Callee.value (Operand.func 25), args := #[Operand.tmp 81, Operand.tmp 87, Operand.tmp 93], argTypes := #[24, 9, 9] }, type := 47, pos := "law.go:101", after := #[{ on := 0, ground := Ground.data }, { on := 6, ground := Ground.data }, { on := 12, ground := Ground.data }], guard := none } : Oper)) rfl (fun KK hKK => ?_) AllReadyH.nil
          go_simp
          (with_reducible refine (HGv.out _ RB1.out).mono ?_)
          rintro e2 y2 ⟨AG, cG, rfl, hr, hb⟩
          have RB2 := Lib.hid (RB1.out.trans (hb.mono RB1.out.size)); have RG2 := Lib.hid hr; have XB2 := Lib.hid (XB1.out.below hb)
          clear hr hb
          refine hKK.out _ _ (RB2.out) (fun hH2 => ?_)
          clear hKK KK
          try simp only [Act.put, List.setIfInBounds_toArray, List.set_cons_zero, List.set_cons_succ]
          refine wpAnyH_take (i := 14) (oi := ({ dst := some 80, op := Op.move (Operand.tmp 94), type := 47, pos := "law.go:101", after := #[{ on := 13, ground := Ground.data }], guard := none } : Oper)) (v := ?hv48) rfl (by kernel_rfl) (by kernel_rfl) (by kernel_rfl) (fun _ _ _ h => h) (Or.inl ⟨by rfl, ?hy48⟩) (by assumption) ?hr48
          case hy48 => (intro w hSw; (try dsimp only at hSw); go_simp; (try with_reducible rfl))
          try simp only [Act.put, List.setIfInBounds_toArray, List.set_cons_zero, List.set_cons_succ]
          refine wpAnyH_take (i := 15) (oi := ({ dst := some 95, op := Op.extract (Operand.tmp 80) 0, type := 24, pos := "law.go:101", after := #[{ on := 14, ground := Ground.data }], guard := none } : Oper)) (v := ?hv49) rfl (by kernel_rfl) (by kernel_rfl) (by kernel_rfl) (fun _ _ _ h => h) (Or.inl ⟨by rfl, ?hy49⟩) (by assumption) ?hr49
          case hy49 => (intro w hSw; (try dsimp only at hSw); go_simp; (try with_reducible rfl))
          try simp only [Act.put, List.setIfInBounds_toArray, List.set_cons_zero, List.set_cons_succ]
          refine wpAnyH_take (i := 16) (oi := ({ dst := some 96, op := Op.extract (Operand.tmp 80) 1, type := 28, pos := "law.go:101", after := #[{ on := 14, ground := Ground.data }, { on := 18, ground := Ground.gcOnly Departure.lateStores }], guard := none } : Oper)) (v := ?hv50) rfl (by kernel_rfl) (by kernel_rfl) (by kernel_rfl) (fun _ _ _ h => h) (Or.inl ⟨by rfl, ?hy50⟩) (by assumption) ?hr50
          case hy50 => (intro w hSw; (try dsimp only at hSw); go_simp; (try with_reducible rfl))
          try simp only [Act.put, List.setIfInBounds_toArray, List.set_cons_zero, List.set_cons_succ]
          refine wpAnyH_ready (rs := [18]) (by kernel_rfl) (by simp) ?_
          refine AllReadyH.cons (o := ({ dst := none, op := Op.store 24 (Operand.tmp 13) (Operand.tmp 95), type := 0, pos := "law.go:101", after := #[{ on := 17, ground := Ground.data }, { on := 15, ground := Ground.data }, { on := 13, ground := Ground.chain }, { on := 0, ground := Ground.phase }, { on := 1, ground := Ground.phase }, { on := 2, ground := Ground.phase }, { on := 3, ground := Ground.phase }, { on := 4, ground := Ground.phase }, { on := 5, ground := Ground.phase }, { on := 6, ground := Ground.phase }, { on := 7, ground := Ground.phase }, { on := 8, ground := Ground.phase }, { on := 9, ground := Ground.phase }, { on := 10, ground := Ground.phase }, { on := 11, ground := Ground.phase }, { on := 12, ground := Ground.phase }, { on := 13, ground := Ground.phase }, { on := 14, ground := Ground.phase }, { on := 15, ground := Ground.phase }, { on := 16, ground := Ground.textOnly Departure.lateStores }, { on := 17, ground := Ground.phase }], guard := none } : Oper)) rfl (fun KK hKK => ?_) AllReadyH.nil
          refine step_store_ses rfl 24 _ _ rfl t [.int .i64 0, .string ⟨#[]⟩, .int .i64 0, .slice none 0 0] 24 [.int .i64 1, .string xR, .int .i64 nx, .slice AG l2.length cG] rfl rfl XB2.out rfl size24 (by simp [Value.oneCell']) ?_
          intro y3 he
          have XB3 := Lib.hid (show Blk y3 t [.int .i64 1, .string xR, .int .i64 nx, .slice AG l2.length cG] 24 by rw [he]; exact XB2.out.setAll _ rfl); have RB3 := Lib.hid (show Below wr.heap.size wr y3 by rw [he]; exact below_setAll HT.out _ _ _ RB2.out); have RG3 := Lib.hid (show Rcs y3 AG l2.length cG l2 by rw [he]; exact RG2.out.off_ses XB2.out _)
          clear he
          refine hKK.out _ _ (RB3.out) (fun hH3 => ?_)
          clear hKK KK
          try simp only [Act.put, List.setIfInBounds_toArray, List.set_cons_zero, List.set_cons_succ]
          refine wpAnyH_take (i := 19) (oi := ({ dst := some 14, op := Op.assign (Operand.tmp 96), type := 28, pos := "law.go:101", after := #[{ on := 16, ground := Ground.data }, { on := 18, ground := Ground.chain }, { on := 0, ground := Ground.phase }, { on := 1, ground := Ground.phase }, { on := 2, ground := Ground.phase }, { on := 3, ground := Ground.phase }, { on := 4, ground := Ground.phase }, { on := 5, ground := Ground.phase }, { on := 6, ground := Ground.phase }, { on := 7, ground := Ground.phase }, { on := 8, ground := Ground.phase }, { on := 9, ground := Ground.phase }, { on := 10, ground := Ground.phase }, { on := 11, ground := Ground.phase }, { on := 12, ground := Ground.phase }, { on := 13, ground := Ground.phase }, { on := 14, ground := Ground.phase }, { on := 15, ground := Ground.phase }, { on := 16, ground := Ground.phase }, { on := 17, ground := Ground.phase }, { on := 18, ground := Ground.phase }], guard := none } : Oper)) (v := ?hv51) rfl (by kernel_rfl) (by kernel_rfl) (by kernel_rfl) (fun _ _ _ h => h) (Or.inl ⟨by rfl, ?hy51⟩) (by assumption) ?hr51
          case hy51 => (intro w hSw; (try dsimp only at hSw); go_simp; (try with_reducible rfl))
          try simp only [Act.put, List.setIfInBounds_toArray, List.set_cons_zero, List.set_cons_succ]
          refine wpAnyH_done (by kernel_rfl) ?_ _
          have X5 := Lib.hid (X.out.below RB3.out)
          have B5 := Lib.hid (BX.out.trans (RB3.out.mono BX.out.size))
          have V5 := Lib.hid (V.out.below RB3.out)
          have R5 := Lib.hid (R.out.below RB3.out)
          clear R5
          go_upto_region 18 with (first
            | (refine wpList_load_mid rfl 24 _ rfl t 0 rfl [.int .i64 1, .string xR, .int .i64 nx, .slice AG l2.length cG] _ XB3.out.range Try.underlying24 rfl size24 ?_)
            | (refine wpList_store_mid rfl 24 _ _ rfl b5 0 [.int .i64 1, .string xR, .int .i64 nx, .slice AG l2.length cG].toArray rfl rfl (Blk.there (n := 4) X5.out (Nat.le_refl 4)) size24 (by simp [Value.oneCell']) ?_; obtain ⟨w8, hw, hx, hr, hb⟩ := st_ses X5.out [.int .i64 1, .string xR, .int .i64 nx, .slice AG l2.length cG] rfl RG3.out; rw [hw]; have X8 := Lib.hid hx; have R8 := Lib.hid hr; have B8 := Lib.hid (hb _ _ B5.out (by omega)); have V8 := Lib.hid (V5.out.at_ (hb _ _ (Below.refl b5 y3) (Nat.le_refl _)) (by omega)); clear hw hx hr hb)
            | fail)
          clear X5 B5 V5 RG3 XB3 RB0 RB1 RB2 RB3 HT HGv
          by_cases g1 : us = yu
          · have z1 : (us.toList == yu.toList) = true := by rw [g1]; exact beq_self_eq_true _
            by_cases g2 : id = zd
            · have z2 : (id.toList == zd.toList) = true := by rw [g2]; exact beq_self_eq_true _
              have HFy := Lib.hid (HFr.out.1 (smS_yes g1 g2))
              clear g1 g2
              refine wp_region_held_drew (S := (fun y => Below w8.heap.size w8 y)) (by kernel_rfl) ((Below.refl w8.heap.size w8).drew) (fun hH0 => ?_)
              generalize hy0 : World.drew _ = y9 at hH0 ⊢
              have RB9 : Hid (Below w8.heap.size w8 y9) := Lib.hid hH0
              clear hy0
              refine wpAnyH_take (i := 0) (oi := ({ dst := some 100, op := Op.move (Operand.tmp 0), type := 46, pos := "law.go:104", after := #[], guard := none } : Oper)) (v := ?hv52) rfl (by kernel_rfl) (by kernel_rfl) (by kernel_rfl) (fun _ _ _ h => h) (Or.inl ⟨by rfl, ?hy52⟩) (by assumption) ?hr52
              case hy52 => (intro w hSw; (try dsimp only at hSw); go_simp; (try with_reducible rfl))
              try simp only [Act.put, List.setIfInBounds_toArray, List.set_cons_zero, List.set_cons_succ]
              refine wpAnyH_take (i := 1) (oi := ({ dst := some 101, op := Op.move (Operand.tmp 9), type := 3, pos := "law.go:104", after := #[], guard := none } : Oper)) (v := ?hv53) rfl (by kernel_rfl) (by kernel_rfl) (by kernel_rfl) (fun _ _ _ h => h) (Or.inl ⟨by rfl, ?hy53⟩) (by assumption) ?hr53
              case hy53 => (intro w hSw; (try dsimp only at hSw); go_simp; (try with_reducible rfl))
              try simp only [Act.put, List.setIfInBounds_toArray, List.set_cons_zero, List.set_cons_succ]
              refine wpAnyH_take (i := 2) (oi := ({ dst := some 102, op := Op.indexAddr 46 (Operand.tmp 100) (Operand.tmp 101), type := 0, pos := "law.go:104", after := #[{ on := 0, ground := Ground.data }, { on := 1, ground := Ground.data }], guard := none } : Oper)) (v := ?hv54) rfl (by kernel_rfl) (by kernel_rfl) (by kernel_rfl) (fun _ _ _ h => h) (Or.inl ⟨by rfl, ?hy54⟩) (by assumption) ?hr54
              case hy54 => (intro w hSw; (try dsimp only at hSw); go_simp; (try with_reducible rfl))
              try simp only [Act.put, List.setIfInBounds_toArray, List.set_cons_zero, List.set_cons_succ]
              refine wpAnyH_take (i := 3) (oi := ({ dst := some 103, op := Op.fieldAddr 50 (Operand.tmp 102) 1, type := 0, pos := "law.go:104", after := #[{ on := 2, ground := Ground.data }], guard := none } : Oper)) (v := ?hv55) rfl (by kernel_rfl) (by kernel_rfl) (by kernel_rfl) (fun _ _ _ h => h) (Or.inl ⟨by rfl, ?hy55⟩) (by assumption) ?hr55
              case hy55 => (intro w hSw; (try dsimp only at hSw); go_simp; (try with_reducible rfl))
              try simp only [Act.put, List.setIfInBounds_toArray, List.set_cons_zero, List.set_cons_succ]
              refine wpAnyH_take (i := 4) (oi := ({ dst := some 104, op := Op.load 26 (Operand.tmp 103), type := 26, pos := "law.go:104", after := #[{ on := 3, ground := Ground.data }], guard := none } : Oper)) (v := .agg #[.string us, .string id]) rfl (by kernel_rfl) (by kernel_rfl) (by kernel_rfl) (fun _ _ _ h => h) (yieldsIf_load_mid (by rfl) 26 _ rfl b (off + k * 3 + 1) rfl [.string us, .string id] _ (fun w0 hw0 => rg_tail (rg_below HR0.out hb0 (B8.out.trans (hw0.mono B8.out.size)))) Try.underlying26 rfl size26) (by assumption) ?_
              try simp only [Act.put, List.setIfInBounds_toArray, List.set_cons_zero, List.set_cons_succ]
              refine wpAnyH_take (i := 5) (oi := ({ dst := some 105, op := Op.load 26 (Operand.tmp 3), type := 26, pos := "law.go:104", after := #[], guard := none } : Oper)) (v := .agg #[.string yu, .string zd]) rfl (by kernel_rfl) (by kernel_rfl) (by kernel_rfl) (fun _ _ _ h => h) (yieldsIf_load_mid (by rfl) 26 _ rfl w.heap.size 0 rfl [.string yu, .string zd] _ (fun w0 hw0 => (V8.out.below hw0).range) Try.underlying26 rfl size26) (by assumption) ?_
              try simp only [Act.put, List.setIfInBounds_toArray, List.set_cons_zero, List.set_cons_succ]
              refine wpAnyH_take (i := 6) (oi := ({ dst := some 106, op := Op.binOp BinOp.eql 26 (Operand.tmp 104) (Operand.tmp 105) 26, type := 4, pos := "law.go:104", after := #[{ on := 4, ground := Ground.data }, { on := 5, ground := Ground.data }], guard := none } : Oper)) (v := ?hv56) rfl (by kernel_rfl) (by kernel_rfl) (by kernel_rfl) (fun _ _ _ h => h) (Or.inl ⟨by rfl, ?hy56⟩) (by assumption) ?hr56
              case hy56 => (intro w hSw; (try dsimp only at hSw); go_simp; (try with_reducible rfl))
              try simp only [Act.put, List.setIfInBounds_toArray, List.set_cons_zero, List.set_cons_succ]
              refine wpAnyH_done (by kernel_rfl) ?_ _
              go_wp2
              go_roundg (n - (k + 1))
              case measure => omega
              case rel => exact ⟨k + 1, nx, l2, AG, cG, by omega, by omega, rfl, by rw [HFy.out], by go_num, by omega, by omega, Lib.hid (by have := HLn.out; have := HL2.out; omega), HP2, Lib.hid (X8.out.below RB9.out), Lib.hid (R8.out.below RB9.out), Lib.hid (B8.out.trans (RB9.out.mono B8.out.size)), Lib.hid (V8.out.below RB9.out)⟩
            · have z2 : (id.toList == zd.toList) = false := beq_eq_false_iff_ne.2 (fun e => g2 (eq_of_toList e))
              have HFy := Lib.hid ((HFr.out.2 (smS_ne2 g2)).trans HF.out)
              clear g2
              refine wp_region_held_drew (S := (fun y => Below w8.heap.size w8 y)) (by kernel_rfl) ((Below.refl w8.heap.size w8).drew) (fun hH0 => ?_)
              generalize hy0 : World.drew _ = y9 at hH0 ⊢
              have RB9 : Hid (Below w8.heap.size w8 y9) := Lib.hid hH0
              clear hy0
              refine wpAnyH_take (i := 0) (oi := ({ dst := some 100, op := Op.move (Operand.tmp 0), type := 46, pos := "law.go:104", after := #[], guard := none } : Oper)) (v := ?hv57) rfl (by kernel_rfl) (by kernel_rfl) (by kernel_rfl) (fun _ _ _ h => h) (Or.inl ⟨by rfl, ?hy57⟩) (by assumption) ?hr57
              case hy57 => (intro w hSw; (try dsimp only at hSw); go_simp; (try with_reducible rfl))
              try simp only [Act.put, List.setIfInBounds_toArray, List.set_cons_zero, List.set_cons_succ]
              refine wpAnyH_take (i := 1) (oi := ({ dst := some 101, op := Op.move (Operand.tmp 9), type := 3, pos := "law.go:104", after := #[], guard := none } : Oper)) (v := ?hv58) rfl (by kernel_rfl) (by kernel_rfl) (by kernel_rfl) (fun _ _ _ h => h) (Or.inl ⟨by rfl, ?hy58⟩) (by assumption) ?hr58
              case hy58 => (intro w hSw; (try dsimp only at hSw); go_simp; (try with_reducible rfl))
              try simp only [Act.put, List.setIfInBounds_toArray, List.set_cons_zero, List.set_cons_succ]
              refine wpAnyH_take (i := 2) (oi := ({ dst := some 102, op := Op.indexAddr 46 (Operand.tmp 100) (Operand.tmp 101), type := 0, pos := "law.go:104", after := #[{ on := 0, ground := Ground.data }, { on := 1, ground := Ground.data }], guard := none } : Oper)) (v := ?hv59) rfl (by kernel_rfl) (by kernel_rfl) (by kernel_rfl) (fun _ _ _ h => h) (Or.inl ⟨by rfl, ?hy59⟩) (by assumption) ?hr59
              case hy59 => (intro w hSw; (try dsimp only at hSw); go_simp; (try with_reducible rfl))
              try simp only [Act.put, List.setIfInBounds_toArray, List.set_cons_zero, List.set_cons_succ]
              refine wpAnyH_take (i := 3) (oi := ({ dst := some 103, op := Op.fieldAddr 50 (Operand.tmp 102) 1, type := 0, pos := "law.go:104", after := #[{ on := 2, ground := Ground.data }], guard := none } : Oper)) (v := ?hv60) rfl (by kernel_rfl) (by kernel_rfl) (by kernel_rfl) (fun _ _ _ h => h) (Or.inl ⟨by rfl, ?hy60⟩) (by assumption) ?hr60
              case hy60 => (intro w hSw; (try dsimp only at hSw); go_simp; (try with_reducible rfl))
              try simp only [Act.put, List.setIfInBounds_toArray, List.set_cons_zero, List.set_cons_succ]
              refine wpAnyH_take (i := 4) (oi := ({ dst := some 104, op := Op.load 26 (Operand.tmp 103), type := 26, pos := "law.go:104", after := #[{ on := 3, ground := Ground.data }], guard := none } : Oper)) (v := .agg #[.string us, .string id]) rfl (by kernel_rfl) (by kernel_rfl) (by kernel_rfl) (fun _ _ _ h => h) (yieldsIf_load_mid (by rfl) 26 _ rfl b (off + k * 3 + 1) rfl [.string us, .string id] _ (fun w0 hw0 => rg_tail (rg_below HR0.out hb0 (B8.out.trans (hw0.mono B8.out.size)))) Try.underlying26 rfl size26) (by assumption) ?_
              try simp only [Act.put, List.setIfInBounds_toArray, List.set_cons_zero, List.set_cons_succ]
              refine wpAnyH_take (i := 5) (oi := ({ dst := some 105, op := Op.load 26 (Operand.tmp 3), type := 26, pos := "law.go:104", after := #[], guard := none } : Oper)) (v := .agg #[.string yu, .string zd]) rfl (by kernel_rfl) (by kernel_rfl) (by kernel_rfl) (fun _ _ _ h => h) (yieldsIf_load_mid (by rfl) 26 _ rfl w.heap.size 0 rfl [.string yu, .string zd] _ (fun w0 hw0 => (V8.out.below hw0).range) Try.underlying26 rfl size26) (by assumption) ?_
              try simp only [Act.put, List.setIfInBounds_toArray, List.set_cons_zero, List.set_cons_succ]
              refine wpAnyH_take (i := 6) (oi := ({ dst := some 106, op := Op.binOp BinOp.eql 26 (Operand.tmp 104) (Operand.tmp 105) 26, type := 4, pos := "law.go:104", after := #[{ on := 4, ground := Ground.data }, { on := 5, ground := Ground.data }], guard := none } : Oper)) (v := ?hv61) rfl (by kernel_rfl) (by kernel_rfl) (by kernel_rfl) (fun _ _ _ h => h) (Or.inl ⟨by rfl, ?hy61⟩) (by assumption) ?hr61
              case hy61 => (intro w hSw; (try dsimp only at hSw); go_simp; (try with_reducible rfl))
              try simp only [Act.put, List.setIfInBounds_toArray, List.set_cons_zero, List.set_cons_succ]
              refine wpAnyH_done (by kernel_rfl) ?_ _
              go_wp2
              go_roundg (n - (k + 1))
              case measure => omega
              case rel => exact ⟨k + 1, nx, l2, AG, cG, by omega, by omega, rfl, by rw [HFy.out], by go_num, by omega, by omega, Lib.hid (by have := HLn.out; have := HL2.out; omega), HP2, Lib.hid (X8.out.below RB9.out), Lib.hid (R8.out.below RB9.out), Lib.hid (B8.out.trans (RB9.out.mono B8.out.size)), Lib.hid (V8.out.below RB9.out)⟩
          · have z1 : (us.toList == yu.toList) = false := beq_eq_false_iff_ne.2 (fun e => g1 (eq_of_toList e))
            have HFy := Lib.hid ((HFr.out.2 (smS_ne1 g1)).trans HF.out)
            clear g1
            refine wp_region_held_drew (S := (fun y => Below w8.heap.size w8 y)) (by kernel_rfl) ((Below.refl w8.heap.size w8).drew) (fun hH0 => ?_)
            generalize hy0 : World.drew _ = y9 at hH0 ⊢
            have RB9 : Hid (Below w8.heap.size w8 y9) := Lib.hid hH0
            clear hy0
            refine wpAnyH_take (i := 0) (oi := ({ dst := some 100, op := Op.move (Operand.tmp 0), type := 46, pos := "law.go:104", after := #[], guard := none } : Oper)) (v := ?hv62) rfl (by kernel_rfl) (by kernel_rfl) (by kernel_rfl) (fun _ _ _ h => h) (Or.inl ⟨by rfl, ?hy62⟩) (by assumption) ?hr62
            case hy62 => (intro w hSw; (try dsimp only at hSw); go_simp; (try with_reducible rfl))
            try simp only [Act.put, List.setIfInBounds_toArray, List.set_cons_zero, List.set_cons_succ]
            refine wpAnyH_take (i := 1) (oi := ({ dst := some 101, op := Op.move (Operand.tmp 9), type := 3, pos := "law.go:104", after := #[], guard := none } : Oper)) (v := ?hv63) rfl (by kernel_rfl) (by kernel_rfl) (by kernel_rfl) (fun _ _ _ h => h) (Or.inl ⟨by rfl, ?hy63⟩) (by assumption) ?hr63
            case hy63 => (intro w hSw; (try dsimp only at hSw); go_simp; (try with_reducible rfl))
            try simp only [Act.put, List.setIfInBounds_toArray, List.set_cons_zero, List.set_cons_succ]
            refine wpAnyH_take (i := 2) (oi := ({ dst := some 102, op := Op.indexAddr 46 (Operand.tmp 100) (Operand.tmp 101), type := 0, pos := "law.go:104", after := #[{ on := 0, ground := Ground.data }, { on := 1, ground := Ground.data }], guard := none } : Oper)) (v := ?hv64) rfl (by kernel_rfl) (by kernel_rfl) (by kernel_rfl) (fun _ _ _ h => h) (Or.inl ⟨by rfl, ?hy64⟩) (by assumption) ?hr64
            case hy64 => (intro w hSw; (try dsimp only at hSw); go_simp; (try with_reducible rfl))
            try simp only [Act.put, List.setIfInBounds_toArray, List.set_cons_zero, List.set_cons_succ]
            refine wpAnyH_take (i := 3) (oi := ({ dst := some 103, op := Op.fieldAddr 50 (Operand.tmp 102) 1, type := 0, pos := "law.go:104", after := #[{ on := 2, ground := Ground.data }], guard := none } : Oper)) (v := ?hv65) rfl (by kernel_rfl) (by kernel_rfl) (by kernel_rfl) (fun _ _ _ h => h) (Or.inl ⟨by rfl, ?hy65⟩) (by assumption) ?hr65
            case hy65 => (intro w hSw; (try dsimp only at hSw); go_simp; (try with_reducible rfl))
            try simp only [Act.put, List.setIfInBounds_toArray, List.set_cons_zero, List.set_cons_succ]
            refine wpAnyH_take (i := 4) (oi := ({ dst := some 104, op := Op.load 26 (Operand.tmp 103), type := 26, pos := "law.go:104", after := #[{ on := 3, ground := Ground.data }], guard := none } : Oper)) (v := .agg #[.string us, .string id]) rfl (by kernel_rfl) (by kernel_rfl) (by kernel_rfl) (fun _ _ _ h => h) (yieldsIf_load_mid (by rfl) 26 _ rfl b (off + k * 3 + 1) rfl [.string us, .string id] _ (fun w0 hw0 => rg_tail (rg_below HR0.out hb0 (B8.out.trans (hw0.mono B8.out.size)))) Try.underlying26 rfl size26) (by assumption) ?_
            try simp only [Act.put, List.setIfInBounds_toArray, List.set_cons_zero, List.set_cons_succ]
            refine wpAnyH_take (i := 5) (oi := ({ dst := some 105, op := Op.load 26 (Operand.tmp 3), type := 26, pos := "law.go:104", after := #[], guard := none } : Oper)) (v := .agg #[.string yu, .string zd]) rfl (by kernel_rfl) (by kernel_rfl) (by kernel_rfl) (fun _ _ _ h => h) (yieldsIf_load_mid (by rfl) 26 _ rfl w.heap.size 0 rfl [.string yu, .string zd] _ (fun w0 hw0 => (V8.out.below hw0).range) Try.underlying26 rfl size26) (by assumption) ?_
            try simp only [Act.put, List.setIfInBounds_toArray, List.set_cons_zero, List.set_cons_succ]
            refine wpAnyH_take (i := 6) (oi := ({ dst := some 106, op := Op.binOp BinOp.eql 26 (Operand.tmp 104) (Operand.tmp 105) 26, type := 4, pos := "law.go:104", after := #[{ on := 4, ground := Ground.data }, { on := 5, ground := Ground.data }], guard := none } : Oper)) (v := ?hv66) rfl (by kernel_rfl) (by kernel_rfl) (by kernel_rfl) (fun _ _ _ h => h) (Or.inl ⟨by rfl, ?hy66⟩) (by assumption) ?hr66
            case hy66 => (intro w hSw; (try dsimp only at hSw); go_simp; (try with_reducible rfl))
            try simp only [Act.put, List.setIfInBounds_toArray, List.set_cons_zero, List.set_cons_succ]
            refine wpAnyH_done (by kernel_rfl) ?_ _
            go_wp2
            go_roundg (n - (k + 1))
            case measure => omega
            case rel => exact ⟨k + 1, nx, l2, AG, cG, by omega, by omega, rfl, by rw [HFy.out], by go_num, by omega, by omega, Lib.hid (by have := HLn.out; have := HL2.out; omega), HP2, Lib.hid (X8.out.below RB9.out), Lib.hid (R8.out.below RB9.out), Lib.hid (B8.out.trans (RB9.out.mono B8.out.size)), Lib.hid (V8.out.below RB9.out)⟩
    · have hltz : ¬ (k : Int) < (n : Int) := by omega
      obtain rfl : k = n := by omega
      have HRd := Lib.hid (fun (i : Int) (q : Bool) (hq : rdB l nx yu zd i = q) y (hb : Below wr.heap.size wr y) => reads13b' 1 xR nx A1 c1 l yu zd i q hq y (R.out.below hb))
      have HRf := Lib.hid (fun i => rd_fr (u := yu) (d := zd) HP.out nx i)
      generalize frL yu zd l = fr at HRf ⊢
      go_wp2
      obtain ⟨wo, rfl⟩ : ∃ x : World, x = wr := ⟨_, rfl⟩
      go_loopg [15] (k + 2) (fun gg s15 wr => ∃ (j : Nat), (j : Int) - 1 ≤ nx + 1 ∧ k + 2 - j ≤ gg ∧ s15 = .int .i64 ((j : Int) - 1) ∧ Hid (Below wo.heap.size wo wr))
      case atStart => exact ⟨0, by omega, by omega, by go_num, Lib.hid (Below.refl _ _)⟩
      case round =>
        clear d0 d1
        obtain ⟨j, hj, hgj, rfl, BY⟩ := hrel
        obtain ⟨i, hi⟩ : ∃ i : Int, (j : Int) - 1 = i := ⟨_, rfl⟩
        have hji : (j : Int) = i + 1 := by omega
        have VY := Lib.hid (V.out.below BY.out)
        have XY := Lib.hid (X.out.below BY.out)
        have d0 := VY.out.cell (i := 0) rfl
        have d1 := VY.out.cell (i := 1) rfl
        have HJ := Lib.hid hji
        have hi0 : -1 ≤ i := by omega
        rw [hi] at hj ⊢
        clear hi hji
        by_cases hle : i ≤ nx
        · have HW := Lib.hid (HRd.out i _ (HRf.out i) wr BY.out)
          by_cases g1 : (0 : Int) ≤ fr
          · by_cases g2 : fr ≤ i
            · by_cases g3 : i < nx
              · rw [decide_eq_true g1, decide_eq_true g2, decide_eq_true g3] at HW
                try simp only [Bool.and_self, Bool.and_false, Bool.and_true, Bool.true_and] at HW
                go_wp2_with (first
                  | (refine wpList_load_mid rfl 24 _ rfl b5 0 rfl (sC 1 xR nx A1 l.length c1) _ XY.out.range Try.underlying24 rfl size24 ?_)
                  | (go_at_call 13; (with_reducible refine HW.out.mono ?_); rintro e w3 ⟨rfl, hb⟩; have B3 := Lib.hid (BY.out.trans (hb.mono BY.out.size)); clear hb d0 d1)
                  | fail)
                go_roundg (k + 2 - (j + 1))
                case measure => have := HJ.out; omega
                case rel => exact ⟨j + 1, by have := HJ.out; omega, by omega, by have := HJ.out; exact congrArg (Value.int .i64) (by omega), B3⟩
              · rw [decide_eq_true g1, decide_eq_true g2, decide_eq_false g3] at HW
                try simp only [Bool.and_self, Bool.and_false, Bool.and_true, Bool.true_and] at HW
                go_wp2_with (first
                  | (refine wpList_load_mid rfl 24 _ rfl b5 0 rfl (sC 1 xR nx A1 l.length c1) _ XY.out.range Try.underlying24 rfl size24 ?_)
                  | (go_at_call 13; (with_reducible refine HW.out.mono ?_); rintro e w3 ⟨rfl, hb⟩; have B3 := Lib.hid (BY.out.trans (hb.mono BY.out.size)); clear hb d0 d1)
                  | fail)
                go_roundg (k + 2 - (j + 1))
                case measure => have := HJ.out; omega
                case rel => exact ⟨j + 1, by have := HJ.out; omega, by omega, by have := HJ.out; exact congrArg (Value.int .i64) (by omega), B3⟩
            · rw [decide_eq_true g1, decide_eq_false g2, Bool.and_false, Bool.false_and] at HW
              try simp only [Bool.and_self, Bool.and_false, Bool.and_true, Bool.true_and] at HW
              go_wp2_with (first
                | (refine wpList_load_mid rfl 24 _ rfl b5 0 rfl (sC 1 xR nx A1 l.length c1) _ XY.out.range Try.underlying24 rfl size24 ?_)
                | (go_at_call 13; (with_reducible refine HW.out.mono ?_); rintro e w3 ⟨rfl, hb⟩; have B3 := Lib.hid (BY.out.trans (hb.mono BY.out.size)); clear hb d0 d1)
                | fail)
              go_roundg (k + 2 - (j + 1))
              case measure => have := HJ.out; omega
              case rel => exact ⟨j + 1, by have := HJ.out; omega, by omega, by have := HJ.out; exact congrArg (Value.int .i64) (by omega), B3⟩
          · rw [decide_eq_false g1, Bool.false_and, Bool.false_and] at HW
            try simp only [Bool.and_self, Bool.and_false, Bool.and_true, Bool.true_and] at HW
            go_wp2_with (first
              | (refine wpList_load_mid rfl 24 _ rfl b5 0 rfl (sC 1 xR nx A1 l.length c1) _ XY.out.range Try.underlying24 rfl size24 ?_)
              | (go_at_call 13; (with_reducible refine HW.out.mono ?_); rintro e w3 ⟨rfl, hb⟩; have B3 := Lib.hid (BY.out.trans (hb.mono BY.out.size)); clear hb d0 d1)
              | fail)
            go_roundg (k + 2 - (j + 1))
            case measure => have := HJ.out; omega
            case rel => exact ⟨j + 1, by have := HJ.out; omega, by omega, by have := HJ.out; exact congrArg (Value.int .i64) (by omega), B3⟩
        · go_wp2_with (first
            | (go_at_call 15; (with_reducible refine (live15 _).mono ?_); rintro e w9 ⟨rfl, hb⟩; have B9 := Lib.hid hb; clear hb)
            | fail)
          go_ret
          exact ⟨rfl, (BX.out.trans (BY.out.mono BX.out.size)).trans (B9.out.mono (BX.out.trans (BY.out.mono BX.out.size)).size)⟩
end Go.Proofs.Ytbkchcpfnoclhaa
