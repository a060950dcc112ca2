/- The walk of TrustGrows. Condition: the listed table. -/
import Derived.Test.YtaaaeeljjfblnaaDoorW9
import Derived.SliceStrings
namespace Go.Proofs.YtaaaeeljjfblnaaDoor
open Go.RowKit
set_option linter.unusedVariables false
set_option linter.unusedSimpArgs false
set_option maxRecDepth 100000

theorem bytes_eq {a b : ByteArray} (h : (a.toList == b.toList) = true) : a = b := by
  rw [beq_iff_eq, Lib.toList_data, Lib.toList_data] at h
  exact ByteArray.ext (Array.ext' h)
theorem store_mid_as {P : Program} {ops : Array Oper} {rest : List Oper} {op : Oper} {a : Act} {w : World} {Q : Exit → Act → World → Prop} (hgd : op.guard = none) (ty : TypeId) (x y : Operand) (ho : op.op = .store ty x y)
    (b o : Nat) (cells : Array Value) (hx : a.eval x = .pointer (some ⟨b, o, none⟩)) (hy : a.eval y = .agg cells)
    (ht : w.there b o cells.size) (hi : (P.info? ty).map (·.size) = some cells.size) (h1 : cells.all (·.oneCell') = true)
    (h : ∀ w4, w4 = w.setCells b o cells.toList → wpList P ops Q rest (a.put op.dst undef) w4) : wpList P ops Q (op :: rest) a w :=
  wpList_store_mid hgd ty x y ho b o cells hx hy ht hi h1 (h _ rfl)
abbrev zC : List Value := [.string ⟨#[]⟩, .int .i64 0, .int .i64 0, .slice none 0 0, .string ⟨#[]⟩, .int .i64 0, .int .i64 0, .slice none 0 0, .string ⟨#[]⟩, .slice none 0 0, .slice none 0 0, .bool false]
def more (c : Cs) (A : Option Addr) (n k : Nat) (l : List Int) : Cs := { c with vA := A, vn := n, vc := k, ver := l }
def less (c : Cs) (A : Option Addr) (n k : Nat) (x : ByteArray) : Cs := { c with bA := A, bn := n, bc := k, blk := c.blk ++ [⟨x⟩] }
theorem src_nm {w : World} {g : Nat} {x : ByteArray} (h : Blk w g [.string x] 9) : Src w (some ⟨g, 0, none⟩) 1 1 1 (T.cl [⟨x⟩]) :=
  ⟨rfl, (fun e => by cases e), .inr ⟨g, 0, rfl, h.lt, fun j u hu => by rw [Nat.zero_add]; exact h.cell (by simpa [T.cl, T.enc] using hu)⟩, T.cl_one _⟩
theorem hs_vf {zs : List Int} {m x : Int} (h : Q.hsB zs x = true) : Q.hsB (vf zs m) x = true := by
  unfold Q.hsB at h ⊢
  rw [List.contains_iff_mem] at h ⊢
  unfold vf
  split
  · exact (Q.M.mem_st zs x).2 h
  · exact (Q.M.mem_st _ x).2 (List.mem_append_left _ h)
theorem hs_app {zs : List T.Rc} {x y : ByteArray} (h : hsT zs x = true) : hsT (zs ++ [⟨y⟩]) x = true := by
  unfold hsT at h ⊢
  rw [List.any_append, h]; rfl
theorem hs_last (zs : List T.Rc) (y : ByteArray) : hsT (zs ++ [⟨y⟩]) y = true := by
  unfold hsT
  rw [List.any_append]
  have : eqB y y = true := by unfold eqB; exact beq_self_eq_true _
  simp [this]
set_option maxHeartbeats 2000000 in
theorem unionN25 (A : Option Addr) (n c : Nat) (zs : List Int) (A' : Option Addr) (n' c' : Nat) (ys : List Int) (w : World) (h : Q.Ints w A n c zs) (h' : Q.Ints w A' n' c' ys) (hn : n ≤ 1000) (hn' : n' ≤ 1000) :
    Calls Tryd.prog 25 #[.slice A n c, .slice A' n' c'] w (Q.IntsN w (Q.M.st (zs ++ ys))) := by
  have HBA := Lib.hid (Below.alloc (Below.refl w.heap.size w) (Nat.le_refl _) (.cells #[.slice A n c, .slice A' n' c'] 25))
  have C := Lib.hid (Q.concat_any w.heap.size A n c zs A' n' c' ys _ (h.below HBA.out) (h'.below HBA.out) hn hn' (Q.two_new w A n c A' n' c'))
  generalize zs ++ ys = l at *
  clear h h'
  go_enter Tryd.func25, Tryd.ntmps25
  go_wp2_with (first
    | (go_at_call 33; refine C.out.mono ?_; rintro e w1 ⟨A2, c2, rfl, hi, hb⟩; have HI2 := Lib.hid hi; have HB2 := Lib.hid (HBA.out.trans (hb.mono HBA.out.size)); clear hi hb)
    | (go_at_call 24; refine (Q.sortedN_any A2 _ c2 l _ HI2.out).mono ?_; rintro e w3 ⟨A3, c3, rfl, hi, hb, hn⟩; have HN3 := Lib.hid hn; have HI3 := Lib.hid hi; have HB3 := Lib.hid (HB2.out.trans (hb.mono HB2.out.size)); clear hi hb))
  go_ret
  exact ⟨A3, c3, rfl, HI3.out, HB3.out, fun b off e => Nat.le_trans HB2.out.size (HN3.out b off e)⟩
set_option maxHeartbeats 2000000 in
theorem verifyN12 (A : Option Addr) (n c : Nat) (zs : List Int) (m : Int) (w : World) (h : Q.Ints w A n c zs) (hn : n ≤ 1000) : Calls Tryd.prog 12 #[.slice A n c, .int .i64 m] w (Q.IntsN w (vf zs m)) := by
  by_cases hm : m ≤ 0
  · have C := Lib.hid (Q.sortedN_any A n c zs w h)
    have e : vf zs m = Q.M.st zs := if_pos hm
    rw [e]
    clear e h
    generalize Q.M.st zs = l at *
    go_enter Tryd.func12, Tryd.ntmps12
    go_wp2_with (go_at_call 24; refine C.out.mono ?_; rintro e w1 ⟨A1, c1, rfl, hi, hb, hn1⟩; have HI := Lib.hid hi; have HB := Lib.hid hb; have HN := Lib.hid hn1; clear hi hb hn1)
    go_ret
    exact ⟨A1, c1, rfl, HI.out, HB.out, HN.out⟩
  · have B0 := Lib.hid ((Below.refl w.heap.size w).alloc (Nat.le_refl _) (.cells #[.int .i64 m] 3))
    have C := Lib.hid (unionN25 A n c zs (some ⟨w.heap.size, 0, none⟩) 1 1 [m] _ (h.below B0.out) (ints_one w m) hn (by omega))
    have e : vf zs m = Q.M.st (zs ++ [m]) := if_neg hm
    rw [e]
    clear e h
    generalize Q.M.st (zs ++ [m]) = l at *
    go_enter Tryd.func12, Tryd.ntmps12
    go_wp2_with (go_at_call 25; refine C.out.mono ?_; rintro e w1 ⟨A1, c1, rfl, hi, hb, hn1⟩; have HI := Lib.hid hi; have HB := Lib.hid (B0.out.trans (hb.mono B0.out.size)); have HN := Lib.hid hn1; clear hi hb hn1)
    go_ret
    exact ⟨A1, c1, rfl, HI.out, HB.out, fun b off e => Nat.le_trans B0.out.size (HN.out b off e)⟩
theorem ints_apart {w : World} {A : Option Addr} {n c : Nat} {zs : List Int} {g i : Nat} {cs : List Value} {v : Value} (h : Q.Ints w A n c zs) (hb : Blk w g cs 28) (hne : ∀ b off, A = some ⟨b, off, none⟩ → b ≠ g) : Q.Ints (w.setCell ⟨g, i, none⟩ v) A n c zs := by
  refine ⟨h.len, h.cap, h.big, h.nil, ?_⟩
  rcases h.at_ with h0 | ⟨b, off, e, hlt, hc⟩
  · exact .inl h0
  · rcases Nat.eq_zero_or_pos n with h1 | h1
    · exact .inl h1
    · refine .inr ⟨b, off, e, by simpa [World.setCell] using hlt, fun k hk => ?_⟩
      rw [World.cell?_of_block (a := ⟨b, off + k, none⟩) (heap_setCell_other w ⟨g, i, none⟩ b v (hne b off e))]
      exact hc k hk
theorem tr_more {c c' : Cs} (hv : ∀ x, Q.hsB c.ver x = true → Q.hsB c'.ver x = true) (ho : c'.o = c.o := by rfl) (ht : c'.t = c.t := by rfl) (hd : c'.dev = c.dev := by rfl) (hb : c'.blk = c.blk := by rfl) : trC c ≤ trC c' := by
  unfold trC tr rl
  rw [ho, ht, hd, hb]
  cases plD c.t.D c.dev c.t.n with
  | none => exact Int.le_refl _
  | some k =>
    simp only []
    split
    · exact Int.le_refl _
    split
    · exact Int.le_refl _
    split
    · exact Int.le_refl _
    by_cases h : Q.hsB c.ver c.t.ms = true
    · rw [if_pos h, if_pos (hv _ h)]; exact Int.le_refl _
    · rw [if_neg h]
      by_cases h2 : Q.hsB c'.ver c.t.ms = true
      · rw [if_pos h2]
        split
        · exact Int.le_refl _
        · show (2 : Int) ≤ 3; omega
      · rw [if_neg h2]; exact Int.le_refl _
theorem tr_less {c c' : Cs} (hv : ∀ x, hsT c.blk x = true → hsT c'.blk x = true) (ho : c'.o = c.o := by rfl) (ht : c'.t = c.t := by rfl) (hd : c'.dev = c.dev := by rfl) (hb : c'.ver = c.ver := by rfl) : trC c' ≤ trC c := by
  have hc := tr_cases c.o c.t c.dev c.ver c.blk
  unfold trC
  unfold trC tr rl at *
  rw [ho, ht, hd, hb]
  cases hp : plD c.t.D c.dev c.t.n with
  | none => exact Int.le_refl _
  | some k =>
    rw [hp] at hc
    simp only [] at hc ⊢
    by_cases h : hsT c.blk (nmB c.t.us c.dev) = true
    · rw [if_pos h, if_pos (hv _ h)]; exact Int.le_refl _
    · by_cases h2 : hsT c'.blk (nmB c.t.us c.dev) = true
      · rw [if_pos h2]
        show (0 : Int) ≤ _
        rcases hc with h3 | h3 | h3 | h3 <;> rw [h3] <;> omega
      · rw [if_neg h2, if_neg h]; exact Int.le_refl _
theorem tr_blk {c : Cs} (h : hsT c.blk (nmB c.t.us c.dev) = true) : trC c = 0 := by
  unfold trC tr rl
  cases plD c.t.D c.dev c.t.n with
  | none => rfl
  | some k => simp only []; rw [if_pos h]; rfl
set_option maxHeartbeats 32000000 in
theorem grows6 (c : Cs) (m : Int) (user : ByteArray) (w : World) (h : RawC w c) (hT : An w) (hu : user.size ≤ 9223372036854775807) : Calls Tryd.prog 6 #[.agg (cellsC c).toArray, .int .i64 m, .string user] w fun e w' => e = .returned (.bool true) ∧ Below w.heap.size w w' := by
  have B0 := Lib.hid ((Below.refl w.heap.size w).alloc (Nat.le_refl _) (.cells (cellsC c).toArray 28))
  have X0 := Lib.hid (blk_new w (cellsC c) 28)
  have C7 := Lib.hid (small7 c _ (h.below B0.out))
  have HR := Lib.hid h
  have HT := Lib.hid hT
  have LV := Lib.hid (fun u (hu : Below w.heap.size w u) => lives_any u (hT.below hu))
  obtain ⟨i0, hi, hz0, hz1, hz2⟩ := info_parts info9s
  have HI := Lib.hid (And.intro hi (And.intro hz0 (And.intro hz1 hz2)))
  clear h hT hi hz0 hz1 hz2
  show Calls Tryd.prog 6 #[.agg #[.string c.o.us, .int .i64 c.o.ms, .int .i64 c.o.ps, .slice c.o.A c.o.n c.o.c, .string c.t.us, .int .i64 c.t.ms, .int .i64 c.t.ps, .slice c.t.A c.t.n c.t.c, .string c.dev, .slice c.vA c.vn c.vc, .slice c.bA c.bn c.bc, .bool c.s], .int .i64 m, .string user] w _
  by_cases hus : 100 < user.size
  · have hus2 : (100 : Int) < (user.size : Int) := by omega
    go_enter Tryd.func6, Tryd.ntmps6
    go_wp2_with (first
    | (refine wpList_load_mid rfl 28 _ rfl w.heap.size 0 rfl (cellsC c) _ X0.out.range Tryd.underlying28 rfl size28 ?_)
    | (go_at_call 7; (with_reducible refine C7.out.mono ?_); rintro e w1 ⟨⟨q, rfl, hq⟩, hb1⟩; have HQ := Lib.hid hq; have B1 := Lib.hid (B0.out.trans (hb1.mono B0.out.size)); have X1 := Lib.hid (X0.out.below hb1); clear hq hb1; cases q)
    | (go_at_call 8; (with_reducible refine (LV.out _ B1.out).mono ?_); rintro e w2 ⟨rfl, hb2⟩; have B2 := Lib.hid (B1.out.trans (hb2.mono B1.out.size)); clear hb2))
    all_goals go_ret
    all_goals exact ⟨rfl, B2.out⟩
  have hus2 : ¬ (100 : Int) < (user.size : Int) := by omega
  go_enter Tryd.func6, Tryd.ntmps6
  go_upto_region 3 with (first
    | (refine wpList_load_mid rfl 28 _ rfl w.heap.size 0 rfl (cellsC c) _ X0.out.range Tryd.underlying28 rfl size28 ?_)
    | (go_at_call 7; (with_reducible refine C7.out.mono ?_); rintro e w1 ⟨⟨q, rfl, hq⟩, hb1⟩; have HQ := Lib.hid hq; have B1 := Lib.hid (B0.out.trans (hb1.mono B0.out.size)); have X1 := Lib.hid (X0.out.below hb1); clear hq hb1; cases q)
    | (go_at_call 8; (with_reducible refine (LV.out _ B1.out).mono ?_); rintro e w2 ⟨rfl, hb2⟩; have B2 := Lib.hid (B1.out.trans (hb2.mono B1.out.size)); clear hb2))
  all_goals first
    | (go_ret; exact ⟨rfl, B2.out⟩)
    | skip
  have hS := HQ.out (by trivial)
  have C9 := Lib.hid (HR.out.of hS HT.out B1.out)
  go_upto_region 6 with (first
    | (refine wpList_load_mid rfl 28 _ rfl w.heap.size 0 rfl (cellsC c) _ X1.out.range Tryd.underlying28 rfl size28 ?_)
    | (go_at_call 9; (with_reducible refine C9.out.mono ?_); rintro e w2 ⟨rfl, hb2⟩; have B2 := Lib.hid (B1.out.trans (hb2.mono B1.out.size)); have X2 := Lib.hid (X1.out.below hb2); clear hb2 X1)
    | (refine wpList_load_mid rfl 28 _ rfl w.heap.size 0 rfl (cellsC c) _ X2.out.range Tryd.underlying28 rfl size28 ?_)
    | (refine store_mid_as rfl 28 _ _ rfl w2.heap.size 0 (cellsC c).toArray rfl rfl (Blk.there (n := 12) (blk_new w2 zC 28) (by decide)) size28 (by simp [Value.oneCell']) ?_; intro w3 e3; have M3 : Hid (Blk w3 w2.heap.size (cellsC c) 28) := Lib.hid (by rw [e3]; exact (blk_new w2 zC 28).setAll _ rfl); have Q3 : Hid (Below w2.heap.size w2 w3) := Lib.hid (by rw [e3]; exact below_setAll (Nat.le_refl _) _ _ _ ((Below.refl _ w2).alloc (Nat.le_refl _) _)); clear e3; have B3 := Lib.hid (B2.out.trans (Q3.out.mono B2.out.size)); have X3 := Lib.hid (X2.out.below Q3.out); have x9 := X3.out.cell (i := 9) rfl)
    | (go_at_call 12; (with_reducible refine (verifyN12 c.vA c.vn c.vc c.ver m _ ((HR.out.ints (by have := hS.vn; omega)).below B3.out) (by have := hS.vn; omega)).mono ?_); rintro e w4 ⟨Am, cm, rfl, hi4, hb4, hn4⟩; have HNw := Lib.hid hn4; clear hn4; have B4 := Lib.hid (B3.out.trans (hb4.mono B3.out.size)); have X4 := Lib.hid (X3.out.below hb4); have M4 := Lib.hid (M3.out.below hb4); have I4 := Lib.hid hi4; have HXM := Lib.hid X3.out.lt; have HML := Lib.hid M3.out.lt; have HAm := Lib.hid hb4.size; have z9 := M4.out.free 9; clear x9; have i9 := M4.out.cell (i := 9) rfl; clear hi4 hb4))
  generalize hn9 : (vf c.ver m).length = n9 at *
  have HN9 := Lib.hid hn9
  clear hn9 z9 i9
  have M5 : Hid (Blk (w4.setCell ⟨w2.heap.size, 9, none⟩ (.slice Am n9 cm)) w2.heap.size (cellsC (more c Am n9 cm (vf c.ver m))) 28) := Lib.hid (M4.out.set 9 _)
  have X5 : Hid (Blk (w4.setCell ⟨w2.heap.size, 9, none⟩ (.slice Am n9 cm)) w.heap.size (cellsC c) 28) := Lib.hid (X4.out.other _ _ (by have := X2.out.lt; simp only [ne_eq]; omega))
  have B5 : Hid (Below w.heap.size w (w4.setCell ⟨w2.heap.size, 9, none⟩ (.slice Am n9 cm))) := Lib.hid (B4.out.setCell (p := ⟨w2.heap.size, 9, none⟩) B2.out.size _)
  have I5 : Hid (Q.Ints (w4.setCell ⟨w2.heap.size, 9, none⟩ (.slice Am n9 cm)) Am n9 cm (vf c.ver m)) := Lib.hid (ints_apart I4.out M4.out (fun b off e => by have h1 := HNw.out b off e; have h2 := HML.out; omega))
  clear M4 X4 B4 I4 X2 X3 M3 Q3 C9
  generalize w4.setCell ⟨w2.heap.size, 9, none⟩ (.slice Am n9 cm) = w5 at *
  go_upto_region 7 with (first
    | (refine wpList_load_mid rfl 28 _ rfl w.heap.size 0 rfl (cellsC c) _ X5.out.range Tryd.underlying28 rfl size28 ?_)
    | (refine store_mid_as rfl 28 _ _ rfl w5.heap.size 0 (cellsC c).toArray rfl rfl (Blk.there (n := 12) (blk_new w5 zC 28) (by decide)) size28 (by simp [Value.oneCell']) ?_; intro w6 e6; have L6 : Hid (Blk w6 w5.heap.size (cellsC c) 28) := Lib.hid (by rw [e6]; exact (blk_new w5 zC 28).setAll _ rfl); have B6 : Hid (Below w5.heap.size w5 w6) := Lib.hid (by rw [e6]; exact below_setAll (Nat.le_refl _) _ _ _ ((Below.refl _ w5).alloc (Nat.le_refl _) _)); clear e6))
  have HBk := Lib.hid (HR.out.b.below (B5.out.trans (B6.out.mono B5.out.size)))
  have HBl := Lib.hid HR.out.b.len
  have hbn : c.bn ≤ 60 := hS.bn
  have hud : c.dev.size ≤ 100 := hS.ud
  have X8 : Hid (Blk w5 w.heap.size (cellsC c) 28) := X5
  have HFit : Hid (∀ p ∈ c.blk ++ [⟨nmB user c.dev⟩], T.fitR p) := Lib.hid (fun p hp => by
    rcases List.mem_append.1 hp with h1 | h1
    · exact HR.out.b.fit p h1
    · rw [List.mem_singleton] at h1
      subst h1
      show (user ++ ⟨#[47]⟩ ++ c.dev).size ≤ 9223372036854775807
      rw [ByteArray.size_append, ByteArray.size_append]
      show user.size + 1 + c.dev.size ≤ _
      omega)
  have hs1 : ¬ 9223372036854775807 < user.size + 1 := by omega
  have hs2 : ¬ 9223372036854775807 < user.size + 1 + c.dev.size := by omega
  refine wp_region_held_drew (S := (fun w0 => Below w5.heap.size w5 w0)) (by kernel_rfl) (B6.out.drew) (fun hH0 => ?_)
  generalize hyz : w6.drew = y0 at hH0 ⊢
  have RB0 : Hid (Below w6.heap.size w6 y0) := Lib.hid (by rw [← hyz]; exact (Below.refl _ _).drew)
  clear hyz
  refine wpAnyH_take (i := 1) (oi := ({ dst := some 29, op := Op.fieldAddr 28 (Operand.tmp 3) 4, type := 0, pos := "law.go:114", after := #[], guard := none } : Oper)) (v := ?hv1) rfl (by kernel_rfl) (by kernel_rfl) (by kernel_rfl) (fun _ _ _ h => h) (Or.inl ⟨by rfl, ?hy1⟩) (by assumption) ?hr1
  case hy1 => (intro w hSw; (try dsimp only at hSw); go_simp; (try with_reducible rfl))
  try simp only [Act.put, List.setIfInBounds_toArray, List.set_cons_zero, List.set_cons_succ]
  refine wpAnyH_take (i := 2) (oi := ({ dst := some 30, op := Op.load 26 (Operand.tmp 29), type := 26, pos := "law.go:114", after := #[{ on := 1, ground := Ground.data }], guard := none } : Oper)) (v := .slice c.bA c.bn c.bc) rfl (by kernel_rfl) (by kernel_rfl) (by kernel_rfl) (fun _ _ _ h => h) (Or.inl ⟨by rfl, fun w0 hw0 => by have q0 := (X5.out.below hw0).cell (i := 10) rfl; go_simp⟩) (by assumption) ?_
  try simp only [Act.put, List.setIfInBounds_toArray, List.set_cons_zero, List.set_cons_succ]
  refine wpAnyH_take (i := 4) (oi := ({ dst := some 32, op := Op.move (Operand.tmp 2), type := 9, pos := "law.go:114", after := #[], guard := none } : Oper)) (v := ?hv2) rfl (by kernel_rfl) (by kernel_rfl) (by kernel_rfl) (fun _ _ _ h => h) (Or.inl ⟨by rfl, ?hy2⟩) (by assumption) ?hr2
  case hy2 => (intro w hSw; (try dsimp only at hSw); go_simp; (try with_reducible rfl))
  try simp only [Act.put, List.setIfInBounds_toArray, List.set_cons_zero, List.set_cons_succ]
  refine wpAnyH_take (i := 5) (oi := ({ dst := some 33, op := Op.binOp BinOp.add 9 (Operand.tmp 32) (Operand.const (Value.string { data := #[47] })) 9, type := 9, pos := "law.go:114", after := #[{ on := 4, ground := Ground.data }], guard := none } : Oper)) (v := ?hv3) rfl (by kernel_rfl) (by kernel_rfl) (by kernel_rfl) (fun _ _ _ h => h) (Or.inl ⟨by rfl, ?hy3⟩) (by assumption) ?hr3
  case hy3 => (intro w hSw; (try dsimp only at hSw); go_simp; (try with_reducible rfl))
  try simp only [Act.put, List.setIfInBounds_toArray, List.set_cons_zero, List.set_cons_succ]
  refine wpAnyH_take (i := 6) (oi := ({ dst := some 34, op := Op.fieldAddr 28 (Operand.tmp 3) 2, type := 0, pos := "law.go:114", after := #[], guard := none } : Oper)) (v := ?hv4) rfl (by kernel_rfl) (by kernel_rfl) (by kernel_rfl) (fun _ _ _ h => h) (Or.inl ⟨by rfl, ?hy4⟩) (by assumption) ?hr4
  case hy4 => (intro w hSw; (try dsimp only at hSw); go_simp; (try with_reducible rfl))
  try simp only [Act.put, List.setIfInBounds_toArray, List.set_cons_zero, List.set_cons_succ]
  refine wpAnyH_take (i := 7) (oi := ({ dst := some 35, op := Op.load 9 (Operand.tmp 34), type := 9, pos := "law.go:114", after := #[{ on := 6, ground := Ground.data }], guard := none } : Oper)) (v := .string c.dev) rfl (by kernel_rfl) (by kernel_rfl) (by kernel_rfl) (fun _ _ _ h => h) (Or.inl ⟨by rfl, fun w0 hw0 => by have q0 := (X5.out.below hw0).cell (i := 8) rfl; go_simp⟩) (by assumption) ?_
  try simp only [Act.put, List.setIfInBounds_toArray, List.set_cons_zero, List.set_cons_succ]
  refine wpAnyH_take (i := 8) (oi := ({ dst := some 36, op := Op.binOp BinOp.add 9 (Operand.tmp 33) (Operand.tmp 35) 9, type := 9, pos := "law.go:114", after := #[{ on := 5, ground := Ground.data }, { on := 7, ground := Ground.data }], guard := none } : Oper)) (v := ?hv5) rfl (by kernel_rfl) (by kernel_rfl) (by kernel_rfl) (fun _ _ _ h => h) (Or.inl ⟨by rfl, ?hy5⟩) (by assumption) ?hr5
  case hy5 => (intro w hSw; (try dsimp only at hSw); go_simp; (try with_reducible rfl))
  try simp only [Act.put, List.setIfInBounds_toArray, List.set_cons_zero, List.set_cons_succ]
  refine wpAnyH_ready (rs := [0, 9]) (by kernel_rfl) (by simp) ?_
  refine AllReadyH.cons (o := ({ dst := some 28, op := Op.buildSlice 26 0 #[], type := 26, pos := "law.go:114", after := #[], guard := none } : Oper)) rfl (fun KK hKK => ?_) ?_
  · go_simp
    generalize hy1 : World.alloc _ _ = y1
    generalize hg0 : (World.heap y0).size = q0
    have HB1 : Hid (Below y0.heap.size y0 y1) := Lib.hid (by rw [← hy1]; exact (Below.refl _ _).alloc (Nat.le_refl _) _)
    have RB1 := Lib.hid (RB0.out.trans (HB1.out.mono RB0.out.size))
    have RO : Hid (y1.ownsRow w6.heap.size 9 1 (.slice (some ⟨q0, 0, none⟩) 0 0) 0 (T.cl [])) := Lib.hid (by rw [← hy1, ← hg0]; exact World.ownsRow_made (base := w6.heap.size) (e := 9) (size := 1) _ #[] 0 RB0.out.size (by decide) (by simp))
    clear hy1 hg0
    refine hKK.out _ _ (B6.out.trans (RB1.out.mono B6.out.size)) (fun hH1 => ?_)
    clear hKK KK
    try simp only [Act.put, List.setIfInBounds_toArray, List.set_cons_zero, List.set_cons_succ]
    refine wpAnyH_ready (rs := [3, 9]) (by kernel_rfl) (by simp) ?_
    refine AllReadyH.cons (o := ({ dst := some 31, op := Op.call { callee := Callee.builtin Builtin.append, args := #[Operand.tmp 28, Operand.tmp 30], argTypes := #[26, 26] }, type := 26, pos := "law.go:114", after := #[{ on := 0, ground := Ground.data }, { on := 2, ground := Ground.data }], guard := none } : Oper)) rfl (fun KK hKK => ?_) ?_
    · have RS := Lib.hid ((HBk.out.below RB1.out).src)
      refine step_append_any _ rfl (.tmp 28) (.tmp 30) 26 rfl w6.heap.size 9 i0 _ 1 16 Tryd.underlying26 HI.out.1 HI.out.2.1 HI.out.2.2.1 HI.out.2.2.2 rfl (by decide) (.slice (some ⟨q0, 0, none⟩) 0 0) 0 (T.cl []) rfl RO.out c.bA c.bn c.bc (T.cl c.blk) rfl RS.out (by unfold maxLen; omega) (by omega) RB1.out.size ?_
      intro v3 y2 hgr
      have RB2 : Hid (Below w6.heap.size w6 y2) := Lib.hid (hgr.below RB1.out RO.out)
      have RV := Lib.hid hgr.own
      clear hgr
      refine hKK.out _ _ (B6.out.trans (RB2.out.mono B6.out.size)) (fun hH2 => ?_)
      clear hKK KK
      try simp only [Act.put, List.setIfInBounds_toArray, List.set_cons_zero, List.set_cons_succ]
      refine wpAnyH_ready (rs := [9]) (by kernel_rfl) (by simp) ?_
      refine AllReadyH.cons (o := ({ dst := some 37, op := Op.buildSlice 26 1 #[(0, Operand.tmp 36)], type := 26, pos := "law.go:114", after := #[{ on := 8, ground := Ground.data }], guard := none } : Oper)) rfl (fun KK hKK => ?_) AllReadyH.nil
      go_simp
      generalize hy3 : World.alloc _ _ = y3
      generalize hg9 : (World.heap y2).size = q9
      have HB3 : Hid (Below y2.heap.size y2 y3) := Lib.hid (by rw [← hy3]; exact (Below.refl _ _).alloc (Nat.le_refl _) _)
      have RB3 := Lib.hid (RB2.out.trans (HB3.out.mono RB2.out.size))
      have RG : Hid (Blk y3 q9 [.string (nmB user c.dev)] 9) := Lib.hid (by rw [← hy3, ← hg9]; exact blk_new _ _ 9)
      have RGl : Hid (q9 < y3.heap.size) := Lib.hid RG.out.lt
      have RV := Lib.hid (own_below RV.out HB3.out)
      clear hy3 hg9
      refine hKK.out _ _ (B6.out.trans (RB3.out.mono B6.out.size)) (fun hH3 => ?_)
      clear hKK KK
      try simp only [Act.put, List.setIfInBounds_toArray, List.set_cons_zero, List.set_cons_succ]
      refine wpAnyH_ready (rs := [10]) (by kernel_rfl) (by simp) ?_
      refine AllReadyH.cons (o := ({ dst := some 38, op := Op.call { callee := Callee.builtin Builtin.append, args := #[Operand.tmp 31, Operand.tmp 37], argTypes := #[26, 26] }, type := 26, pos := "law.go:114", after := #[{ on := 3, ground := Ground.data }, { on := 9, ground := Ground.data }, { on := 3, ground := Ground.chain }], guard := none } : Oper)) rfl (fun KK hKK => ?_) AllReadyH.nil
      refine step_append_any _ rfl (.tmp 31) (.tmp 37) 26 rfl w6.heap.size 9 i0 _ 1 16 Tryd.underlying26 HI.out.1 HI.out.2.1 HI.out.2.2.1 HI.out.2.2.2 rfl (by decide) v3 _ _ rfl RV.out (some ⟨q9, 0, none⟩) 1 1 (T.cl [⟨nmB user c.dev⟩]) rfl (src_nm RG.out) (by unfold maxLen; omega) (by omega) RB3.out.size ?_
      intro v5 y4 hgr
      have RB4 : Hid (Below w6.heap.size w6 y4) := Lib.hid (hgr.below RB3.out RV.out)
      have RE := Lib.hid hgr.own
      have RL : Hid (Blk y4 w5.heap.size (cellsC c) 28) := Lib.hid (L6.out.below RB4.out)
      obtain ⟨A9, c9, hv9, hr9, hn9⟩ := T.Rcs.ofOwn (zs := c.blk ++ [⟨nmB user c.dev⟩]) (by have := RE.out; rw [Nat.zero_add, show T.cl [] ++ T.cl c.blk ++ T.cl [⟨nmB user c.dev⟩] = T.cl (c.blk ++ [⟨nmB user c.dev⟩]) by rw [T.cl_append]; rfl] at this; exact this) (by rw [List.length_append, HBl.out]; rfl) (by omega) (HFit.out)
      subst hv9
      have RR := Lib.hid hr9
      have RNw := Lib.hid hn9
      have z10 := RL.out.free 10
      have i10 := RL.out.cell (i := 10) rfl
      clear hgr hr9 hn9
      refine hKK.out _ _ (B6.out.trans (RB4.out.mono B6.out.size)) (fun hH4 => ?_)
      clear hKK KK
      try simp only [Act.put, List.setIfInBounds_toArray, List.set_cons_zero, List.set_cons_succ]
      refine wpAnyH_take (i := 11) (oi := ({ dst := some 39, op := Op.fieldAddr 28 (Operand.tmp 9) 4, type := 0, pos := "law.go:114", after := #[{ on := 0, ground := Ground.phase }, { on := 1, ground := Ground.phase }, { on := 2, ground := Ground.phase }, { on := 3, ground := Ground.phase }, { on := 4, ground := Ground.phase }, { on := 5, ground := Ground.phase }, { on := 6, ground := Ground.phase }, { on := 7, ground := Ground.phase }, { on := 8, ground := Ground.phase }, { on := 9, ground := Ground.phase }, { on := 10, ground := Ground.phase }], guard := none } : Oper)) (v := ?hv6) rfl (by kernel_rfl) (by kernel_rfl) (by kernel_rfl) (fun _ _ _ h => h) (Or.inl ⟨by rfl, ?hy6⟩) (by assumption) ?hr6
      case hy6 => (intro w hSw; (try dsimp only at hSw); go_simp; (try with_reducible rfl))
      try simp only [Act.put, List.setIfInBounds_toArray, List.set_cons_zero, List.set_cons_succ]
      refine wpAnyH_ready (rs := [12]) (by kernel_rfl) (by simp) ?_
      refine AllReadyH.cons (o := ({ dst := none, op := Op.store 26 (Operand.tmp 39) (Operand.tmp 38), type := 0, pos := "law.go:114", after := #[{ on := 11, ground := Ground.data }, { on := 10, ground := Ground.data }, { on := 10, ground := Ground.chain }, { on := 0, ground := Ground.phase }, { on := 1, ground := Ground.phase }, { on := 2, ground := Ground.phase }, { on := 3, ground := Ground.phase }, { on := 4, ground := Ground.phase }, { on := 5, ground := Ground.phase }, { on := 6, ground := Ground.phase }, { on := 7, ground := Ground.phase }, { on := 8, ground := Ground.phase }, { on := 9, ground := Ground.phase }, { on := 10, ground := Ground.phase }], guard := none } : Oper)) rfl (fun KK hKK => ?_) AllReadyH.nil
      go_simp
      refine hKK.out _ _ ((B6.out.trans (RB4.out.mono B6.out.size)).setCell (p := ⟨w5.heap.size, 10, none⟩) (Nat.le_refl _) _) (fun hH5 => ?_)
      clear hKK KK
      try simp only [Act.put, List.setIfInBounds_toArray, List.set_cons_zero, List.set_cons_succ]
      refine wpAnyH_done (by kernel_rfl) ?_ _
      have Z5 := Lib.hid ((B6.out.trans (RB4.out.mono B6.out.size)).setCell (p := ⟨w5.heap.size, 10, none⟩) (Nat.le_refl _) (.slice A9 (c.bn + 1) c9))
      have ZL : Hid (Blk (World.setCell y4 ⟨w5.heap.size, 10, none⟩ (.slice A9 (c.bn + 1) c9)) w5.heap.size (cellsC (less c A9 (c.bn + 1) c9 (nmB user c.dev))) 28) := Lib.hid (RL.out.set 10 _)
      have ZR : Hid (T.Rcs (World.setCell y4 ⟨w5.heap.size, 10, none⟩ (.slice A9 (c.bn + 1) c9)) A9 (c.bn + 1) c9 (c.blk ++ [⟨nmB user c.dev⟩])) := Lib.hid (RR.out.grew (grown_setCell _ _ _) (fun b off e => by have h1 := RNw.out b off e; have h2 := L6.out.lt; simp only [ne_eq, Option.some.injEq]; omega))
      clear RR RL RE RV RO RG RNw z10 i10
      generalize World.setCell y4 ⟨w5.heap.size, 10, none⟩ (.slice A9 (c.bn + 1) c9) = u at *
      have BU := Lib.hid (B5.out.trans (Z5.out.mono B5.out.size))
      have M8 := Lib.hid (M5.out.below Z5.out)
      have x4 := (X5.out.below Z5.out).cell (i := 4) rfl
      have HXu := Lib.hid (X5.out.below Z5.out).lt
      have CM := Lib.hid (fun v (hv : Below u.heap.size u v) => of9 (more c Am n9 cm (vf c.ver m)) v (HT.out.below (BU.out.trans (hv.mono BU.out.size))) (HR.out.t.below (BU.out.trans (hv.mono BU.out.size))) ((I5.out.below Z5.out).below hv) (HR.out.b.below (BU.out.trans (hv.mono BU.out.size))) hS.size)
      have CL := Lib.hid (fun v (hv : Below u.heap.size u v) => of9 (less c A9 (c.bn + 1) c9 (nmB user c.dev)) v (HT.out.below (BU.out.trans (hv.mono BU.out.size))) (HR.out.t.below (BU.out.trans (hv.mono BU.out.size))) ((HR.out.ints (by have := hS.vn; omega)).below (BU.out.trans (hv.mono BU.out.size))) (ZR.out.below hv) hS.size)
      have LV := Lib.hid (fun v (hv : Below u.heap.size u v) => LV.out v (BU.out.trans (hv.mono BU.out.size)))
      have h1 : trC c ≤ trC (more c Am n9 cm (vf c.ver m)) := tr_more (fun x hx => hs_vf hx)
      have h2 : trC (less c A9 (c.bn + 1) c9 (nmB user c.dev)) ≤ trC c := tr_less (fun x hx => hs_app hx)
      have h3 : user = c.t.us → trC (less c A9 (c.bn + 1) c9 (nmB user c.dev)) = 0 := fun e => tr_blk (by rw [e]; exact hs_last _ _)
      generalize trC (more c Am n9 cm (vf c.ver m)) = r1 at *
      generalize trC (less c A9 (c.bn + 1) c9 (nmB user c.dev)) = r2 at *
      generalize trC c = r0 at *
      have e1 : ¬ r1 < r0 := by omega
      have d1 : decide (r1 < r0) = false := decide_eq_false (by omega)
      have e2 : ¬ r0 < r2 := by omega
      have H3 := Lib.hid h3
      clear h1 h2 h3 Z5 ZR HR HT hS
      cases q : eqB user c.t.us
      · have qb : (user.toList == c.t.us.toList) = false := q
        clear q
        go_wp2_with (first
          | (refine load_mid_g (by rfl) 28 _ rfl w2.heap.size 0 rfl (cellsC (more c Am n9 cm (vf c.ver m))) _ M8.out.range Tryd.underlying28 rfl size28 ?_)
          | (go_at_call 9; (with_reducible refine (CM.out _ (Below.refl _ _)).mono ?_); rintro e u1 ⟨rfl, hb1⟩; have V1 := Lib.hid hb1; have ZL1 := Lib.hid (ZL.out.below hb1); have y4 := (hb1.cell (p := ⟨w.heap.size, 4, none⟩) HXu.out).trans x4; clear hb1)
          | (refine load_mid_g (by first | rfl | (simp only [d1]; rfl)) 28 _ rfl w5.heap.size 0 rfl (cellsC (less c A9 (c.bn + 1) c9 (nmB user c.dev))) _ ZL1.out.range Tryd.underlying28 rfl size28 ?_)
          | (go_at_call 9; (with_reducible refine (CL.out _ V1.out).mono ?_); rintro e u2 ⟨rfl, hb2⟩; have V2 := Lib.hid (V1.out.trans (hb2.mono V1.out.size)); have ZL2 := Lib.hid (ZL1.out.below hb2); have t4 := (V2.out.cell (p := ⟨w.heap.size, 4, none⟩) HXu.out).trans x4; clear y4 hb2)
          | (refine load_mid_g (by rfl) 28 _ rfl w5.heap.size 0 rfl (cellsC (less c A9 (c.bn + 1) c9 (nmB user c.dev))) _ ZL2.out.range Tryd.underlying28 rfl size28 ?_)
          | (go_at_call 9; (with_reducible refine (CL.out _ V2.out).mono ?_); rintro e u3 ⟨rfl, hb3⟩; have V3 := Lib.hid (V2.out.trans (hb3.mono V2.out.size)); clear hb3)
          | (go_at_call 8; (with_reducible refine (LV.out _ V2.out).mono ?_); rintro e u4 ⟨rfl, hb4⟩; have V4 := Lib.hid (V2.out.trans (hb4.mono V2.out.size)); clear hb4))
        go_ret
        exact ⟨rfl, BU.out.trans (V4.out.mono BU.out.size)⟩
      · have qb : (user.toList == c.t.us.toList) = true := q
        have e3 : r2 = 0 := H3.out (bytes_eq qb)
        subst e3
        clear q
        go_wp2_with (first
          | (refine load_mid_g (by rfl) 28 _ rfl w2.heap.size 0 rfl (cellsC (more c Am n9 cm (vf c.ver m))) _ M8.out.range Tryd.underlying28 rfl size28 ?_)
          | (go_at_call 9; (with_reducible refine (CM.out _ (Below.refl _ _)).mono ?_); rintro e u1 ⟨rfl, hb1⟩; have V1 := Lib.hid hb1; have ZL1 := Lib.hid (ZL.out.below hb1); have y4 := (hb1.cell (p := ⟨w.heap.size, 4, none⟩) HXu.out).trans x4; clear hb1)
          | (refine load_mid_g (by first | rfl | (simp only [d1]; rfl)) 28 _ rfl w5.heap.size 0 rfl (cellsC (less c A9 (c.bn + 1) c9 (nmB user c.dev))) _ ZL1.out.range Tryd.underlying28 rfl size28 ?_)
          | (go_at_call 9; (with_reducible refine (CL.out _ V1.out).mono ?_); rintro e u2 ⟨rfl, hb2⟩; have V2 := Lib.hid (V1.out.trans (hb2.mono V1.out.size)); have ZL2 := Lib.hid (ZL1.out.below hb2); have t4 := (V2.out.cell (p := ⟨w.heap.size, 4, none⟩) HXu.out).trans x4; clear y4 hb2)
          | (refine load_mid_g (by rfl) 28 _ rfl w5.heap.size 0 rfl (cellsC (less c A9 (c.bn + 1) c9 (nmB user c.dev))) _ ZL2.out.range Tryd.underlying28 rfl size28 ?_)
          | (go_at_call 9; (with_reducible refine (CL.out _ V2.out).mono ?_); rintro e u3 ⟨rfl, hb3⟩; have V3 := Lib.hid (V2.out.trans (hb3.mono V2.out.size)); clear hb3)
          | (go_at_call 8; (with_reducible refine (LV.out _ V3.out).mono ?_); rintro e u4 ⟨rfl, hb4⟩; have V4 := Lib.hid (V3.out.trans (hb4.mono V3.out.size)); clear hb4))
        go_ret
        exact ⟨rfl, BU.out.trans (V4.out.mono BU.out.size)⟩
    refine AllReadyH.cons (o := ({ dst := some 37, op := Op.buildSlice 26 1 #[(0, Operand.tmp 36)], type := 26, pos := "law.go:114", after := #[{ on := 8, ground := Ground.data }], guard := none } : Oper)) rfl (fun KK hKK => ?_) AllReadyH.nil
    go_simp
    generalize hy2 : World.alloc _ _ = y2
    generalize hg9 : (World.heap y1).size = q9
    have HB2 : Hid (Below y1.heap.size y1 y2) := Lib.hid (by rw [← hy2]; exact (Below.refl _ _).alloc (Nat.le_refl _) _)
    have RB2 := Lib.hid (RB1.out.trans (HB2.out.mono RB1.out.size))
    have RG : Hid (Blk y2 q9 [.string (nmB user c.dev)] 9) := Lib.hid (by rw [← hy2, ← hg9]; exact blk_new _ _ 9)
    have RGl : Hid (q9 < y2.heap.size) := Lib.hid RG.out.lt
    have RN : q9 ≠ q0 := by rw [← hg9]; have := (RO.out.lt q0 rfl).2; omega
    have RO := Lib.hid (own_below RO.out HB2.out)
    clear hy2 hg9
    refine hKK.out _ _ (B6.out.trans (RB2.out.mono B6.out.size)) (fun hH2 => ?_)
    clear hKK KK
    try simp only [Act.put, List.setIfInBounds_toArray, List.set_cons_zero, List.set_cons_succ]
    refine wpAnyH_ready (rs := [3]) (by kernel_rfl) (by simp) ?_
    refine AllReadyH.cons (o := ({ dst := some 31, op := Op.call { callee := Callee.builtin Builtin.append, args := #[Operand.tmp 28, Operand.tmp 30], argTypes := #[26, 26] }, type := 26, pos := "law.go:114", after := #[{ on := 0, ground := Ground.data }, { on := 2, ground := Ground.data }], guard := none } : Oper)) rfl (fun KK hKK => ?_) AllReadyH.nil
    have RS := Lib.hid ((HBk.out.below RB2.out).src)
    refine step_append_any _ rfl (.tmp 28) (.tmp 30) 26 rfl w6.heap.size 9 i0 _ 1 16 Tryd.underlying26 HI.out.1 HI.out.2.1 HI.out.2.2.1 HI.out.2.2.2 rfl (by decide) (.slice (some ⟨q0, 0, none⟩) 0 0) 0 (T.cl []) rfl RO.out c.bA c.bn c.bc (T.cl c.blk) rfl RS.out (by unfold maxLen; omega) (by omega) RB2.out.size ?_
    intro v3 y3 hgr
    have RB3 : Hid (Below w6.heap.size w6 y3) := Lib.hid (hgr.below RB2.out RO.out)
    have RV := Lib.hid hgr.own
    have RG : Hid (Blk y3 q9 [.string (nmB user c.dev)] 9) := Lib.hid ⟨(hgr.grow.block q9 RG.out.lt (by simp [Value.ownBlock]; omega)).trans RG.out.heap⟩
    clear hgr
    refine hKK.out _ _ (B6.out.trans (RB3.out.mono B6.out.size)) (fun hH3 => ?_)
    clear hKK KK
    try simp only [Act.put, List.setIfInBounds_toArray, List.set_cons_zero, List.set_cons_succ]
    refine wpAnyH_ready (rs := [10]) (by kernel_rfl) (by simp) ?_
    refine AllReadyH.cons (o := ({ dst := some 38, op := Op.call { callee := Callee.builtin Builtin.append, args := #[Operand.tmp 31, Operand.tmp 37], argTypes := #[26, 26] }, type := 26, pos := "law.go:114", after := #[{ on := 3, ground := Ground.data }, { on := 9, ground := Ground.data }, { on := 3, ground := Ground.chain }], guard := none } : Oper)) rfl (fun KK hKK => ?_) AllReadyH.nil
    refine step_append_any _ rfl (.tmp 31) (.tmp 37) 26 rfl w6.heap.size 9 i0 _ 1 16 Tryd.underlying26 HI.out.1 HI.out.2.1 HI.out.2.2.1 HI.out.2.2.2 rfl (by decide) v3 _ _ rfl RV.out (some ⟨q9, 0, none⟩) 1 1 (T.cl [⟨nmB user c.dev⟩]) rfl (src_nm RG.out) (by unfold maxLen; omega) (by omega) RB3.out.size ?_
    intro v5 y4 hgr
    have RB4 : Hid (Below w6.heap.size w6 y4) := Lib.hid (hgr.below RB3.out RV.out)
    have RE := Lib.hid hgr.own
    have RL : Hid (Blk y4 w5.heap.size (cellsC c) 28) := Lib.hid (L6.out.below RB4.out)
    obtain ⟨A9, c9, hv9, hr9, hn9⟩ := T.Rcs.ofOwn (zs := c.blk ++ [⟨nmB user c.dev⟩]) (by have := RE.out; rw [Nat.zero_add, show T.cl [] ++ T.cl c.blk ++ T.cl [⟨nmB user c.dev⟩] = T.cl (c.blk ++ [⟨nmB user c.dev⟩]) by rw [T.cl_append]; rfl] at this; exact this) (by rw [List.length_append, HBl.out]; rfl) (by omega) (HFit.out)
    subst hv9
    have RR := Lib.hid hr9
    have RNw := Lib.hid hn9
    have z10 := RL.out.free 10
    have i10 := RL.out.cell (i := 10) rfl
    clear hgr hr9 hn9
    refine hKK.out _ _ (B6.out.trans (RB4.out.mono B6.out.size)) (fun hH4 => ?_)
    clear hKK KK
    try simp only [Act.put, List.setIfInBounds_toArray, List.set_cons_zero, List.set_cons_succ]
    refine wpAnyH_take (i := 11) (oi := ({ dst := some 39, op := Op.fieldAddr 28 (Operand.tmp 9) 4, type := 0, pos := "law.go:114", after := #[{ on := 0, ground := Ground.phase }, { on := 1, ground := Ground.phase }, { on := 2, ground := Ground.phase }, { on := 3, ground := Ground.phase }, { on := 4, ground := Ground.phase }, { on := 5, ground := Ground.phase }, { on := 6, ground := Ground.phase }, { on := 7, ground := Ground.phase }, { on := 8, ground := Ground.phase }, { on := 9, ground := Ground.phase }, { on := 10, ground := Ground.phase }], guard := none } : Oper)) (v := ?hv7) rfl (by kernel_rfl) (by kernel_rfl) (by kernel_rfl) (fun _ _ _ h => h) (Or.inl ⟨by rfl, ?hy7⟩) (by assumption) ?hr7
    case hy7 => (intro w hSw; (try dsimp only at hSw); go_simp; (try with_reducible rfl))
    try simp only [Act.put, List.setIfInBounds_toArray, List.set_cons_zero, List.set_cons_succ]
    refine wpAnyH_ready (rs := [12]) (by kernel_rfl) (by simp) ?_
    refine AllReadyH.cons (o := ({ dst := none, op := Op.store 26 (Operand.tmp 39) (Operand.tmp 38), type := 0, pos := "law.go:114", after := #[{ on := 11, ground := Ground.data }, { on := 10, ground := Ground.data }, { on := 10, ground := Ground.chain }, { on := 0, ground := Ground.phase }, { on := 1, ground := Ground.phase }, { on := 2, ground := Ground.phase }, { on := 3, ground := Ground.phase }, { on := 4, ground := Ground.phase }, { on := 5, ground := Ground.phase }, { on := 6, ground := Ground.phase }, { on := 7, ground := Ground.phase }, { on := 8, ground := Ground.phase }, { on := 9, ground := Ground.phase }, { on := 10, ground := Ground.phase }], guard := none } : Oper)) rfl (fun KK hKK => ?_) AllReadyH.nil
    go_simp
    refine hKK.out _ _ ((B6.out.trans (RB4.out.mono B6.out.size)).setCell (p := ⟨w5.heap.size, 10, none⟩) (Nat.le_refl _) _) (fun hH5 => ?_)
    clear hKK KK
    try simp only [Act.put, List.setIfInBounds_toArray, List.set_cons_zero, List.set_cons_succ]
    refine wpAnyH_done (by kernel_rfl) ?_ _
    have Z5 := Lib.hid ((B6.out.trans (RB4.out.mono B6.out.size)).setCell (p := ⟨w5.heap.size, 10, none⟩) (Nat.le_refl _) (.slice A9 (c.bn + 1) c9))
    have ZL : Hid (Blk (World.setCell y4 ⟨w5.heap.size, 10, none⟩ (.slice A9 (c.bn + 1) c9)) w5.heap.size (cellsC (less c A9 (c.bn + 1) c9 (nmB user c.dev))) 28) := Lib.hid (RL.out.set 10 _)
    have ZR : Hid (T.Rcs (World.setCell y4 ⟨w5.heap.size, 10, none⟩ (.slice A9 (c.bn + 1) c9)) A9 (c.bn + 1) c9 (c.blk ++ [⟨nmB user c.dev⟩])) := Lib.hid (RR.out.grew (grown_setCell _ _ _) (fun b off e => by have h1 := RNw.out b off e; have h2 := L6.out.lt; simp only [ne_eq, Option.some.injEq]; omega))
    clear RR RL RE RV RO RG RNw z10 i10
    generalize World.setCell y4 ⟨w5.heap.size, 10, none⟩ (.slice A9 (c.bn + 1) c9) = u at *
    have BU := Lib.hid (B5.out.trans (Z5.out.mono B5.out.size))
    have M8 := Lib.hid (M5.out.below Z5.out)
    have x4 := (X5.out.below Z5.out).cell (i := 4) rfl
    have HXu := Lib.hid (X5.out.below Z5.out).lt
    have CM := Lib.hid (fun v (hv : Below u.heap.size u v) => of9 (more c Am n9 cm (vf c.ver m)) v (HT.out.below (BU.out.trans (hv.mono BU.out.size))) (HR.out.t.below (BU.out.trans (hv.mono BU.out.size))) ((I5.out.below Z5.out).below hv) (HR.out.b.below (BU.out.trans (hv.mono BU.out.size))) hS.size)
    have CL := Lib.hid (fun v (hv : Below u.heap.size u v) => of9 (less c A9 (c.bn + 1) c9 (nmB user c.dev)) v (HT.out.below (BU.out.trans (hv.mono BU.out.size))) (HR.out.t.below (BU.out.trans (hv.mono BU.out.size))) ((HR.out.ints (by have := hS.vn; omega)).below (BU.out.trans (hv.mono BU.out.size))) (ZR.out.below hv) hS.size)
    have LV := Lib.hid (fun v (hv : Below u.heap.size u v) => LV.out v (BU.out.trans (hv.mono BU.out.size)))
    have h1 : trC c ≤ trC (more c Am n9 cm (vf c.ver m)) := tr_more (fun x hx => hs_vf hx)
    have h2 : trC (less c A9 (c.bn + 1) c9 (nmB user c.dev)) ≤ trC c := tr_less (fun x hx => hs_app hx)
    have h3 : user = c.t.us → trC (less c A9 (c.bn + 1) c9 (nmB user c.dev)) = 0 := fun e => tr_blk (by rw [e]; exact hs_last _ _)
    generalize trC (more c Am n9 cm (vf c.ver m)) = r1 at *
    generalize trC (less c A9 (c.bn + 1) c9 (nmB user c.dev)) = r2 at *
    generalize trC c = r0 at *
    have e1 : ¬ r1 < r0 := by omega
    have d1 : decide (r1 < r0) = false := decide_eq_false (by omega)
    have e2 : ¬ r0 < r2 := by omega
    have H3 := Lib.hid h3
    clear h1 h2 h3 Z5 ZR HR HT hS
    cases q : eqB user c.t.us
    · have qb : (user.toList == c.t.us.toList) = false := q
      clear q
      go_wp2_with (first
        | (refine load_mid_g (by rfl) 28 _ rfl w2.heap.size 0 rfl (cellsC (more c Am n9 cm (vf c.ver m))) _ M8.out.range Tryd.underlying28 rfl size28 ?_)
        | (go_at_call 9; (with_reducible refine (CM.out _ (Below.refl _ _)).mono ?_); rintro e u1 ⟨rfl, hb1⟩; have V1 := Lib.hid hb1; have ZL1 := Lib.hid (ZL.out.below hb1); have y4 := (hb1.cell (p := ⟨w.heap.size, 4, none⟩) HXu.out).trans x4; clear hb1)
        | (refine load_mid_g (by first | rfl | (simp only [d1]; rfl)) 28 _ rfl w5.heap.size 0 rfl (cellsC (less c A9 (c.bn + 1) c9 (nmB user c.dev))) _ ZL1.out.range Tryd.underlying28 rfl size28 ?_)
        | (go_at_call 9; (with_reducible refine (CL.out _ V1.out).mono ?_); rintro e u2 ⟨rfl, hb2⟩; have V2 := Lib.hid (V1.out.trans (hb2.mono V1.out.size)); have ZL2 := Lib.hid (ZL1.out.below hb2); have t4 := (V2.out.cell (p := ⟨w.heap.size, 4, none⟩) HXu.out).trans x4; clear y4 hb2)
        | (refine load_mid_g (by rfl) 28 _ rfl w5.heap.size 0 rfl (cellsC (less c A9 (c.bn + 1) c9 (nmB user c.dev))) _ ZL2.out.range Tryd.underlying28 rfl size28 ?_)
        | (go_at_call 9; (with_reducible refine (CL.out _ V2.out).mono ?_); rintro e u3 ⟨rfl, hb3⟩; have V3 := Lib.hid (V2.out.trans (hb3.mono V2.out.size)); clear hb3)
        | (go_at_call 8; (with_reducible refine (LV.out _ V2.out).mono ?_); rintro e u4 ⟨rfl, hb4⟩; have V4 := Lib.hid (V2.out.trans (hb4.mono V2.out.size)); clear hb4))
      go_ret
      exact ⟨rfl, BU.out.trans (V4.out.mono BU.out.size)⟩
    · have qb : (user.toList == c.t.us.toList) = true := q
      have e3 : r2 = 0 := H3.out (bytes_eq qb)
      subst e3
      clear q
      go_wp2_with (first
        | (refine load_mid_g (by rfl) 28 _ rfl w2.heap.size 0 rfl (cellsC (more c Am n9 cm (vf c.ver m))) _ M8.out.range Tryd.underlying28 rfl size28 ?_)
        | (go_at_call 9; (with_reducible refine (CM.out _ (Below.refl _ _)).mono ?_); rintro e u1 ⟨rfl, hb1⟩; have V1 := Lib.hid hb1; have ZL1 := Lib.hid (ZL.out.below hb1); have y4 := (hb1.cell (p := ⟨w.heap.size, 4, none⟩) HXu.out).trans x4; clear hb1)
        | (refine load_mid_g (by first | rfl | (simp only [d1]; rfl)) 28 _ rfl w5.heap.size 0 rfl (cellsC (less c A9 (c.bn + 1) c9 (nmB user c.dev))) _ ZL1.out.range Tryd.underlying28 rfl size28 ?_)
        | (go_at_call 9; (with_reducible refine (CL.out _ V1.out).mono ?_); rintro e u2 ⟨rfl, hb2⟩; have V2 := Lib.hid (V1.out.trans (hb2.mono V1.out.size)); have ZL2 := Lib.hid (ZL1.out.below hb2); have t4 := (V2.out.cell (p := ⟨w.heap.size, 4, none⟩) HXu.out).trans x4; clear y4 hb2)
        | (refine load_mid_g (by rfl) 28 _ rfl w5.heap.size 0 rfl (cellsC (less c A9 (c.bn + 1) c9 (nmB user c.dev))) _ ZL2.out.range Tryd.underlying28 rfl size28 ?_)
        | (go_at_call 9; (with_reducible refine (CL.out _ V2.out).mono ?_); rintro e u3 ⟨rfl, hb3⟩; have V3 := Lib.hid (V2.out.trans (hb3.mono V2.out.size)); clear hb3)
        | (go_at_call 8; (with_reducible refine (LV.out _ V3.out).mono ?_); rintro e u4 ⟨rfl, hb4⟩; have V4 := Lib.hid (V3.out.trans (hb4.mono V3.out.size)); clear hb4))
      go_ret
      exact ⟨rfl, BU.out.trans (V4.out.mono BU.out.size)⟩
  refine AllReadyH.cons (o := ({ dst := some 37, op := Op.buildSlice 26 1 #[(0, Operand.tmp 36)], type := 26, pos := "law.go:114", after := #[{ on := 8, ground := Ground.data }], guard := none } : Oper)) rfl (fun KK hKK => ?_) AllReadyH.nil
  go_simp
  generalize hy1 : World.alloc _ _ = y1
  generalize hg9 : (World.heap y0).size = q9
  have HB1 : Hid (Below y0.heap.size y0 y1) := Lib.hid (by rw [← hy1]; exact (Below.refl _ _).alloc (Nat.le_refl _) _)
  have RB1 := Lib.hid (RB0.out.trans (HB1.out.mono RB0.out.size))
  have RG : Hid (Blk y1 q9 [.string (nmB user c.dev)] 9) := Lib.hid (by rw [← hy1, ← hg9]; exact blk_new _ _ 9)
  have RGl : Hid (q9 < y1.heap.size) := Lib.hid RG.out.lt
  clear hy1 hg9
  refine hKK.out _ _ (B6.out.trans (RB1.out.mono B6.out.size)) (fun hH1 => ?_)
  clear hKK KK
  try simp only [Act.put, List.setIfInBounds_toArray, List.set_cons_zero, List.set_cons_succ]
  refine wpAnyH_ready (rs := [0]) (by kernel_rfl) (by simp) ?_
  refine AllReadyH.cons (o := ({ dst := some 28, op := Op.buildSlice 26 0 #[], type := 26, pos := "law.go:114", after := #[], guard := none } : Oper)) rfl (fun KK hKK => ?_) AllReadyH.nil
  go_simp
  generalize hy2 : World.alloc _ _ = y2
  generalize hg0 : (World.heap y1).size = q0
  have HB2 : Hid (Below y1.heap.size y1 y2) := Lib.hid (by rw [← hy2]; exact (Below.refl _ _).alloc (Nat.le_refl _) _)
  have RB2 := Lib.hid (RB1.out.trans (HB2.out.mono RB1.out.size))
  have RO : Hid (y2.ownsRow w6.heap.size 9 1 (.slice (some ⟨q0, 0, none⟩) 0 0) 0 (T.cl [])) := Lib.hid (by rw [← hy2, ← hg0]; exact World.ownsRow_made (base := w6.heap.size) (e := 9) (size := 1) _ #[] 0 RB1.out.size (by decide) (by simp))
  have RG := Lib.hid (RG.out.below HB2.out)
  have RN : q9 ≠ q0 := by rw [← hg0]; have := RGl.out; omega
  clear hy2 hg0
  refine hKK.out _ _ (B6.out.trans (RB2.out.mono B6.out.size)) (fun hH2 => ?_)
  clear hKK KK
  try simp only [Act.put, List.setIfInBounds_toArray, List.set_cons_zero, List.set_cons_succ]
  refine wpAnyH_ready (rs := [3]) (by kernel_rfl) (by simp) ?_
  refine AllReadyH.cons (o := ({ dst := some 31, op := Op.call { callee := Callee.builtin Builtin.append, args := #[Operand.tmp 28, Operand.tmp 30], argTypes := #[26, 26] }, type := 26, pos := "law.go:114", after := #[{ on := 0, ground := Ground.data }, { on := 2, ground := Ground.data }], guard := none } : Oper)) rfl (fun KK hKK => ?_) AllReadyH.nil
  have RS := Lib.hid ((HBk.out.below RB2.out).src)
  refine step_append_any _ rfl (.tmp 28) (.tmp 30) 26 rfl w6.heap.size 9 i0 _ 1 16 Tryd.underlying26 HI.out.1 HI.out.2.1 HI.out.2.2.1 HI.out.2.2.2 rfl (by decide) (.slice (some ⟨q0, 0, none⟩) 0 0) 0 (T.cl []) rfl RO.out c.bA c.bn c.bc (T.cl c.blk) rfl RS.out (by unfold maxLen; omega) (by omega) RB2.out.size ?_
  intro v3 y3 hgr
  have RB3 : Hid (Below w6.heap.size w6 y3) := Lib.hid (hgr.below RB2.out RO.out)
  have RV := Lib.hid hgr.own
  have RG : Hid (Blk y3 q9 [.string (nmB user c.dev)] 9) := Lib.hid ⟨(hgr.grow.block q9 RG.out.lt (by simp [Value.ownBlock]; omega)).trans RG.out.heap⟩
  clear hgr
  refine hKK.out _ _ (B6.out.trans (RB3.out.mono B6.out.size)) (fun hH3 => ?_)
  clear hKK KK
  try simp only [Act.put, List.setIfInBounds_toArray, List.set_cons_zero, List.set_cons_succ]
  refine wpAnyH_ready (rs := [10]) (by kernel_rfl) (by simp) ?_
  refine AllReadyH.cons (o := ({ dst := some 38, op := Op.call { callee := Callee.builtin Builtin.append, args := #[Operand.tmp 31, Operand.tmp 37], argTypes := #[26, 26] }, type := 26, pos := "law.go:114", after := #[{ on := 3, ground := Ground.data }, { on := 9, ground := Ground.data }, { on := 3, ground := Ground.chain }], guard := none } : Oper)) rfl (fun KK hKK => ?_) AllReadyH.nil
  refine step_append_any _ rfl (.tmp 31) (.tmp 37) 26 rfl w6.heap.size 9 i0 _ 1 16 Tryd.underlying26 HI.out.1 HI.out.2.1 HI.out.2.2.1 HI.out.2.2.2 rfl (by decide) v3 _ _ rfl RV.out (some ⟨q9, 0, none⟩) 1 1 (T.cl [⟨nmB user c.dev⟩]) rfl (src_nm RG.out) (by unfold maxLen; omega) (by omega) RB3.out.size ?_
  intro v5 y4 hgr
  have RB4 : Hid (Below w6.heap.size w6 y4) := Lib.hid (hgr.below RB3.out RV.out)
  have RE := Lib.hid hgr.own
  have RL : Hid (Blk y4 w5.heap.size (cellsC c) 28) := Lib.hid (L6.out.below RB4.out)
  obtain ⟨A9, c9, hv9, hr9, hn9⟩ := T.Rcs.ofOwn (zs := c.blk ++ [⟨nmB user c.dev⟩]) (by have := RE.out; rw [Nat.zero_add, show T.cl [] ++ T.cl c.blk ++ T.cl [⟨nmB user c.dev⟩] = T.cl (c.blk ++ [⟨nmB user c.dev⟩]) by rw [T.cl_append]; rfl] at this; exact this) (by rw [List.length_append, HBl.out]; rfl) (by omega) (HFit.out)
  subst hv9
  have RR := Lib.hid hr9
  have RNw := Lib.hid hn9
  have z10 := RL.out.free 10
  have i10 := RL.out.cell (i := 10) rfl
  clear hgr hr9 hn9
  refine hKK.out _ _ (B6.out.trans (RB4.out.mono B6.out.size)) (fun hH4 => ?_)
  clear hKK KK
  try simp only [Act.put, List.setIfInBounds_toArray, List.set_cons_zero, List.set_cons_succ]
  refine wpAnyH_take (i := 11) (oi := ({ dst := some 39, op := Op.fieldAddr 28 (Operand.tmp 9) 4, type := 0, pos := "law.go:114", after := #[{ on := 0, ground := Ground.phase }, { on := 1, ground := Ground.phase }, { on := 2, ground := Ground.phase }, { on := 3, ground := Ground.phase }, { on := 4, ground := Ground.phase }, { on := 5, ground := Ground.phase }, { on := 6, ground := Ground.phase }, { on := 7, ground := Ground.phase }, { on := 8, ground := Ground.phase }, { on := 9, ground := Ground.phase }, { on := 10, ground := Ground.phase }], guard := none } : Oper)) (v := ?hv8) rfl (by kernel_rfl) (by kernel_rfl) (by kernel_rfl) (fun _ _ _ h => h) (Or.inl ⟨by rfl, ?hy8⟩) (by assumption) ?hr8
  case hy8 => (intro w hSw; (try dsimp only at hSw); go_simp; (try with_reducible rfl))
  try simp only [Act.put, List.setIfInBounds_toArray, List.set_cons_zero, List.set_cons_succ]
  refine wpAnyH_ready (rs := [12]) (by kernel_rfl) (by simp) ?_
  refine AllReadyH.cons (o := ({ dst := none, op := Op.store 26 (Operand.tmp 39) (Operand.tmp 38), type := 0, pos := "law.go:114", after := #[{ on := 11, ground := Ground.data }, { on := 10, ground := Ground.data }, { on := 10, ground := Ground.chain }, { on := 0, ground := Ground.phase }, { on := 1, ground := Ground.phase }, { on := 2, ground := Ground.phase }, { on := 3, ground := Ground.phase }, { on := 4, ground := Ground.phase }, { on := 5, ground := Ground.phase }, { on := 6, ground := Ground.phase }, { on := 7, ground := Ground.phase }, { on := 8, ground := Ground.phase }, { on := 9, ground := Ground.phase }, { on := 10, ground := Ground.phase }], guard := none } : Oper)) rfl (fun KK hKK => ?_) AllReadyH.nil
  go_simp
  refine hKK.out _ _ ((B6.out.trans (RB4.out.mono B6.out.size)).setCell (p := ⟨w5.heap.size, 10, none⟩) (Nat.le_refl _) _) (fun hH5 => ?_)
  clear hKK KK
  try simp only [Act.put, List.setIfInBounds_toArray, List.set_cons_zero, List.set_cons_succ]
  refine wpAnyH_done (by kernel_rfl) ?_ _
  have Z5 := Lib.hid ((B6.out.trans (RB4.out.mono B6.out.size)).setCell (p := ⟨w5.heap.size, 10, none⟩) (Nat.le_refl _) (.slice A9 (c.bn + 1) c9))
  have ZL : Hid (Blk (World.setCell y4 ⟨w5.heap.size, 10, none⟩ (.slice A9 (c.bn + 1) c9)) w5.heap.size (cellsC (less c A9 (c.bn + 1) c9 (nmB user c.dev))) 28) := Lib.hid (RL.out.set 10 _)
  have ZR : Hid (T.Rcs (World.setCell y4 ⟨w5.heap.size, 10, none⟩ (.slice A9 (c.bn + 1) c9)) A9 (c.bn + 1) c9 (c.blk ++ [⟨nmB user c.dev⟩])) := Lib.hid (RR.out.grew (grown_setCell _ _ _) (fun b off e => by have h1 := RNw.out b off e; have h2 := L6.out.lt; simp only [ne_eq, Option.some.injEq]; omega))
  clear RR RL RE RV RO RG RNw z10 i10
  generalize World.setCell y4 ⟨w5.heap.size, 10, none⟩ (.slice A9 (c.bn + 1) c9) = u at *
  have BU := Lib.hid (B5.out.trans (Z5.out.mono B5.out.size))
  have M8 := Lib.hid (M5.out.below Z5.out)
  have x4 := (X5.out.below Z5.out).cell (i := 4) rfl
  have HXu := Lib.hid (X5.out.below Z5.out).lt
  have CM := Lib.hid (fun v (hv : Below u.heap.size u v) => of9 (more c Am n9 cm (vf c.ver m)) v (HT.out.below (BU.out.trans (hv.mono BU.out.size))) (HR.out.t.below (BU.out.trans (hv.mono BU.out.size))) ((I5.out.below Z5.out).below hv) (HR.out.b.below (BU.out.trans (hv.mono BU.out.size))) hS.size)
  have CL := Lib.hid (fun v (hv : Below u.heap.size u v) => of9 (less c A9 (c.bn + 1) c9 (nmB user c.dev)) v (HT.out.below (BU.out.trans (hv.mono BU.out.size))) (HR.out.t.below (BU.out.trans (hv.mono BU.out.size))) ((HR.out.ints (by have := hS.vn; omega)).below (BU.out.trans (hv.mono BU.out.size))) (ZR.out.below hv) hS.size)
  have LV := Lib.hid (fun v (hv : Below u.heap.size u v) => LV.out v (BU.out.trans (hv.mono BU.out.size)))
  have h1 : trC c ≤ trC (more c Am n9 cm (vf c.ver m)) := tr_more (fun x hx => hs_vf hx)
  have h2 : trC (less c A9 (c.bn + 1) c9 (nmB user c.dev)) ≤ trC c := tr_less (fun x hx => hs_app hx)
  have h3 : user = c.t.us → trC (less c A9 (c.bn + 1) c9 (nmB user c.dev)) = 0 := fun e => tr_blk (by rw [e]; exact hs_last _ _)
  generalize trC (more c Am n9 cm (vf c.ver m)) = r1 at *
  generalize trC (less c A9 (c.bn + 1) c9 (nmB user c.dev)) = r2 at *
  generalize trC c = r0 at *
  have e1 : ¬ r1 < r0 := by omega
  have d1 : decide (r1 < r0) = false := decide_eq_false (by omega)
  have e2 : ¬ r0 < r2 := by omega
  have H3 := Lib.hid h3
  clear h1 h2 h3 Z5 ZR HR HT hS
  cases q : eqB user c.t.us
  · have qb : (user.toList == c.t.us.toList) = false := q
    clear q
    go_wp2_with (first
      | (refine load_mid_g (by rfl) 28 _ rfl w2.heap.size 0 rfl (cellsC (more c Am n9 cm (vf c.ver m))) _ M8.out.range Tryd.underlying28 rfl size28 ?_)
      | (go_at_call 9; (with_reducible refine (CM.out _ (Below.refl _ _)).mono ?_); rintro e u1 ⟨rfl, hb1⟩; have V1 := Lib.hid hb1; have ZL1 := Lib.hid (ZL.out.below hb1); have y4 := (hb1.cell (p := ⟨w.heap.size, 4, none⟩) HXu.out).trans x4; clear hb1)
      | (refine load_mid_g (by first | rfl | (simp only [d1]; rfl)) 28 _ rfl w5.heap.size 0 rfl (cellsC (less c A9 (c.bn + 1) c9 (nmB user c.dev))) _ ZL1.out.range Tryd.underlying28 rfl size28 ?_)
      | (go_at_call 9; (with_reducible refine (CL.out _ V1.out).mono ?_); rintro e u2 ⟨rfl, hb2⟩; have V2 := Lib.hid (V1.out.trans (hb2.mono V1.out.size)); have ZL2 := Lib.hid (ZL1.out.below hb2); have t4 := (V2.out.cell (p := ⟨w.heap.size, 4, none⟩) HXu.out).trans x4; clear y4 hb2)
      | (refine load_mid_g (by rfl) 28 _ rfl w5.heap.size 0 rfl (cellsC (less c A9 (c.bn + 1) c9 (nmB user c.dev))) _ ZL2.out.range Tryd.underlying28 rfl size28 ?_)
      | (go_at_call 9; (with_reducible refine (CL.out _ V2.out).mono ?_); rintro e u3 ⟨rfl, hb3⟩; have V3 := Lib.hid (V2.out.trans (hb3.mono V2.out.size)); clear hb3)
      | (go_at_call 8; (with_reducible refine (LV.out _ V2.out).mono ?_); rintro e u4 ⟨rfl, hb4⟩; have V4 := Lib.hid (V2.out.trans (hb4.mono V2.out.size)); clear hb4))
    go_ret
    exact ⟨rfl, BU.out.trans (V4.out.mono BU.out.size)⟩
  · have qb : (user.toList == c.t.us.toList) = true := q
    have e3 : r2 = 0 := H3.out (bytes_eq qb)
    subst e3
    clear q
    go_wp2_with (first
      | (refine load_mid_g (by rfl) 28 _ rfl w2.heap.size 0 rfl (cellsC (more c Am n9 cm (vf c.ver m))) _ M8.out.range Tryd.underlying28 rfl size28 ?_)
      | (go_at_call 9; (with_reducible refine (CM.out _ (Below.refl _ _)).mono ?_); rintro e u1 ⟨rfl, hb1⟩; have V1 := Lib.hid hb1; have ZL1 := Lib.hid (ZL.out.below hb1); have y4 := (hb1.cell (p := ⟨w.heap.size, 4, none⟩) HXu.out).trans x4; clear hb1)
      | (refine load_mid_g (by first | rfl | (simp only [d1]; rfl)) 28 _ rfl w5.heap.size 0 rfl (cellsC (less c A9 (c.bn + 1) c9 (nmB user c.dev))) _ ZL1.out.range Tryd.underlying28 rfl size28 ?_)
      | (go_at_call 9; (with_reducible refine (CL.out _ V1.out).mono ?_); rintro e u2 ⟨rfl, hb2⟩; have V2 := Lib.hid (V1.out.trans (hb2.mono V1.out.size)); have ZL2 := Lib.hid (ZL1.out.below hb2); have t4 := (V2.out.cell (p := ⟨w.heap.size, 4, none⟩) HXu.out).trans x4; clear y4 hb2)
      | (refine load_mid_g (by rfl) 28 _ rfl w5.heap.size 0 rfl (cellsC (less c A9 (c.bn + 1) c9 (nmB user c.dev))) _ ZL2.out.range Tryd.underlying28 rfl size28 ?_)
      | (go_at_call 9; (with_reducible refine (CL.out _ V2.out).mono ?_); rintro e u3 ⟨rfl, hb3⟩; have V3 := Lib.hid (V2.out.trans (hb3.mono V2.out.size)); clear hb3)
      | (go_at_call 8; (with_reducible refine (LV.out _ V3.out).mono ?_); rintro e u4 ⟨rfl, hb4⟩; have V4 := Lib.hid (V3.out.trans (hb4.mono V3.out.size)); clear hb4))
    go_ret
    exact ⟨rfl, BU.out.trans (V4.out.mono BU.out.size)⟩
end Go.Proofs.YtaaaeeljjfblnaaDoor
