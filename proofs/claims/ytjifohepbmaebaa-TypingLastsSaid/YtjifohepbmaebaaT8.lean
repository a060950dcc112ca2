/- Who types: Put, PutNamed, Start: a record put at the end, or in the place of one. Bound: at most 900000 records. -/
import Derived.Test.YtjifohepbmaebaaT7
import Derived.Test.YtjifohepbmaebaaT4
import Derived.Test.YtjifohepbmaebaaT5
import Derived.Laws.EntriesVeiled
namespace Go.Proofs.Ytjifohepbmaebaa
open Go.RowKit
set_option linter.unusedVariables false
set_option linter.unusedSimpArgs false

theorem own_pos {w : World} {B n : Nat} {v : Value} {xs : List Value} (h : w.ownsRow B 44 2 v n xs) (hn : 0 < n) : ∃ g cap cur, v = .slice (some ⟨g, 0, none⟩) n cap ∧ B ≤ g ∧ Blk w g cur 44 ∧ n ≤ cap ∧ cap * 2 = cur.length ∧ cur.take (n * 2) = xs := by
  rcases h.2 with ⟨_, h0⟩ | ⟨g, cap, cur, hv, hB, hg, hnc, _, hs, ht⟩
  · omega
  · exact ⟨g, cap, cur.toList, hv, hB, ⟨by rw [Array.toArray_toList]; exact hg⟩, hnc, by rw [Array.length_toList, hs], ht⟩
theorem take_set2 {cs : List Value} {zs : List Tp} {n k : Nat} (p : Tp) (h : cs.take (n * 2) = cl zs) (hl : zs.length = n) (hk : k < n) : ((cs.set (k * 2) (.string p.1)).set (k * 2 + 1) (.int .i64 p.2)).take (n * 2) = cl (zs.set k p) := by
  rw [List.take_set, List.take_set, h, cl_set zs k p (by omega)]
theorem set_fit {zs : List Tp} {k : Nat} {x : Tp} (hf : ∀ p ∈ zs, p.1.size ≤ 9223372036854775807) (hx : x.1.size ≤ 9223372036854775807) : ∀ p ∈ zs.set k x, p.1.size ≤ 9223372036854775807 := by
  intro p hp
  rcases List.mem_or_eq_of_mem_set hp with h | h
  · exact hf p h
  · rw [h]; exact hx
theorem insert50_z (zz : List Tp) (A : Option Addr) (n c : Nat) (zs : List Tp) (x : Tp) (own : ByteArray) (c1 c2 : Nat) (w : World) (h : Tps w A n c zs) (hx : x.1.size ≤ 9223372036854775807) (hn : n ≤ 900000) (h1 : c1 < w.heap.size) (h2 : c2 < w.heap.size) (k1 : w.cell? ⟨c1, 0, none⟩ = some (.func (.func 28) #[] #[])) (k2 : w.cell? ⟨c2, 0, none⟩ = some (.string own)) (hno : ∀ q ∈ zs, pb own q = false) (hz : zz = zs ++ [x]) :
    Calls Try.prog 50 #[.slice A n c, .agg #[.string x.1, .int .i64 x.2], .func (.func 40) #[] #[.pointer (some ⟨c1, 0, none⟩), .pointer (some ⟨c2, 0, none⟩)]] w (FilP w.heap.size w zz) := by
  subst hz
  exact insert50_end A n c zs x own c1 c2 w h hx hn h1 h2 k1 k2 hno
set_option maxRecDepth 100000 in
set_option maxHeartbeats 2000000 in
theorem put38_end (A : Option Addr) (n c : Nat) (zs : List Tp) (x : Tp) (own : ByteArray) (c1 c2 : Nat) (w : World) (h : Tps w A n c zs) (hx : x.1.size ≤ 9223372036854775807) (hn : n ≤ 900000) (h1 : c1 < w.heap.size) (h2 : c2 < w.heap.size) (k1 : w.cell? ⟨c1, 0, none⟩ = some (.func (.func 28) #[] #[])) (k2 : w.cell? ⟨c2, 0, none⟩ = some (.string own)) (hno : ∀ q ∈ zs, pb own q = false) (hnu : ∀ q ∈ zs, pu own q = false) (zz : List Tp) (hz : zz = zs ++ [x]) :
    Calls Try.prog 38 #[.slice A n c, .agg #[.string x.1, .int .i64 x.2], .func (.func 39) #[] #[.pointer (some ⟨c1, 0, none⟩), .pointer (some ⟨c2, 0, none⟩)], .func (.func 40) #[] #[.pointer (some ⟨c1, 0, none⟩), .pointer (some ⟨c2, 0, none⟩)]] w (FilP w.heap.size w zz) := by
  have HZ := Lib.hid hz
  clear hz
  have H := Lib.hid h
  have HXs := Lib.hid hx
  have HN := Lib.hid hno
  have BA := Lib.hid ((Below.refl w.heap.size w).alloc (Nat.le_refl _) (.cells #[.string x.1, .int .i64 x.2] 44))
  have X0 := Lib.hid (blk_new w [.string x.1, .int .i64 x.2] 44)
  have j1 := Nat.lt_of_lt_of_le h1 BA.out.size
  have j2 := Nat.lt_of_lt_of_le h2 BA.out.size
  have K1 := Lib.hid (fun u (hu : Below (w.alloc (.cells #[.string x.1, .int .i64 x.2] 44)).heap.size (w.alloc (.cells #[.string x.1, .int .i64 x.2] 44)) u) => (hu.cell (p := ⟨c1, 0, none⟩) j1).trans ((BA.out.cell (p := ⟨c1, 0, none⟩) h1).trans k1))
  have K2 := Lib.hid (fun u (hu : Below (w.alloc (.cells #[.string x.1, .int .i64 x.2] 44)).heap.size (w.alloc (.cells #[.string x.1, .int .i64 x.2] 44)) u) => (hu.cell (p := ⟨c2, 0, none⟩) j2).trans ((BA.out.cell (p := ⟨c2, 0, none⟩) h2).trans k2))
  have HI := Lib.hid (index39 (pu own) c1 c2 A n c zs (w.alloc (.cells #[.string x.1, .int .i64 x.2] 44)) (h.below BA.out) (fun p u hu => pred39 p own c1 c2 u (Nat.lt_of_lt_of_le j1 hu.size) (Nat.lt_of_lt_of_le j2 hu.size) (K1.out u hu) (K2.out u hu)))
  have e0 : fidx (pu own) zs = -1 := by
    rcases fidx_cases (pu own) zs with ⟨e, _⟩ | ⟨k, hk, _, hq, _⟩
    · exact e
    · rw [hnu _ (by rw [List.getD_eq_getElem?_getD, List.getElem?_eq_getElem hk]; exact List.getElem_mem hk)] at hq; cases hq
  rw [e0] at HI
  clear h hx k1 k2 hno hnu e0
  have J1 := Lib.hid j1
  have J2 := Lib.hid j2
  clear j1 j2
  go_enter Try.func38, Try.ntmps38
  go_wp2_with (first
    | (go_at_call 41; (with_reducible refine HI.out.mono ?_); rintro e w1 ⟨rfl, hb1⟩; have X1 := X0.out.below hb1; have a0 := X1.cell (i := 0) rfl; have a1 := X1.cell (i := 1) rfl; have B1 := Lib.hid (BA.out.trans (hb1.mono BA.out.size)); have HIn := Lib.hid (insert50_z zz A n c zs x own c1 c2 w1 (H.out.below B1.out) HXs.out hn (Nat.lt_of_lt_of_le J1.out hb1.size) (Nat.lt_of_lt_of_le J2.out hb1.size) (K1.out w1 hb1) (K2.out w1 hb1) HN.out HZ.out); clear hb1 X1)
    | (go_at_call 50; (with_reducible refine HIn.out.mono ?_); rintro e w2 ⟨A2, cc2, rfl, hT2, hb2, hap2⟩; have T2 := Lib.hid hT2; have B2 := Lib.hid (B1.out.trans (hb2.mono B1.out.size)); have P2 := Lib.hid (fun b off e => Nat.le_trans B1.out.size (hap2 b off e)); clear hT2 hb2 hap2))
  go_ret
  exact ⟨A2, cc2, rfl, T2.out, B2.out, P2.out⟩
set_option maxRecDepth 100000 in
set_option maxHeartbeats 2000000 in
theorem put38_at (k : Nat) (A : Option Addr) (n c : Nat) (zs : List Tp) (x : Tp) (own : ByteArray) (c1 c2 : Nat) (w : World) (h : Tps w A n c zs) (hx : x.1.size ≤ 9223372036854775807) (hn : n ≤ 900000) (h1 : c1 < w.heap.size) (h2 : c2 < w.heap.size) (k1 : w.cell? ⟨c1, 0, none⟩ = some (.func (.func 28) #[] #[])) (k2 : w.cell? ⟨c2, 0, none⟩ = some (.string own)) (hk : k < n) (hf : fidx (pu own) zs = (k : Int)) (zz : List Tp) (hz : zz = zs.set k x) :
    Calls Try.prog 38 #[.slice A n c, .agg #[.string x.1, .int .i64 x.2], .func (.func 39) #[] #[.pointer (some ⟨c1, 0, none⟩), .pointer (some ⟨c2, 0, none⟩)], .func (.func 40) #[] #[.pointer (some ⟨c1, 0, none⟩), .pointer (some ⟨c2, 0, none⟩)]] w (FilP w.heap.size w zz) := by
  have HZ := Lib.hid hz
  clear hz
  have H := Lib.hid h
  have HL := Lib.hid h.len
  have HXs := Lib.hid hx
  have HBy := Lib.hid (show n * 24 ≤ 140737488355328 by omega)
  have BA := Lib.hid ((Below.refl w.heap.size w).alloc (Nat.le_refl _) (.cells #[.string x.1, .int .i64 x.2] 44))
  have X0 := Lib.hid (blk_new w [.string x.1, .int .i64 x.2] 44)
  have j1 := Nat.lt_of_lt_of_le h1 BA.out.size
  have j2 := Nat.lt_of_lt_of_le h2 BA.out.size
  have K1 := Lib.hid (fun u (hu : Below (w.alloc (.cells #[.string x.1, .int .i64 x.2] 44)).heap.size (w.alloc (.cells #[.string x.1, .int .i64 x.2] 44)) u) => (hu.cell (p := ⟨c1, 0, none⟩) j1).trans ((BA.out.cell (p := ⟨c1, 0, none⟩) h1).trans k1))
  have K2 := Lib.hid (fun u (hu : Below (w.alloc (.cells #[.string x.1, .int .i64 x.2] 44)).heap.size (w.alloc (.cells #[.string x.1, .int .i64 x.2] 44)) u) => (hu.cell (p := ⟨c2, 0, none⟩) j2).trans ((BA.out.cell (p := ⟨c2, 0, none⟩) h2).trans k2))
  have HI := Lib.hid (index39 (pu own) c1 c2 A n c zs (w.alloc (.cells #[.string x.1, .int .i64 x.2] 44)) (h.below BA.out) (fun p u hu => pred39 p own c1 c2 u (Nat.lt_of_lt_of_le j1 hu.size) (Nat.lt_of_lt_of_le j2 hu.size) (K1.out u hu) (K2.out u hu)))
  rw [hf] at HI
  clear h hx k1 k2 hf j1 j2 K1 K2
  have hkz : ¬ (k : Int) < 0 := by omega
  have hkn : (k : Int) < (n : Int) := by omega
  go_enter Try.func38, Try.ntmps38
  go_wp2_with (first
    | (go_at_call 41; (with_reducible refine HI.out.mono ?_); rintro e w1 ⟨rfl, hb1⟩; have X1 := Lib.hid (X0.out.below hb1); have B1 := Lib.hid (BA.out.trans (hb1.mono BA.out.size)); clear hb1)
    | (go_at_call 51; (with_reducible refine (clone51 A n c (rowT zs) w1 (H.out.below B1.out).rws HBy.out).mono ?_); rintro e w2 ⟨A1, c3, rfl, hC⟩; have hO := hC.own; rw [← HL.out, flat_cl, HL.out] at hO; obtain ⟨g1, cap1, cur1, hv, hB1, hX1, hnc, hcl, htk⟩ := own_pos hO (by omega); simp only [Value.slice.injEq, true_and] at hv; obtain ⟨rfl, rfl⟩ := hv; have X2 := X1.out.below hC.bel; have a0 := X2.cell (i := 0) rfl; have a1 := X2.cell (i := 1) rfl; have Y2 := Lib.hid hX1; have L2 := Lib.hid hcl; have T2 := Lib.hid htk; have N2 := Lib.hid hnc; have B2 := Lib.hid (B1.out.trans (hC.bel.mono B1.out.size)); have G2 := Lib.hid (Nat.le_trans B1.out.size hB1); have HTh := Lib.hid (hX1.thereAt (k * 2) 2 (by omega)); clear hC hO hX1 hcl htk hnc hB1 X2)
    | (refine store_mid_as rfl 44 _ _ rfl g1 (k * 2) #[.string x.1, .int .i64 x.2] rfl rfl HTh.out size44 (two_one x) ?_; intro w4 e4; have Y4 : Hid (Blk w4 g1 ((cur1.set (k * 2) (.string x.1)).set (k * 2 + 1) (.int .i64 x.2)) 44) := Lib.hid (by rw [e4]; exact (Y2.out.set (k * 2) (.string x.1)).set (k * 2 + 1) (.int .i64 x.2)); have B4 : Hid (Below w.heap.size w w4) := Lib.hid (by rw [e4]; exact below_setAll G2.out _ _ _ B2.out); clear e4 a0 a1))
  go_ret
  have hl : zz.length = n := by rw [HZ.out, List.length_set]; exact HL.out
  refine ⟨some ⟨g1, 0, none⟩, c3, ret_slice2 hl, ?_, B4.out, fun b off e => by cases e; exact G2.out⟩
  rw [hl]
  exact Tps.ofBlk Y4.out (by rw [HZ.out]; exact take_set2 x T2.out HL.out hk) hl N2.out (by omega) (by rw [HZ.out]; exact set_fit H.out.fit HXs.out)
set_option maxRecDepth 100000 in
set_option maxHeartbeats 2000000 in
theorem named27_end (A : Option Addr) (n c : Nat) (zs : List Tp) (x : Tp) (w : World) (h : Tps w A n c zs) (hx : x.1.size ≤ 9223372036854775807) (hn : n ≤ 900000) (hno : ∀ q ∈ zs, pb x.1 q = false) (hnu : ∀ q ∈ zs, pu x.1 q = false) (zz : List Tp) (hz : zz = zs ++ [x]) :
    Calls Try.prog 27 #[.slice A n c, .agg #[.string x.1, .int .i64 x.2], .func (.func 28) #[] #[]] w (FilP w.heap.size w zz) := by
  have HZ := Lib.hid hz
  clear hz
  have H := Lib.hid h
  have HXs := Lib.hid hx
  have B2 := Lib.hid (((Below.refl w.heap.size w).alloc (Nat.le_refl _) (.cells #[.string x.1, .int .i64 x.2] 44)).alloc (by simp) (.cells #[.func (.func 28) #[] #[]] 47))
  have X2 := Lib.hid ((blk_new w [.string x.1, .int .i64 x.2] 44).alloc (.cells #[.func (.func 28) #[] #[]] 47))
  have F2 := Lib.hid (show Blk ((w.alloc (.cells #[.string x.1, .int .i64 x.2] 44)).alloc (.cells #[.func (.func 28) #[] #[]] 47)) (w.heap.size + 1) [.func (.func 28) #[] #[]] 47 by
    have := blk_new (w.alloc (.cells #[.string x.1, .int .i64 x.2] 44)) [.func (.func 28) #[] #[]] 47
    rw [show (w.alloc (.cells #[.string x.1, .int .i64 x.2] 44)).heap.size = w.heap.size + 1 by simp] at this
    exact this)
  have HN := Lib.hid hno
  have HU := Lib.hid hnu
  clear hno hnu
  clear h hx
  go_enter Try.func27, Try.ntmps27
  go_wp2_with (first
    | (go_at_call 28; (with_reducible refine (pred28 x _).mono ?_); rintro e w1 ⟨rfl, hb1⟩; have X3 := X2.out.below hb1; have F3 := F2.out.below hb1; have a0 := X3.cell (i := 0) rfl; have a1 := X3.cell (i := 1) rfl; have b0 := (X3.alloc (.cells #[.string x.1] 9)).cell (i := 0) rfl; have b1 := (X3.alloc (.cells #[.string x.1] 9)).cell (i := 1) rfl; have f0 := F3.cell (i := 0) rfl; have B3 := Lib.hid (B2.out.trans (hb1.mono B2.out.size)); have B4 := Lib.hid (B3.out.alloc B3.out.size (.cells #[.string x.1] 9)); have L4 := Lib.hid (blk_new w1 [.string x.1] 9); have F4 := Lib.hid (F3.alloc (.cells #[.string x.1] 9)); have HPu := Lib.hid (put38_end A n c zs x x.1 (w.heap.size + 1) w1.heap.size (w1.alloc (.cells #[.string x.1] 9)) (H.out.below B4.out) HXs.out hn F4.out.lt L4.out.lt (F4.out.cell (i := 0) rfl) (L4.out.cell (i := 0) rfl) HN.out HU.out zz HZ.out); clear hb1 X3 F3)
    | (go_at_call 38; (with_reducible refine HPu.out.mono ?_); rintro e w5 ⟨A5, c5, rfl, hT5, hb5, hap5⟩; have T5 := Lib.hid hT5; have B5 := Lib.hid (B4.out.trans (hb5.mono B4.out.size)); have P5 := Lib.hid (fun b off e => Nat.le_trans B4.out.size (hap5 b off e)); clear hT5 hb5 hap5))
  go_ret
  exact ⟨A5, c5, rfl, T5.out, B5.out, P5.out⟩
set_option maxRecDepth 100000 in
set_option maxHeartbeats 2000000 in
theorem named27_at (A : Option Addr) (n c : Nat) (zs : List Tp) (x : Tp) (w : World) (h : Tps w A n c zs) (hx : x.1.size ≤ 9223372036854775807) (hn : n ≤ 900000) (k : Nat) (hk : k < n) (hf : fidx (pu x.1) zs = (k : Int)) (zz : List Tp) (hz : zz = zs.set k x) :
    Calls Try.prog 27 #[.slice A n c, .agg #[.string x.1, .int .i64 x.2], .func (.func 28) #[] #[]] w (FilP w.heap.size w zz) := by
  have HZ := Lib.hid hz
  clear hz
  have H := Lib.hid h
  have HXs := Lib.hid hx
  have B2 := Lib.hid (((Below.refl w.heap.size w).alloc (Nat.le_refl _) (.cells #[.string x.1, .int .i64 x.2] 44)).alloc (by simp) (.cells #[.func (.func 28) #[] #[]] 47))
  have X2 := Lib.hid ((blk_new w [.string x.1, .int .i64 x.2] 44).alloc (.cells #[.func (.func 28) #[] #[]] 47))
  have F2 := Lib.hid (show Blk ((w.alloc (.cells #[.string x.1, .int .i64 x.2] 44)).alloc (.cells #[.func (.func 28) #[] #[]] 47)) (w.heap.size + 1) [.func (.func 28) #[] #[]] 47 by
    have := blk_new (w.alloc (.cells #[.string x.1, .int .i64 x.2] 44)) [.func (.func 28) #[] #[]] 47
    rw [show (w.alloc (.cells #[.string x.1, .int .i64 x.2] 44)).heap.size = w.heap.size + 1 by simp] at this
    exact this)
  have HK := Lib.hid hk
  have HF := Lib.hid hf
  clear hk hf
  clear h hx
  go_enter Try.func27, Try.ntmps27
  go_wp2_with (first
    | (go_at_call 28; (with_reducible refine (pred28 x _).mono ?_); rintro e w1 ⟨rfl, hb1⟩; have X3 := X2.out.below hb1; have F3 := F2.out.below hb1; have a0 := X3.cell (i := 0) rfl; have a1 := X3.cell (i := 1) rfl; have b0 := (X3.alloc (.cells #[.string x.1] 9)).cell (i := 0) rfl; have b1 := (X3.alloc (.cells #[.string x.1] 9)).cell (i := 1) rfl; have f0 := F3.cell (i := 0) rfl; have B3 := Lib.hid (B2.out.trans (hb1.mono B2.out.size)); have B4 := Lib.hid (B3.out.alloc B3.out.size (.cells #[.string x.1] 9)); have L4 := Lib.hid (blk_new w1 [.string x.1] 9); have F4 := Lib.hid (F3.alloc (.cells #[.string x.1] 9)); have HPu := Lib.hid (put38_at k A n c zs x x.1 (w.heap.size + 1) w1.heap.size (w1.alloc (.cells #[.string x.1] 9)) (H.out.below B4.out) HXs.out hn F4.out.lt L4.out.lt (F4.out.cell (i := 0) rfl) (L4.out.cell (i := 0) rfl) HK.out HF.out zz HZ.out); clear hb1 X3 F3)
    | (go_at_call 38; (with_reducible refine HPu.out.mono ?_); rintro e w5 ⟨A5, c5, rfl, hT5, hb5, hap5⟩; have T5 := Lib.hid hT5; have B5 := Lib.hid (B4.out.trans (hb5.mono B4.out.size)); have P5 := Lib.hid (fun b off e => Nat.le_trans B4.out.size (hap5 b off e)); clear hT5 hb5 hap5))
  go_ret
  exact ⟨A5, c5, rfl, T5.out, B5.out, P5.out⟩
end Go.Proofs.Ytjifohepbmaebaa
