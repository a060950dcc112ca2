/- Media: the walks of MediaChecks, MediaFetches. -/
import Derived.Test.YtahcmhjcpkjccaaE1
namespace Go.Proofs.Ytahcmhjcpkjccaa
open Go.RowKit
set_option linter.unusedVariables false
set_option linter.unusedSimpArgs false

theorem get12_lit (A : Option Addr) (n c : Nat) (zs : List Rc) (s t : ByteArray) (w : World) (h : Rcs w A n c zs) (g : Rc) (b : Bool) (hg : getR s t zs = (g, b)) : Calls Try.prog 12 #[.slice A n c, .string s, .string t] w fun e w' => e = .returned (.tuple #[.agg #[.string g.sv, .string g.nm, .int .i64 g.sz, .int .i64 g.tt, .int .i64 g.st], .bool b]) ∧ Below w.heap.size w w' :=
  (get12 A n c zs s t w h).mono fun e w' h => by rw [hg] at h; exact h
set_option maxRecDepth 100000 in
set_option maxHeartbeats 8000000 in
theorem checks_walk (A : Option Addr) (n c : Nat) (zs : List Rc) (s t : ByteArray) (w : World) (h : Rcs w A n c zs) : Calls Try.prog 3 #[.slice A n c, .string s, .string t] w fun e w' => e = .returned (.bool true) ∧ Below w.heap.size w w' := by
  by_cases hn : n ≤ 50
  · have H := Lib.hid h
    obtain ⟨g, b, hg⟩ : ∃ g b, getR s t zs = (g, b) := ⟨_, _, rfl⟩
    have HG := Lib.hid hg
    have HC1 := Lib.hid (fun u (hb : Below w.heap.size w u) => check13 A n c zs u (h.below hb) (by omega))
    have HC2 := Lib.hid (fun u (hb : Below w.heap.size w u) => check14 A n c zs u (h.below hb) (by omega))
    have HT1 := Lib.hid (fun u (hb : Below w.heap.size w u) => total15 A n c zs u (h.below hb) (by omega))
    have HT2 := Lib.hid (fun u (hb : Below w.heap.size w u) => total16 A n c zs u (h.below hb) (by omega))
    generalize chk zs n = r at HC1 HC2
    generalize totR zs n = z at HT1 HT2
    clear h hg
    go_enter Try.func3, Try.ntmps3
    have B0 := Lib.hid (Below.refl w.heap.size w)
    go_wp2_with (first
      | (go_at_call 9; (with_reducible refine (great_no A n c _ hn).mono ?_); rintro e w1 ⟨rfl, rfl⟩)
      | (go_at_call 11; (with_reducible refine (get11_lit A n c zs s t _ H.out g b HG.out).mono ?_); rintro e w1 ⟨rfl, hb⟩; have X1 := Lib.hid (blk_new w1 [.string g.sv, .string g.nm, .int .i64 g.sz, .int .i64 g.tt, .int .i64 g.st] 26); have B1 := Lib.hid (hb.alloc hb.size (.cells #[.string g.sv, .string g.nm, .int .i64 g.sz, .int .i64 g.tt, .int .i64 g.st] 26)); clear hb)
      | (go_at_call 12; (with_reducible refine (get12_lit A n c zs s t _ (H.out.below B1.out) g b HG.out).mono ?_); rintro e w2 ⟨rfl, hb⟩; have B20 := Lib.hid (B1.out.trans (hb.mono B1.out.size)); have X2 := Lib.hid ((X1.out.below hb).alloc (.cells #[.string g.sv, .string g.nm, .int .i64 g.sz, .int .i64 g.tt, .int .i64 g.st] 26)); have Y2 := Lib.hid (blk_new w2 [.string g.sv, .string g.nm, .int .i64 g.sz, .int .i64 g.tt, .int .i64 g.st] 26); have B2 := Lib.hid (B20.out.alloc B20.out.size (.cells #[.string g.sv, .string g.nm, .int .i64 g.sz, .int .i64 g.tt, .int .i64 g.st] 26)); clear hb)
      | (go_at_call 13; (with_reducible refine (HC1.out _ B2.out).mono ?_); rintro e w3 ⟨rfl, hb⟩; have X3 := Lib.hid (X2.out.below hb); have Y3 := Lib.hid (Y2.out.below hb); have B3 := Lib.hid (B2.out.trans (hb.mono B2.out.size)); clear hb)
      | (go_at_call 14; (with_reducible refine (HC2.out _ B3.out).mono ?_); rintro e w4 ⟨rfl, hb⟩; have X4 := Lib.hid (X3.out.below hb); have Y4 := Lib.hid (Y3.out.below hb); have B4 := Lib.hid (B3.out.trans (hb.mono B3.out.size)); clear hb)
      | (go_at_call 15; (with_reducible refine (HT1.out _ B4.out).mono ?_); rintro e w5 ⟨rfl, hb⟩; have X5 := Lib.hid (X4.out.below hb); have Y5 := Lib.hid (Y4.out.below hb); have B5 := Lib.hid (B4.out.trans (hb.mono B4.out.size)); clear hb)
      | (go_at_call 16; (with_reducible refine (HT2.out _ B5.out).mono ?_); rintro e w6 ⟨rfl, hb⟩; have X6 := Lib.hid (X5.out.below hb); have Y6 := Lib.hid (Y5.out.below hb); have B6 := Lib.hid (B5.out.trans (hb.mono B5.out.size)); have c0 := X6.out.cell (i := 0) rfl; have c1 := X6.out.cell (i := 1) rfl; have c2 := X6.out.cell (i := 2) rfl; have c3 := X6.out.cell (i := 3) rfl; have c4 := X6.out.cell (i := 4) rfl; have d0 := Y6.out.cell (i := 0) rfl; have d1 := Y6.out.cell (i := 1) rfl; have d2 := Y6.out.cell (i := 2) rfl; have d3 := Y6.out.cell (i := 3) rfl; have d4 := Y6.out.cell (i := 4) rfl; clear hb)
      | (go_at_call 17; (with_reducible refine (sameOne17 g _).mono ?_); rintro e w7 ⟨rfl, hb⟩; have B7 := Lib.hid (B6.out.trans (hb.mono B6.out.size)); clear hb)
      | (go_at_call 10; (with_reducible refine (awake10 _).mono ?_); rintro e w8 ⟨rfl, hb⟩; have B8 := Lib.hid (B7.out.trans (hb.mono B7.out.size)); clear hb))
    go_ret
    exact ⟨rfl, B8.out⟩
  · clear h
    go_enter Try.func3, Try.ntmps3
    go_wp2_with (first
      | (go_at_call 9; (with_reducible refine (great_yes A n c _ hn).mono ?_); rintro e w1 ⟨rfl, rfl⟩)
      | (go_at_call 10; (with_reducible refine (awake10 _).mono ?_); rintro e w2 ⟨rfl, hb⟩; have B2 := Lib.hid hb; clear hb))
    go_ret
    exact ⟨rfl, B2.out⟩
set_option maxRecDepth 100000 in
set_option maxHeartbeats 8000000 in
theorem fetches_walk (A : Option Addr) (n c : Nat) (zs : List Rc) (o s t : ByteArray) (size now : Int) (hs : s.size ≤ 9223372036854775807) (ht : t.size ≤ 9223372036854775807) (w : World) (h : Rcs w A n c zs) : Calls Try.prog 5 #[.slice A n c, .agg #[.string o, .string s, .string t, .int .i64 size, .int .i64 now]] w fun e w' => e = .returned (.bool true) ∧ Below w.heap.size w w' := by
  have B0 := Lib.hid ((Below.refl w.heap.size w).alloc (Nat.le_refl _) (.cells #[.string o, .string s, .string t, .int .i64 size, .int .i64 now] 40))
  have X0 := Lib.hid (blk_new w [.string o, .string s, .string t, .int .i64 size, .int .i64 now] 40)
  by_cases hn : n ≤ 50
  · have H := Lib.hid h
    have HF1 := Lib.hid (fun u (hb : Below w.heap.size w u) => fetch23 A n c zs o s t size now u (h.below hb) hs ht (by omega))
    have HF2 := Lib.hid (fun u (hb : Below w.heap.size w u) => rfetch24 A n c zs o s t size now u (h.below hb) hs ht (by omega))
    rw [← fetL_eq] at HF2
    generalize fetL zs o s t size now = zz at HF1 HF2
    generalize fetE zs o s t size now = r at HF1 HF2
    have Y0 := Lib.hid X0.out
    clear h
    go_enter Try.func5, Try.ntmps5
    go_wp2_with (first
      | (go_at_call 9; (with_reducible refine (great_no A n c _ hn).mono ?_); rintro e w1 ⟨rfl, rfl⟩; have c0 := X0.out.cell (i := 0) rfl; have c1 := X0.out.cell (i := 1) rfl; have c2 := X0.out.cell (i := 2) rfl; have c3 := X0.out.cell (i := 3) rfl; have c4 := X0.out.cell (i := 4) rfl;)
      | (go_at_call 23; (with_reducible refine (HF1.out _ B0.out).mono ?_); rintro e w1 ⟨A1, c1, rfl, hT, hb⟩; have X1 := Lib.hid (X0.out.below hb); have B1 := Lib.hid (B0.out.trans (hb.mono B0.out.size)); have d0 := X1.out.cell (i := 0) rfl; have d1 := X1.out.cell (i := 1) rfl; have d2 := X1.out.cell (i := 2) rfl; have d3 := X1.out.cell (i := 3) rfl; have d4 := X1.out.cell (i := 4) rfl; have T1 := Lib.hid hT; clear hT; clear hb)
      | (go_at_call 24; (with_reducible refine (HF2.out _ B1.out).mono ?_); rintro e w2 ⟨A2, c2, rfl, hT, hb⟩; have T2 := Lib.hid (T1.out.below hb); have B2 := Lib.hid (B1.out.trans (hb.mono B1.out.size)); have U2 := Lib.hid hT; clear hT; clear hb)
      | (go_at_call 20; (with_reducible refine (same20 A1 A2 _ c1 c2 zz _ T2.out U2.out).mono ?_); rintro e w3 ⟨rfl, hb⟩; have B3 := Lib.hid (B2.out.trans (hb.mono B2.out.size)); clear hb)
      | (go_at_call 10; (with_reducible refine (awake10 _).mono ?_); rintro e w4 ⟨rfl, hb⟩; have B4 := Lib.hid (B3.out.trans (hb.mono B3.out.size)); clear hb))
    go_ret
    exact ⟨rfl, B4.out⟩
  · clear h
    go_enter Try.func5, Try.ntmps5
    go_wp2_with (first
      | (go_at_call 9; (with_reducible refine (great_yes A n c _ hn).mono ?_); rintro e w1 ⟨rfl, rfl⟩)
      | (go_at_call 10; (with_reducible refine (awake10 _).mono ?_); rintro e w2 ⟨rfl, hb⟩; have B2 := Lib.hid hb; clear hb))
    go_ret
    exact ⟨rfl, B0.out.trans (B2.out.mono B0.out.size)⟩
end Go.Proofs.Ytahcmhjcpkjccaa
