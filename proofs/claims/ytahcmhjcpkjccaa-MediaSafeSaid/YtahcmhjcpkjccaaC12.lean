/- Media: the reference's Add. Bound: at most 900000 files. -/
import Derived.Test.YtahcmhjcpkjccaaC11
namespace Go.Proofs.Ytahcmhjcpkjccaa
open Go.RowKit
set_option linter.unusedVariables false
set_option linter.unusedSimpArgs false

theorem place28b (A : Option Addr) (n c : Nat) (zs : List Rc) (s t : ByteArray) (w : World) (h : Rcs w A n c zs) : Calls Try.prog 28 #[.slice A n c, .string s, .string t] w fun e w' => e = .returned (.int .i64 (fidx (pF s t) zs)) ∧ Below w.heap.size w w' :=
  (place28 A n c zs s t w h).mono fun e w' ⟨h1, h2⟩ => ⟨h1, by subst h2; exact Below.refl _ _⟩
/-- The list of the reference's Add. -/
def raddL (zs : List Rc) (m : Rc) : List Rc := if addE zs m = 0 then rputL m zs else []
set_option maxRecDepth 100000 in
set_option maxHeartbeats 4000000 in
theorem radd19 (A : Option Addr) (n c : Nat) (zs : List Rc) (m : Rc) (w : World) (h : Rcs w A n c zs) (hm : fitR m) (hn : n ≤ 900000) : Calls Try.prog 19 #[.slice A n c, .agg #[.string m.sv, .string m.nm, .int .i64 m.sz, .int .i64 m.tt, .int .i64 m.st]] w (StR w (raddL zs m) (addE zs m)) := by
  have H := Lib.hid h
  have BA := Lib.hid ((Below.refl w.heap.size w).alloc (Nat.le_refl _) (.cells #[.string m.sv, .string m.nm, .int .i64 m.sz, .int .i64 m.tt, .int .i64 m.st] 26))
  have X0 := Lib.hid (blk_new w [.string m.sv, .string m.nm, .int .i64 m.sz, .int .i64 m.tt, .int .i64 m.st] 26)
  have hC := check14 A n c zs (w.alloc (.cells #[.string m.sv, .string m.nm, .int .i64 m.sz, .int .i64 m.tt, .int .i64 m.st] 26)) (h.below BA.out) hn
  rw [show chk zs n = chk zs zs.length by rw [h.len]] at hC
  have HC := Lib.hid hC
  have HM := Lib.hid hm
  have HX := Lib.hid (show addE zs m = if chk zs zs.length = 0 then (if fileE m = 0 then (if fidx (pF m.sv m.nm) zs = -1 then 0 else 4) else fileE m) else chk zs zs.length from rfl)
  have HLd := Lib.hid (show raddL zs m = if addE zs m = 0 then rputL m zs else [] from rfl)
  have HCF := Lib.hid (fun u => one31 m hm u)
  have HFi := Lib.hid (fun u (hb : Below w.heap.size w u) => place28b A n c zs m.sv m.nm u (h.below hb))
  have HPu := Lib.hid (fun u (hb : Below w.heap.size w u) => rput34 A n c zs m u (h.below hb) hm hn (rputL m zs) rfl)
  have HK : Hid (fidx (pF m.sv m.nm) zs ≠ -1 → 0 ≤ fidx (pF m.sv m.nm) zs) := Lib.hid (fun hne => by
    rcases fidx_cases (pF m.sv m.nm) zs with ⟨e, _⟩ | ⟨k, _, e, _, _⟩
    · exact absurd e hne
    · omega)
  clear h hm hC
  generalize rputL m zs = pz at HLd HPu
  generalize chk zs zs.length = r1 at HC HX
  generalize fileE m = r2 at HCF HX
  generalize fidx (pF m.sv m.nm) zs = k at HFi HX HK
  generalize addE zs m = r at HX HLd ⊢
  generalize raddL zs m = zz at HLd ⊢
  by_cases h1 : r1 = 0
  · subst h1
    by_cases h2 : r2 = 0
    · subst h2
      by_cases h3 : k = -1
      · subst h3
        have hr : r = 0 := by rw [HX.out]; rfl
        subst hr
        have hz : zz = pz := by rw [HLd.out]; rfl
        subst hz
        clear HX HLd
        go_enter Try.func19, Try.ntmps19
        go_wp2_with (first
          | (go_at_call 14; (with_reducible refine HC.out.mono ?_); rintro e w1 ⟨rfl, hb⟩; have X1 := Lib.hid (X0.out.below hb); have a0 := (X1.out).cell (i := 0) rfl; have a1 := (X1.out).cell (i := 1) rfl; have a2 := (X1.out).cell (i := 2) rfl; have a3 := (X1.out).cell (i := 3) rfl; have a4 := (X1.out).cell (i := 4) rfl; have B1 := Lib.hid (BA.out.trans (hb.mono BA.out.size)); clear hb)
          | (go_at_call 31; (with_reducible refine (HCF.out _).mono ?_); rintro e w2 ⟨rfl, hb⟩; have X2 := Lib.hid (X1.out.below hb); have b0 := (X2.out).cell (i := 0) rfl; have b1 := (X2.out).cell (i := 1) rfl; have b2 := (X2.out).cell (i := 2) rfl; have b3 := (X2.out).cell (i := 3) rfl; have b4 := (X2.out).cell (i := 4) rfl; have B2 := Lib.hid (B1.out.trans (hb.mono B1.out.size)); clear hb)
          | (go_at_call 28; (with_reducible refine (HFi.out _ B2.out).mono ?_); rintro e w3 ⟨rfl, hb⟩; have X3 := Lib.hid (X2.out.below hb); have d0 := (X3.out).cell (i := 0) rfl; have d1 := (X3.out).cell (i := 1) rfl; have d2 := (X3.out).cell (i := 2) rfl; have d3 := (X3.out).cell (i := 3) rfl; have d4 := (X3.out).cell (i := 4) rfl; have B3 := Lib.hid (B2.out.trans (hb.mono B2.out.size)); clear hb)
          | (go_at_call 34; (with_reducible refine (HPu.out _ B3.out).mono ?_); rintro e w4 ⟨A4, q4, rfl, hT, hb, _⟩; have T4 := Lib.hid hT; have B4 := Lib.hid (B3.out.trans (hb.mono B3.out.size)); clear hT hb))
        go_ret2
        exact ⟨A4, q4, rfl, T4.out, B4.out⟩
      · have hr : r = 4 := by rw [HX.out, if_pos rfl, if_pos rfl, if_neg h3]
        subst hr
        have hz : zz = [] := by rw [HLd.out]; rfl
        subst hz
        have hk0 : (0 : Int) ≤ k := HK.out h3
        clear HX HLd h3
        go_enter Try.func19, Try.ntmps19
        go_wp2_with (first
          | (go_at_call 14; (with_reducible refine HC.out.mono ?_); rintro e w1 ⟨rfl, hb⟩; have X1 := Lib.hid (X0.out.below hb); have a0 := (X1.out).cell (i := 0) rfl; have a1 := (X1.out).cell (i := 1) rfl; have a2 := (X1.out).cell (i := 2) rfl; have a3 := (X1.out).cell (i := 3) rfl; have a4 := (X1.out).cell (i := 4) rfl; have B1 := Lib.hid (BA.out.trans (hb.mono BA.out.size)); clear hb)
          | (go_at_call 31; (with_reducible refine (HCF.out _).mono ?_); rintro e w2 ⟨rfl, hb⟩; have X2 := Lib.hid (X1.out.below hb); have b0 := (X2.out).cell (i := 0) rfl; have b1 := (X2.out).cell (i := 1) rfl; have b2 := (X2.out).cell (i := 2) rfl; have b3 := (X2.out).cell (i := 3) rfl; have b4 := (X2.out).cell (i := 4) rfl; have B2 := Lib.hid (B1.out.trans (hb.mono B1.out.size)); clear hb)
          | (go_at_call 28; (with_reducible refine (HFi.out _ B2.out).mono ?_); rintro e w3 ⟨rfl, hb⟩; have B3 := Lib.hid (B2.out.trans (hb.mono B2.out.size)); clear hb))
        go_ret2
        exact st_nil B3.out
    · have hr : r = r2 := by rw [HX.out, if_pos rfl, if_neg h2]
      subst hr
      have hz : zz = [] := by rw [HLd.out, if_neg h2]
      subst hz
      have hrb : (r != 0) = true := by simpa using h2
      have hrc : (r == 0) = false := by simpa using h2
      clear HX HLd h2
      go_enter Try.func19, Try.ntmps19
      go_wp2_with (first
        | (go_at_call 14; (with_reducible refine HC.out.mono ?_); rintro e w1 ⟨rfl, hb⟩; have X1 := Lib.hid (X0.out.below hb); have a0 := (X1.out).cell (i := 0) rfl; have a1 := (X1.out).cell (i := 1) rfl; have a2 := (X1.out).cell (i := 2) rfl; have a3 := (X1.out).cell (i := 3) rfl; have a4 := (X1.out).cell (i := 4) rfl; have B1 := Lib.hid (BA.out.trans (hb.mono BA.out.size)); clear hb)
        | (go_at_call 31; (with_reducible refine (HCF.out _).mono ?_); rintro e w2 ⟨rfl, hb⟩; have B2 := Lib.hid (B1.out.trans (hb.mono B1.out.size)); clear hb))
      go_ret2
      exact st_nil B2.out
  · have hr : r = r1 := by rw [HX.out, if_neg h1]
    subst hr
    have hz : zz = [] := by rw [HLd.out, if_neg h1]
    subst hz
    have hrb : (r != 0) = true := by simpa using h1
    have hrc : (r == 0) = false := by simpa using h1
    clear HX HLd h1
    go_enter Try.func19, Try.ntmps19
    go_wp2_with (go_at_call 14; (with_reducible refine HC.out.mono ?_); rintro e w1 ⟨rfl, hb⟩; have B1 := Lib.hid (BA.out.trans (hb.mono BA.out.size)); clear hb)
    go_ret2
    exact st_nil B1.out
end Go.Proofs.Ytahcmhjcpkjccaa
