/- Media: the reference's with. Bound: at most 900000 files. -/
import Derived.Test.YtahcmhjcpkjccaaC9
namespace Go.Proofs.Ytahcmhjcpkjccaa
open Go.RowKit
set_option linter.unusedVariables false
set_option linter.unusedSimpArgs false

set_option maxRecDepth 100000 in
set_option maxHeartbeats 4000000 in
theorem with38 (A : Option Addr) (n c k : Nat) (zs : List Rc) (m : Rc) (w : World) (h : Rcs w A n c zs) (hm : fitR m) (hn : n ≤ 900000) (hk : k < n) (zz : List Rc) (hz : zz = zs.set k m) : Calls Try.prog 38 #[.slice A n c, .int .i64 (k : Int), .agg #[.string m.sv, .string m.nm, .int .i64 m.sz, .int .i64 m.tt, .int .i64 m.st]] w (FilP w.heap.size w zz) := by
  have HZ := Lib.hid hz
  have H := Lib.hid h
  have HL := Lib.hid h.len
  have HM := Lib.hid hm
  obtain ⟨i0, hi, hz0, hz1, hz2⟩ := info_parts info44
  have HI := Lib.hid (And.intro hi (And.intro hz0 (And.intro hz1 hz2)))
  have B1 := Lib.hid ((Below.refl w.heap.size w).alloc (Nat.le_refl _) (.cells #[.string m.sv, .string m.nm, .int .i64 m.sz, .int .i64 m.tt, .int .i64 m.st] 26))
  have B2 := Lib.hid (B1.out.alloc B1.out.size (.cells #[] 26))
  have X2 := Lib.hid ((blk_new w [.string m.sv, .string m.nm, .int .i64 m.sz, .int .i64 m.tt, .int .i64 m.st] 26).alloc (.cells #[] 26))
  have O2 : Hid (((w.alloc (.cells #[.string m.sv, .string m.nm, .int .i64 m.sz, .int .i64 m.tt, .int .i64 m.st] 26)).alloc (.cells #[] 26)).ownsRow w.heap.size 26 5 (.slice (some ⟨w.heap.size + 1, 0, none⟩) 0 0) 0 []) := Lib.hid (by
    have := World.ownsRow_made (base := w.heap.size) (e := 26) (size := 5) (w.alloc (.cells #[.string m.sv, .string m.nm, .int .i64 m.sz, .int .i64 m.tt, .int .i64 m.st] 26)) #[] 0 B1.out.size (by decide) (by simp)
    rw [show (w.alloc (.cells #[.string m.sv, .string m.nm, .int .i64 m.sz, .int .i64 m.tt, .int .i64 m.st] 26)).heap.size = w.heap.size + 1 by simp] at this
    exact this)
  have S2 := Lib.hid ((H.out.below B2.out).src)
  have hkn : (k : Int) < (n : Int) := by omega
  clear h hi hz0 hz1 hz2 hz hm
  go_enter Try.func38, Try.ntmps38
  go_wp2_with (first
    | (at_builtin; refine wpList_append_any _ rfl (.tmp 8) (.tmp 9) 22 rfl w.heap.size 26 i0 _ 5 56 Try.underlying22 HI.out.1 HI.out.2.1 HI.out.2.2.1 HI.out.2.2.2 rfl (by decide) (.slice (some ⟨w.heap.size + 1, 0, none⟩) 0 0) 0 [] rfl O2.out A n c (cl zs) rfl S2.out (by unfold maxLen; omega) (by omega) B2.out.size ?_; intro v3 w3 hgr; have B3 := Lib.hid (hgr.below B2.out O2.out); have X3 : Hid (Blk w3 w.heap.size [.string m.sv, .string m.nm, .int .i64 m.sz, .int .i64 m.tt, .int .i64 m.st] 26) := Lib.hid ⟨(hgr.grow.block w.heap.size X2.out.lt (by simp [Value.ownBlock])).trans X2.out.heap⟩; have O3 := Lib.hid hgr.own; clear hgr; rw [Nat.zero_add, List.nil_append] at O3; obtain ⟨g1, c1, cur, rfl, hB1, hX1, hnc, hcm, hcl, htk⟩ := own_pos O3.out (by omega); have a0 := X3.out.cell (i := 0) rfl; have a1 := X3.out.cell (i := 1) rfl; have a2 := X3.out.cell (i := 2) rfl; have a3 := X3.out.cell (i := 3) rfl; have a4 := X3.out.cell (i := 4) rfl; have Y3 := Lib.hid hX1; have L3 := Lib.hid hcl; have N3 := Lib.hid hnc; have G3 := Lib.hid hB1; have TK := Lib.hid htk; have HTh := Lib.hid (hX1.thereAt' (k * 5) 5 (by omega)); clear hB1 hX1 hnc hcm hcl htk O3)
    | (refine store_mid_as rfl 26 _ _ rfl g1 (k * 5) #[.string m.sv, .string m.nm, .int .i64 m.sz, .int .i64 m.tt, .int .i64 m.st] rfl rfl HTh.out size44 (all_one m) ?_; intro w4 e4; have Y4 : Hid (Blk w4 g1 (splice cur (k * 5) (enc m)) 26) := Lib.hid (by rw [e4]; exact Y3.out.setMid (k * 5) (enc m) (by rw [enc_len]; have := L3.out; have := N3.out; omega)); have B4 : Hid (Below w.heap.size w w4) := Lib.hid (by rw [e4]; exact below_setAll G3.out _ _ _ B3.out); clear e4 a0 a1 a2 a3 a4))
  go_ret
  have hl : zz.length = n := by rw [HZ.out, List.length_set]; exact HL.out
  refine ⟨some ⟨g1, 0, none⟩, c1, ret_slice2 hl, ?_, B4.out, fun b off e => by cases e; exact G3.out⟩
  rw [hl]
  exact Rcs.ofBlk Y4.out (by rw [HZ.out]; exact splice_set m TK.out HL.out hk (by have := L3.out; have := N3.out; omega)) hl N3.out (by omega) (by rw [HZ.out]; exact set_fit H.out.fit HM.out)
end Go.Proofs.Ytahcmhjcpkjccaa
