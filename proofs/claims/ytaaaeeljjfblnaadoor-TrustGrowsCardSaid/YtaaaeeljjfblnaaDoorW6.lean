/- A case: whether it is small, and the trust in its device. Condition: the listed table. -/
import Derived.Test.YtaaaeeljjfblnaaDoorW5
namespace Go.Proofs.YtaaaeeljjfblnaaDoor
open Go.RowKit
set_option linter.unusedVariables false
set_option linter.unusedSimpArgs false
set_option maxRecDepth 100000

/-- A case. -/
structure Cs where
  o : Ks
  t : Ks
  dev : ByteArray
  vA : Option Addr
  vn : Nat
  vc : Nat
  ver : List Int
  bA : Option Addr
  bn : Nat
  bc : Nat
  blk : List T.Rc
  s : Bool
abbrev cellsC (c : Cs) : List Value := [.string c.o.us, .int .i64 c.o.ms, .int .i64 c.o.ps, .slice c.o.A c.o.n c.o.c, .string c.t.us, .int .i64 c.t.ms, .int .i64 c.t.ps, .slice c.t.A c.t.n c.t.c, .string c.dev, .slice c.vA c.vn c.vc, .slice c.bA c.bn c.bc, .bool c.s]
/-- What stands behind a case, whatever its size. -/
structure RawC (w : World) (c : Cs) : Prop where
  o : IsK w c.o
  t : IsK w c.t
  v : c.vn ≤ 9223372036854775807
  ints : c.vn ≤ 1000 → Q.Ints w c.vA c.vn c.vc c.ver
  b : T.Rcs w c.bA c.bn c.bc c.blk
  us : c.o.us.size ≤ 9223372036854775807
  ut : c.t.us.size ≤ 9223372036854775807
  ud : c.dev.size ≤ 9223372036854775807
theorem RawC.below {w w1 : World} {c : Cs} (h : RawC w c) (hb : Below w.heap.size w w1) : RawC w1 c := ⟨h.o.below hb, h.t.below hb, h.v, fun hn => (h.ints hn).below hb, h.b.below hb, h.us, h.ut, h.ud⟩
structure Sm (c : Cs) : Prop where
  on : c.o.n ≤ 30
  tn : c.t.n ≤ 30
  vn : c.vn ≤ 60
  bn : c.bn ≤ 60
  us : c.o.us.size ≤ 100
  ut : c.t.us.size ≤ 100
  ud : c.dev.size ≤ 100
  ds : ∀ j, j < c.t.n → (c.t.D j).id.size ≤ 100
def SmP (c : Cs) (e : Ending) : Prop := ∃ b, e = .returned (.bool b) ∧ (b = true → Sm c)
theorem sm_false (c : Cs) : SmP c (.returned (.bool false)) := ⟨false, rfl, fun h => by cases h⟩
theorem size28 : (Tryd.prog.info? 28).map (·.size) = some 12 := by kernel_rfl
set_option maxHeartbeats 16000000 in
theorem small7 (c : Cs) (w : World) (h : RawC w c) : Calls Tryd.prog 7 #[.agg (cellsC c).toArray] w fun e w' => SmP c e ∧ Below w.heap.size w w' := by
  obtain ⟨⟨ous, oms, ops, oA, on, oc, oD⟩, ⟨tus, tms, tps, tA, tn, tc, tD⟩, dev, vA, vn, vc, ver, bA, bn, bc, blk, s⟩ := c
  have BF := Lib.hid ((Below.refl w.heap.size w).alloc (Nat.le_refl _) (.cells (cellsC ⟨⟨ous, oms, ops, oA, on, oc, oD⟩, ⟨tus, tms, tps, tA, tn, tc, tD⟩, dev, vA, vn, vc, ver, bA, bn, bc, blk, s⟩).toArray 28))
  have X0 := Lib.hid (blk_new w (cellsC ⟨⟨ous, oms, ops, oA, on, oc, oD⟩, ⟨tus, tms, tps, tA, tn, tc, tD⟩, dev, vA, vn, vc, ver, bA, bn, bc, blk, s⟩) 28)
  have x0 := X0.out.cell (i := 0) rfl
  have x3 := X0.out.cell (i := 3) rfl
  have x4 := X0.out.cell (i := 4) rfl
  have x7 := X0.out.cell (i := 7) rfl
  have x8 := X0.out.cell (i := 8) rfl
  have x9 := X0.out.cell (i := 9) rfl
  have x10 := X0.out.cell (i := 10) rfl
  have HD := Lib.hid (show Dvs (w.alloc (.cells (cellsC ⟨⟨ous, oms, ops, oA, on, oc, oD⟩, ⟨tus, tms, tps, tA, tn, tc, tD⟩, dev, vA, vn, vc, ver, bA, bn, bc, blk, s⟩).toArray 28)) tA tn tc tD from h.t.below BF.out)
  have HB := Lib.hid (show T.Rcs (w.alloc (.cells (cellsC ⟨⟨ous, oms, ops, oA, on, oc, oD⟩, ⟨tus, tms, tps, tA, tn, tc, tD⟩, dev, vA, vn, vc, ver, bA, bn, bc, blk, s⟩).toArray 28)) bA bn bc blk from h.b.below BF.out)
  have z1 : on ≤ 9223372036854775807 := h.o.rws.big
  have z2 : tn ≤ 9223372036854775807 := h.t.rws.big
  have z3 : vn ≤ 9223372036854775807 := h.v
  have z4 : bn ≤ 9223372036854775807 := h.b.rws.big
  have z5 : ous.size ≤ 9223372036854775807 := h.us
  have z6 : tus.size ≤ 9223372036854775807 := h.ut
  have z7 : dev.size ≤ 9223372036854775807 := h.ud
  clear h X0
  show Calls Tryd.prog 7 #[.agg #[.string ous, .int .i64 oms, .int .i64 ops, .slice oA on oc, .string tus, .int .i64 tms, .int .i64 tps, .slice tA tn tc, .string dev, .slice vA vn vc, .slice bA bn bc, .bool s]] w _
  have HF := Lib.hid (sm_false ⟨⟨ous, oms, ops, oA, on, oc, oD⟩, ⟨tus, tms, tps, tA, tn, tc, tD⟩, dev, vA, vn, vc, ver, bA, bn, bc, blk, s⟩)
  by_cases g0 : 30 < on
  · have h0 : (30 : Int) < (on : Int) := by omega
    go_enter Tryd.func7, Tryd.ntmps7
    go_wp2
    go_ret
    exact ⟨HF.out, BF.out⟩
  have h0 : ¬ (30 : Int) < (on : Int) := by omega
  by_cases g1 : 30 < tn
  · have h1 : (30 : Int) < (tn : Int) := by omega
    go_enter Tryd.func7, Tryd.ntmps7
    go_wp2
    go_ret
    exact ⟨HF.out, BF.out⟩
  have h1 : ¬ (30 : Int) < (tn : Int) := by omega
  by_cases g2 : 60 < vn
  · have h2 : (60 : Int) < (vn : Int) := by omega
    go_enter Tryd.func7, Tryd.ntmps7
    go_wp2
    go_ret
    exact ⟨HF.out, BF.out⟩
  have h2 : ¬ (60 : Int) < (vn : Int) := by omega
  by_cases g3 : 60 < bn
  · have h3 : (60 : Int) < (bn : Int) := by omega
    go_enter Tryd.func7, Tryd.ntmps7
    go_wp2
    go_ret
    exact ⟨HF.out, BF.out⟩
  have h3 : ¬ (60 : Int) < (bn : Int) := by omega
  by_cases g4 : 100 < ous.size
  · have h4 : (100 : Int) < (ous.size : Int) := by omega
    go_enter Tryd.func7, Tryd.ntmps7
    go_wp2
    go_ret
    exact ⟨HF.out, BF.out⟩
  have h4 : ¬ (100 : Int) < (ous.size : Int) := by omega
  by_cases g5 : 100 < tus.size
  · have h5 : (100 : Int) < (tus.size : Int) := by omega
    go_enter Tryd.func7, Tryd.ntmps7
    go_wp2
    go_ret
    exact ⟨HF.out, BF.out⟩
  have h5 : ¬ (100 : Int) < (tus.size : Int) := by omega
  by_cases g6 : 100 < dev.size
  · have h6 : (100 : Int) < (dev.size : Int) := by omega
    go_enter Tryd.func7, Tryd.ntmps7
    go_wp2
    go_ret
    exact ⟨HF.out, BF.out⟩
  have h6 : ¬ (100 : Int) < (dev.size : Int) := by omega
  go_enter Tryd.func7, Tryd.ntmps7
  go_wp2
  clear z1 z2 z3 z4 z5 z6 z7
  go_loopg [3] tn (fun gg s3 wr => ∃ kk : Nat, kk ≤ tn ∧ tn - kk ≤ gg ∧ s3 = .int .i64 kk ∧ Hid (∀ j, j < kk → (tD j).id.size ≤ 100) ∧ wr = w.alloc (.cells (cellsC ⟨⟨ous, oms, ops, oA, on, oc, oD⟩, ⟨tus, tms, tps, tA, tn, tc, tD⟩, dev, vA, vn, vc, ver, bA, bn, bc, blk, s⟩).toArray 28))
  case atStart => exact ⟨0, Nat.zero_le _, by omega, rfl, Lib.hid (fun j hj => absurd hj (Nat.not_lt_zero _)), rfl⟩
  case round =>
    obtain ⟨kk, hkk, hg, rfl, HN, rfl⟩ := hrel
    by_cases hlt : kk < tn
    · have hltz : (kk : Int) < (tn : Int) := by omega
      obtain ⟨b, off, rfl, _, _, k0, _⟩ := HD.out.get hlt
      have hfit := HD.out.fit kk hlt
      by_cases hq : 100 < (tD kk).id.size
      · have hq2 : (100 : Int) < ((tD kk).id.size : Int) := by omega
        generalize (tD kk).id = p at *
        go_wp2
        go_ret
        exact ⟨HF.out, BF.out⟩
      · have hq2 : ¬ (100 : Int) < ((tD kk).id.size : Int) := by omega
        have HN2 : Hid (∀ j, j < kk + 1 → (tD j).id.size ≤ 100) := Lib.hid (fun j hj => by
          by_cases e : j = kk
          · subst e; omega
          · exact HN.out j (by omega))
        clear HN
        generalize (tD kk).id = p at *
        go_wp2
        go_roundg (tn - (kk + 1))
        case measure => omega
        case rel => exact ⟨kk + 1, by omega, by omega, by go_num, HN2, rfl⟩
    · have hltz : ¬ (kk : Int) < (tn : Int) := by omega
      have HN2 : Hid (∀ j, j < tn → (tD j).id.size ≤ 100) := Lib.hid (fun j hj => HN.out j (by omega))
      clear HN
      go_wp2
      go_loopg [4] bn (fun gg s4 wr => ∃ k2 : Nat, k2 ≤ bn ∧ bn - k2 ≤ gg ∧ s4 = .int .i64 k2 ∧ wr = w.alloc (.cells (cellsC ⟨⟨ous, oms, ops, oA, on, oc, oD⟩, ⟨tus, tms, tps, tA, tn, tc, tD⟩, dev, vA, vn, vc, ver, bA, bn, bc, blk, s⟩).toArray 28))
      case atStart => exact ⟨0, Nat.zero_le _, by omega, rfl, rfl⟩
      case round =>
        obtain ⟨k2, hk2, hg2, rfl, rfl⟩ := hrel
        by_cases hlt2 : k2 < bn
        · have hltz2 : (k2 : Int) < (bn : Int) := by omega
          obtain ⟨b, off, rfl, _, k0⟩ := HB.out.str hlt2
          have hfit : (blk.getD k2 T.t0).s.size ≤ 9223372036854775807 := by
            obtain ⟨_, _, _, _, _, hf⟩ := HB.out.get hlt2
            exact hf
          by_cases hq : 300 < (blk.getD k2 T.t0).s.size
          · have hq2 : (300 : Int) < ((blk.getD k2 T.t0).s.size : Int) := by omega
            generalize (blk.getD k2 T.t0).s = p at *
            go_wp2
            go_ret
            exact ⟨HF.out, BF.out⟩
          · have hq2 : ¬ (300 : Int) < ((blk.getD k2 T.t0).s.size : Int) := by omega
            generalize (blk.getD k2 T.t0).s = p at *
            go_wp2
            go_roundg (bn - (k2 + 1))
            case measure => omega
            case rel => exact ⟨k2 + 1, by omega, by omega, by go_num, rfl⟩
        · have hltz2 : ¬ (k2 : Int) < (bn : Int) := by omega
          have HY : Hid (SmP ⟨⟨ous, oms, ops, oA, on, oc, oD⟩, ⟨tus, tms, tps, tA, tn, tc, tD⟩, dev, vA, vn, vc, ver, bA, bn, bc, blk, s⟩ (.returned (.bool true))) := Lib.hid ⟨true, rfl, fun _ => ⟨Nat.not_lt.1 g0, Nat.not_lt.1 g1, Nat.not_lt.1 g2, Nat.not_lt.1 g3, Nat.not_lt.1 g4, Nat.not_lt.1 g5, Nat.not_lt.1 g6, HN2.out⟩⟩
          go_wp2
          go_ret
          exact ⟨HY.out, BF.out⟩
/-- The trust in a case's device. -/
def trC (c : Cs) : Int := tr c.o c.t c.dev c.ver c.blk
set_option maxHeartbeats 4000000 in
theorem of9 (c : Cs) (w : World) (hT : An w) (ht : IsK w c.t) (hv : Q.Ints w c.vA c.vn c.vc c.ver) (hb : T.Rcs w c.bA c.bn c.bc c.blk) (hs : c.t.us.size + 1 + c.dev.size ≤ 1000000) : Calls Tryd.prog 9 #[.agg (cellsC c).toArray] w fun e w' => e = .returned (.int .i64 (trC c)) ∧ Below w.heap.size w w' := by
  have B0 := Lib.hid ((Below.refl w.heap.size w).alloc (Nat.le_refl _) (.cells (cellsC c).toArray 28))
  have X0 := Lib.hid (blk_new w (cellsC c) 28)
  have x8 := X0.out.cell (i := 8) rfl
  have x9 := X0.out.cell (i := 9) rfl
  have x10 := X0.out.cell (i := 10) rfl
  have C23 := Lib.hid (of23 c.o c.t c.dev c.vA c.bA c.vn c.vc c.bn c.bc c.ver c.blk _ (hT.below B0.out) (ht.below B0.out) (hv.below B0.out) (hb.below B0.out) hs)
  unfold trC
  generalize tr c.o c.t c.dev c.ver c.blk = r at *
  clear hT ht hv hb hs
  show Calls Tryd.prog 9 #[.agg #[.string c.o.us, .int .i64 c.o.ms, .int .i64 c.o.ps, .slice c.o.A c.o.n c.o.c, .string c.t.us, .int .i64 c.t.ms, .int .i64 c.t.ps, .slice c.t.A c.t.n c.t.c, .string c.dev, .slice c.vA c.vn c.vc, .slice c.bA c.bn c.bc, .bool c.s]] w _
  go_enter Tryd.func9, Tryd.ntmps9
  go_wp2_with (first
    | (refine wpList_load_mid rfl 24 _ rfl w.heap.size 0 rfl (cellsK c.o) _ (X0.out.mid 0 4) Tryd.underlying24 rfl size24 ?_)
    | (refine wpList_load_mid rfl 24 _ rfl w.heap.size 4 rfl (cellsK c.t) _ (X0.out.mid 4 4) Tryd.underlying24 rfl size24 ?_)
    | (go_at_call 23; (with_reducible refine C23.out.mono ?_); rintro e w1 ⟨rfl, hb1⟩; have BF := Lib.hid (B0.out.trans (hb1.mono B0.out.size)); clear hb1))
  go_ret
  exact ⟨rfl, BF.out⟩
end Go.Proofs.YtaaaeeljjfblnaaDoor
