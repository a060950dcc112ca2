/- The reference's Long: what it answers for an event. -/
import Derived.Test.YtbedibiodlgegaaKC2
import Derived.BigQuiet
import Derived.Deep.LoopGhost
import Derived.Deep.Cut
namespace Go.Proofs.Ytbedibiodlgegaa
open Go.RowKit
set_option linter.unusedVariables false

theorem load_mid_g {P : Program} {ops : Array Oper} {rest : List Oper} {op : Oper} {a : Act} {w : World} {Q : Exit → Act → World → Prop} (hw : Region.wanted op (yielded ops a.tmps) = true) (ty : TypeId) (x : Operand) (ho : op.op = .load ty x)
    (b o : Nat) (hx : a.eval x = .pointer (some ⟨b, o, none⟩)) (cs : List Value) (d : TypeDesc) (hc : w.rangeAt b o cs)
    (hu : P.underlying ty = some d) (hd : d.isRow = true) (hi : (P.info? ty).map (·.size) = some cs.length)
    (h : wpList P ops Q rest (a.put op.dst (.agg cs.toArray)) w) : wpList P ops Q (op :: rest) a w :=
  wpList_step fun K hK => by
    rw [if_pos hw]
    exact wp_load_mid ty x ho b o hx cs d hc hu hd hi (hK _ _ h)
theorem range_below {w w1 : World} {b o : Nat} {cs : List Value} (h : w.rangeAt b o cs) (hlt : b < w.heap.size) (hb : Below w.heap.size w w1) : w1.rangeAt b o cs := fun j v hv => (hb.cell (p := ⟨b, o + j, none⟩) hlt).trans (h j v hv)
abbrev evc (e0 : Int) (e1 e2 : ByteArray) (e3 : Int) (e4 : Bool) (e5 : ByteArray) (e6 e7 : Int) (a8 : Option Addr) (n8 c8 : Nat) (a9 : Option Addr) (n9 c9 : Nat) (tx : ByteArray) (n tg : Int) (th : Bool) (via : ByteArray) (aA : Option Addr) (nA aC : Nat) (dA : Option Addr) (nD dC : Nat) (uA : Option Addr) (nU uC : Nat) (kA : Option Addr) (nK kC : Nat) (d x3 x4 x5 x6 x7 x8 : Int) (e26 : Int) (e27 : ByteArray) (e28 : Int) : List Value := [.int .i64 e0, .string e1, .string e2, .int .i64 e3, .bool e4, .string e5, .int .i64 e6, .int .i64 e7, .slice a8 n8 c8, .slice a9 n9 c9, .string tx, .int .i64 n, .int .i64 tg, .bool th, .string via, .slice aA nA aC, .slice dA nD dC, .slice uA nU uC, .slice kA nK kC, .int .i64 d, .int .i64 x3, .int .i64 x4, .int .i64 x5, .int .i64 x6, .int .i64 x7, .int .i64 x8, .int .i64 e26, .string e27, .int .i64 e28]
theorem size39 : (Try.prog.info? 34).map (·.size) = some 29 := by kernel_rfl
/-- Short lists. -/
def Few (a b c d e f : Nat) : Prop := a ≤ 40 ∧ b ≤ 40 ∧ c ≤ 40 ∧ d ≤ 40 ∧ e ≤ 40 ∧ f ≤ 40
def LoP (Q : Prop) (e : Ending) : Prop := ∃ b, e = .returned (.bool b) ∧ (b = false → Q)
theorem lo_true (Q : Prop) : LoP Q (.returned (.bool true)) := ⟨true, rfl, fun e => by cases e⟩
theorem lo_false {Q : Prop} (h : Q) : LoP Q (.returned (.bool false)) := ⟨false, rfl, fun _ => h⟩
set_option maxRecDepth 100000 in
set_option maxHeartbeats 8000000 in
theorem long19 (e0 : Int) (e1 e2 : ByteArray) (e3 : Int) (e4 : Bool) (e5 : ByteArray) (e6 e7 : Int) (a8 : Option Addr) (n8 c8 : Nat) (a9 : Option Addr) (n9 c9 : Nat) (tx : ByteArray) (n tg : Int) (th : Bool) (via : ByteArray) (aA : Option Addr) (nA aC : Nat) (dA : Option Addr) (nD dC : Nat) (uA : Option Addr) (nU uC : Nat) (kA : Option Addr) (nK kC : Nat) (d x3 x4 x5 x6 x7 x8 : Int) (e26 : Int) (e27 : ByteArray) (e28 : Int) (al dn : List ByteArray) (U : Nat → ByteArray × Int) (K : Nat → Int × Int) (w : World)
    (hc : IsCt w ⟨tx, n, tg, th, via, nA, al, nD, dn, ⟨nU, U, nK, K, d, x3, x4, x5, x6, x7, x8⟩⟩ ⟨aA, aC, dA, dC, uA, uC, kA, kC⟩)
    (hb8 : n8 ≤ 9223372036854775807) (hb9 : n9 ≤ 9223372036854775807) (hs1 : e1.size ≤ 9223372036854775807) (hs2 : e2.size ≤ 9223372036854775807) (hs5 : e5.size ≤ 9223372036854775807) (hs27 : e27.size ≤ 9223372036854775807) (hst : tx.size ≤ 9223372036854775807) (hsv : via.size ≤ 9223372036854775807) (hus : ∀ j, j < nU → (U j).1.size ≤ 9223372036854775807) :
    Calls Try.prog 10 #[.agg (evc e0 e1 e2 e3 e4 e5 e6 e7 a8 n8 c8 a9 n9 c9 tx n tg th via aA nA aC dA nD dC uA nU uC kA nK kC d x3 x4 x5 x6 x7 x8 e26 e27 e28).toArray] w fun e w' => LoP (Few n8 n9 nA nD nU nK) e ∧ Below w.heap.size w w' := by
  have H := Lib.hid hc
  have HUs := Lib.hid hus
  have bA : nA ≤ 9223372036854775807 := hc.al.rws.big
  have bD : nD ≤ 9223372036854775807 := hc.dn.rws.big
  have bU : nU ≤ 9223372036854775807 := hc.us.big
  have bK : nK ≤ 9223372036854775807 := hc.ks.big
  clear hc hus
  have X0 := Lib.hid (blk_new w (evc e0 e1 e2 e3 e4 e5 e6 e7 a8 n8 c8 a9 n9 c9 tx n tg th via aA nA aC dA nD dC uA nU uC kA nK kC d x3 x4 x5 x6 x7 x8 e26 e27 e28) 34)
  have B0 := Lib.hid ((Below.refl _ w).alloc (Nat.le_refl _) (.cells (evc e0 e1 e2 e3 e4 e5 e6 e7 a8 n8 c8 a9 n9 c9 tx n tg th via aA nA aC dA nD dC uA nU uC kA nK kC d x3 x4 x5 x6 x7 x8 e26 e27 e28).toArray 34))
  show Calls Try.prog 10 #[.agg #[.int .i64 e0, .string e1, .string e2, .int .i64 e3, .bool e4, .string e5, .int .i64 e6, .int .i64 e7, .slice a8 n8 c8, .slice a9 n9 c9, .string tx, .int .i64 n, .int .i64 tg, .bool th, .string via, .slice aA nA aC, .slice dA nD dC, .slice uA nU uC, .slice kA nK kC, .int .i64 d, .int .i64 x3, .int .i64 x4, .int .i64 x5, .int .i64 x6, .int .i64 x7, .int .i64 x8, .int .i64 e26, .string e27, .int .i64 e28]] w _
  go_enter Try.func10, Try.ntmps10
  go_upto_region 1 with (fail)
  generalize hb0 : w.heap.size = b1 at X0 ⊢
  generalize hw2 : (w.alloc _) = w2 at X0 B0 ⊢
  have HB0 := Lib.hid hb0
  clear hb0 hw2
  go_upto_region 2 with (first
    | (refine load_mid_g (by rfl) 30 _ rfl b1 10 rfl (ctc tx n tg th via aA nA aC dA nD dC uA nU uC kA nK kC d x3 x4 x5 x6 x7 x8) _ (X0.out.mid 10 16) Try.underlying30 rfl size28c ?_)
    | (refine store_mid_as rfl 30 _ _ rfl w2.heap.size 0 (ctc tx n tg th via aA nA aC dA nD dC uA nU uC kA nK kC d x3 x4 x5 x6 x7 x8).toArray rfl rfl (Blk.there (n := 16) (blk_new w2 c16 30) (by decide)) size28c (by simp [Value.oneCell']) ?_; intro w4 q4; have X4 : Hid (Blk w4 w2.heap.size (ctc tx n tg th via aA nA aC dA nD dC uA nU uC kA nK kC d x3 x4 x5 x6 x7 x8) 30) := Lib.hid (by rw [q4]; exact (blk_new w2 c16 30).setAll _ rfl); have X5 : Hid (Blk w4 b1 (evc e0 e1 e2 e3 e4 e5 e6 e7 a8 n8 c8 a9 n9 c9 tx n tg th via aA nA aC dA nD dC uA nU uC kA nK kC d x3 x4 x5 x6 x7 x8 e26 e27 e28) 34) := Lib.hid (by rw [q4]; exact (X0.out.alloc _).otherAll _ _ _ (by have := X0.out.lt; omega)); have B4 : Hid (Below w.heap.size w w4) := Lib.hid (by rw [q4]; exact below_setAll B0.out.size _ _ _ (B0.out.alloc B0.out.size _)); clear q4))
  clear X0 B0
  generalize w2.heap.size = t1 at X4 ⊢
  have HSz4 := Lib.hid B4.out.size
  have f8 := X5.out.cell (i := 8) rfl
  have f9 := X5.out.cell (i := 9) rfl
  have f1 := X5.out.cell (i := 1) rfl
  have f2 := X5.out.cell (i := 2) rfl
  have f5 := X5.out.cell (i := 5) rfl
  have f27 := X5.out.cell (i := 27) rfl
  have y0 := X4.out.cell (i := 0) rfl
  have y4 := X4.out.cell (i := 4) rfl
  have y5 := X4.out.cell (i := 5) rfl
  have y6 := X4.out.cell (i := 6) rfl
  have y7 := X4.out.cell (i := 7) rfl
  have y8 := X4.out.cell (i := 8) rfl
  by_cases g10 : 40 < n8
  · have z0 : (40 : Int) < (n8 : Int) := by omega
    go_wp2
    go_ret
    exact ⟨lo_true _, B4.out⟩
  by_cases g11 : 40 < n9
  · have z0 : ¬ (40 : Int) < (n8 : Int) := by omega
    have z1 : (40 : Int) < (n9 : Int) := by omega
    go_wp2
    go_ret
    exact ⟨lo_true _, B4.out⟩
  by_cases g12 : 40 < nA
  · have z0 : ¬ (40 : Int) < (n8 : Int) := by omega
    have z1 : ¬ (40 : Int) < (n9 : Int) := by omega
    have z2 : (40 : Int) < (nA : Int) := by omega
    go_wp2
    go_ret
    exact ⟨lo_true _, B4.out⟩
  by_cases g13 : 40 < nD
  · have z0 : ¬ (40 : Int) < (n8 : Int) := by omega
    have z1 : ¬ (40 : Int) < (n9 : Int) := by omega
    have z2 : ¬ (40 : Int) < (nA : Int) := by omega
    have z3 : (40 : Int) < (nD : Int) := by omega
    go_wp2
    go_ret
    exact ⟨lo_true _, B4.out⟩
  by_cases g14 : 40 < nU
  · have z0 : ¬ (40 : Int) < (n8 : Int) := by omega
    have z1 : ¬ (40 : Int) < (n9 : Int) := by omega
    have z2 : ¬ (40 : Int) < (nA : Int) := by omega
    have z3 : ¬ (40 : Int) < (nD : Int) := by omega
    have z4 : (40 : Int) < (nU : Int) := by omega
    go_wp2
    go_ret
    exact ⟨lo_true _, B4.out⟩
  by_cases g15 : 40 < nK
  · have z0 : ¬ (40 : Int) < (n8 : Int) := by omega
    have z1 : ¬ (40 : Int) < (n9 : Int) := by omega
    have z2 : ¬ (40 : Int) < (nA : Int) := by omega
    have z3 : ¬ (40 : Int) < (nD : Int) := by omega
    have z4 : ¬ (40 : Int) < (nU : Int) := by omega
    have z5 : (40 : Int) < (nK : Int) := by omega
    go_wp2
    go_ret
    exact ⟨lo_true _, B4.out⟩
  have z0 : ¬ (40 : Int) < (n8 : Int) := by omega
  have z1 : ¬ (40 : Int) < (n9 : Int) := by omega
  have z2 : ¬ (40 : Int) < (nA : Int) := by omega
  have z3 : ¬ (40 : Int) < (nD : Int) := by omega
  have z4 : ¬ (40 : Int) < (nU : Int) := by omega
  have z5 : ¬ (40 : Int) < (nK : Int) := by omega
  have HN := Lib.hid (show Few n8 n9 nA nD nU nK from ⟨by omega, by omega, by omega, by omega, by omega, by omega⟩)
  clear g10 g11 g12 g13 g14 g15
  go_upto_region 4 with (fail)
  clear z0 z1 z2 z3 z4 z5
  by_cases g20 : 2000 < e1.size
  · have z0 : (2000 : Int) < (e1.size : Int) := by omega
    go_wp2
    go_ret
    exact ⟨lo_true _, B4.out⟩
  by_cases g21 : 2000 < e2.size
  · have z0 : ¬ (2000 : Int) < (e1.size : Int) := by omega
    have z1 : (2000 : Int) < (e2.size : Int) := by omega
    go_wp2
    go_ret
    exact ⟨lo_true _, B4.out⟩
  by_cases g22 : 2000 < e5.size
  · have z0 : ¬ (2000 : Int) < (e1.size : Int) := by omega
    have z1 : ¬ (2000 : Int) < (e2.size : Int) := by omega
    have z2 : (2000 : Int) < (e5.size : Int) := by omega
    go_wp2
    go_ret
    exact ⟨lo_true _, B4.out⟩
  by_cases g23 : 2000 < tx.size
  · have z0 : ¬ (2000 : Int) < (e1.size : Int) := by omega
    have z1 : ¬ (2000 : Int) < (e2.size : Int) := by omega
    have z2 : ¬ (2000 : Int) < (e5.size : Int) := by omega
    have z3 : (2000 : Int) < (tx.size : Int) := by omega
    go_wp2
    go_ret
    exact ⟨lo_true _, B4.out⟩
  by_cases g24 : 2000 < via.size
  · have z0 : ¬ (2000 : Int) < (e1.size : Int) := by omega
    have z1 : ¬ (2000 : Int) < (e2.size : Int) := by omega
    have z2 : ¬ (2000 : Int) < (e5.size : Int) := by omega
    have z3 : ¬ (2000 : Int) < (tx.size : Int) := by omega
    have z4 : (2000 : Int) < (via.size : Int) := by omega
    go_wp2
    go_ret
    exact ⟨lo_true _, B4.out⟩
  by_cases g25 : 2000 < e27.size
  · have z0 : ¬ (2000 : Int) < (e1.size : Int) := by omega
    have z1 : ¬ (2000 : Int) < (e2.size : Int) := by omega
    have z2 : ¬ (2000 : Int) < (e5.size : Int) := by omega
    have z3 : ¬ (2000 : Int) < (tx.size : Int) := by omega
    have z4 : ¬ (2000 : Int) < (via.size : Int) := by omega
    have z5 : (2000 : Int) < (e27.size : Int) := by omega
    go_wp2
    go_ret
    exact ⟨lo_true _, B4.out⟩
  have z0 : ¬ (2000 : Int) < (e1.size : Int) := by omega
  have z1 : ¬ (2000 : Int) < (e2.size : Int) := by omega
  have z2 : ¬ (2000 : Int) < (e5.size : Int) := by omega
  have z3 : ¬ (2000 : Int) < (tx.size : Int) := by omega
  have z4 : ¬ (2000 : Int) < (via.size : Int) := by omega
  have z5 : ¬ (2000 : Int) < (e27.size : Int) := by omega
  clear g20 g21 g22 g23 g24 g25
  go_wp2
  clear z0 z1 z2 z3 z4 z5 f1 f2 f5 f8 f9 f27 y0 y4 y5 y6 y7 y8
  go_loopg [4] nA (fun gg s5 wr => ∃ kk : Nat, kk ≤ nA ∧ nA - kk ≤ gg ∧ s5 = .int .i64 kk ∧ Hid (Below w4.heap.size w4 wr))
  case atStart => exact ⟨0, Nat.zero_le _, by omega, rfl, Lib.hid (Below.refl _ _)⟩
  case round =>
    obtain ⟨kk, hkk, hg, rfl, BW⟩ := hrel
    have i0 := (X4.out.below BW.out).cell (i := 5) rfl
    by_cases hlt : kk < nA
    · have hltz : (kk : Int) < (nA : Int) := by omega
      obtain ⟨b1', o1, rfl, t, _, ht, d1⟩ := (H.out.al.below (B4.out.trans (BW.out.mono HSz4.out))).get hlt
      by_cases hz : 2000 < t.size
      · have hzz : (2000 : Int) < (t.size : Int) := by omega
        go_wp2
        go_ret
        exact ⟨lo_true _, B4.out.trans (BW.out.mono HSz4.out)⟩
      · have hzz : ¬ (2000 : Int) < (t.size : Int) := by omega
        go_wp2
        go_roundg (nA - (kk + 1))
        case measure => omega
        case rel => exact ⟨kk + 1, by omega, by omega, by go_num, BW⟩
    · have hltz : ¬ (kk : Int) < (nA : Int) := by omega
      have BWs := BW
      clear hlt hg hkk
      go_wp2
      clear i0
      go_loopg [5] nD (fun gg s5 wr => ∃ kk : Nat, kk ≤ nD ∧ nD - kk ≤ gg ∧ s5 = .int .i64 kk ∧ Hid (Below w4.heap.size w4 wr))
      case atStart => exact ⟨0, Nat.zero_le _, by omega, rfl, BWs⟩
      case round =>
        clear BWs hltz BW
        obtain ⟨kk, hkk, hg, rfl, BW⟩ := hrel
        have i0 := (X4.out.below BW.out).cell (i := 6) rfl
        by_cases hlt : kk < nD
        · have hltz : (kk : Int) < (nD : Int) := by omega
          obtain ⟨b1', o1, rfl, t, _, ht, d1⟩ := (H.out.dn.below (B4.out.trans (BW.out.mono HSz4.out))).get hlt
          by_cases hz : 2000 < t.size
          · have hzz : (2000 : Int) < (t.size : Int) := by omega
            go_wp2
            go_ret
            exact ⟨lo_true _, B4.out.trans (BW.out.mono HSz4.out)⟩
          · have hzz : ¬ (2000 : Int) < (t.size : Int) := by omega
            go_wp2
            go_roundg (nD - (kk + 1))
            case measure => omega
            case rel => exact ⟨kk + 1, by omega, by omega, by go_num, BW⟩
        · have hltz : ¬ (kk : Int) < (nD : Int) := by omega
          have BWs := BW
          clear hlt hg hkk
          go_wp2
          clear i0
          go_loopg [6] nU (fun gg s5 wr => ∃ kk : Nat, kk ≤ nU ∧ nU - kk ≤ gg ∧ s5 = .int .i64 kk ∧ Hid (Below w4.heap.size w4 wr))
          case atStart => exact ⟨0, Nat.zero_le _, by omega, rfl, BWs⟩
          case round =>
            clear BWs hltz BW
            obtain ⟨kk, hkk, hg, rfl, BW⟩ := hrel
            have i0 := (X4.out.below BW.out).cell (i := 7) rfl
            by_cases hlt : kk < nU
            · have hltz : (kk : Int) < (nU : Int) := by omega
              obtain ⟨b1', o1, rfl, cy, cn⟩ := (H.out.us.below (B4.out.trans (BW.out.mono HSz4.out))).user hlt
              have ht := HUs.out kk hlt
              generalize (U kk).1 = t at cy ht
              by_cases hz : 2000 < t.size
              · have hzz : (2000 : Int) < (t.size : Int) := by omega
                go_wp2
                go_ret
                exact ⟨lo_true _, B4.out.trans (BW.out.mono HSz4.out)⟩
              · have hzz : ¬ (2000 : Int) < (t.size : Int) := by omega
                go_wp2
                go_roundg (nU - (kk + 1))
                case measure => omega
                case rel => exact ⟨kk + 1, by omega, by omega, by go_num, BW⟩
            · have hltz : ¬ (kk : Int) < (nU : Int) := by omega
              go_wp2
              go_ret
              exact ⟨lo_false HN.out, B4.out.trans (BW.out.mono HSz4.out)⟩
end Go.Proofs.Ytbedibiodlgegaa
