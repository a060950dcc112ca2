/- When levels are the same: slices.Equal at their entries, levels.Same, the reference's Same. -/
import Derived.Test.YthhmbcelicfopaaN2
import Derived.Laws.StructEq
namespace Go.Proofs.Ythhmbcelicfopaa
open Go.RowKit
set_option linter.unusedVariables false

theorem neq51 (a c : ByteArray) (b d : Int) (w : World) : (binOp .neq 51 (.agg #[.string a, .int .i64 b]) (.agg #[.string c, .int .i64 d])).run Try.prog w = .ok (.bool (!(a.toList == c.toList && b == d))) w := by
  have hS : Try.prog.underlying 51 = some (.struct (Try.prog.fieldsOf 51)) := by kernel_rfl
  have hp : Try.prog.stoodInHeld 51 = false := by kernel_rfl
  rw [run_neq_struct, show (10000 : Nat) = 9999 + 1 from rfl, run_equalIn_agg w 9999 51 _ _ hS hp]
  simp only [Program.fieldsOf, Try.underlying51]
  have u3 := Try.underlying3
  have u9 := Try.underlying9
  go_simp
  by_cases h1 : a.toList = c.toList <;> by_cases h2 : b = d <;> simp [h1, h2]
theorem neq54 (a c : Int) (b d : Int) (w : World) : (binOp .neq 54 (.agg #[.int .i64 a, .int .i64 b]) (.agg #[.int .i64 c, .int .i64 d])).run Try.prog w = .ok (.bool (!(a == c && b == d))) w := by
  have hS : Try.prog.underlying 54 = some (.struct (Try.prog.fieldsOf 54)) := by kernel_rfl
  have hp : Try.prog.stoodInHeld 54 = false := by kernel_rfl
  rw [run_neq_struct, show (10000 : Nat) = 9999 + 1 from rfl, run_equalIn_agg w 9999 54 _ _ hS hp]
  simp only [Program.fieldsOf, Try.underlying54]
  have u3 := Try.underlying3
  have u9 := Try.underlying26
  go_simp
  by_cases h1 : a = c <;> by_cases h2 : b = d <;> simp [h1, h2]
def eqU (p q : ByteArray × Int) : Bool := p.1.toList == q.1.toList && p.2 == q.2
def eqK (p q : Int × Int) : Bool := p.1 == q.1 && p.2 == q.2
def UEq (n m : Nat) (U V : Nat → ByteArray × Int) : Prop := n = m ∧ ∀ j, j < n → eqU (U j) (V j) = true
def KEq (n m : Nat) (U V : Nat → Int × Int) : Prop := n = m ∧ ∀ j, j < n → eqK (U j) (V j) = true
set_option maxHeartbeats 2000000 in
theorem equal34 (uA : Option Addr) (n uC : Nat) (vA : Option Addr) (m vC : Nat) (U V : Nat → ByteArray × Int) (w : World) (hU : Rws w uA n uC 2 (rowU U)) (hV : Rws w vA m vC 2 (rowU V)) (b : Bool) (hb : b = true ↔ UEq n m U V) :
    Calls Try.prog 34 #[.slice uA n uC, .slice vA m vC] w fun e w' => e = .returned (.bool b) ∧ Below w.heap.size w w' := by
  have HU := Lib.hid hU
  have HV := Lib.hid hV
  have Hb := Lib.hid hb
  have hbig := hU.big
  unfold maxLen at hbig
  clear hU hV hb
  have kn := fun (w : World) (a c : ByteArray) (b d : Int) => neq51 a c b d w
  by_cases hnm : n = m
  · subst hnm
    have hne : ((n : Int) != (n : Int)) = false := by simp
    go_enter Try.func34, Try.ntmps34
    go_wp2
    go_loopg [13] n (fun gg s13 wr => ∃ kk : Nat, kk ≤ n ∧ n - kk ≤ gg ∧ s13 = .int .i64 kk ∧ Hid (Below w.heap.size w wr) ∧ Hid (∀ j, j < kk → eqU (U j) (V j) = true))
    case atStart => exact ⟨0, Nat.zero_le _, by omega, rfl, Lib.hid (Below.refl _ w), Lib.hid (fun j hj => absurd hj (Nat.not_lt_zero _))⟩
    case round =>
      obtain ⟨kk, hkk, hg, rfl, BW, A⟩ := hrel
      by_cases hlt : kk < n
      · have hltz : (kk : Int) < (n : Int) := by omega
        obtain ⟨b1, o1, rfl, cy, cn⟩ := (HU.out.below BW.out).user hlt
        obtain ⟨b2, o2, rfl, dy, dn⟩ := (HV.out.below BW.out).user hlt
        have HG := Lib.hid (show eqU (U kk) (V kk) = ((U kk).1.toList == (V kk).1.toList && (U kk).2 == (V kk).2) from rfl)
        generalize (U kk).1 = y1 at cy HG
        generalize (U kk).2 = n1 at cn HG
        generalize (V kk).1 = y2 at dy HG
        generalize (V kk).2 = n2 at dn HG
        cases q : (y1.toList == y2.toList && n1 == n2) with
        | false =>
          have HF := Lib.hid (show b = false by
            cases hbb : b with
            | false => rfl
            | true => have := (Hb.out.1 hbb).2 kk hlt; rw [HG.out, q] at this; cases this)
          have kn2 := fun (w : World) => (kn w y1 y2 n1 n2).trans (by rw [q])
          clear kn
          go_wp2
          go_quiet (fail)
          go_wp2
          go_ret
          exact ⟨by rw [HF.out]; rfl, below_drewN BW.out _⟩
        | true =>
          have HF := Lib.hid (show eqU (U kk) (V kk) = true by rw [HG.out, q])
          have kn2 := fun (w : World) => (kn w y1 y2 n1 n2).trans (by rw [q])
          clear kn
          go_wp2
          go_quiet (fail)
          go_wp2
          go_roundg (n - (kk + 1))
          case measure => omega
          case rel =>
            refine ⟨kk + 1, by omega, by omega, by go_num, Lib.hid (below_drewN BW.out _), Lib.hid (fun j hj => ?_)⟩
            by_cases e : j = kk
            · subst e; exact HF.out
            · exact A.out j (by omega)
      · have hltz : ¬ (kk : Int) < (n : Int) := by omega
        have : kk = n := by omega
        subst this
        have HF := Lib.hid (show b = true from Hb.out.2 ⟨rfl, A.out⟩)
        go_wp2
        go_ret
        exact ⟨by rw [HF.out]; rfl, BW.out⟩
  · have hne : ((n : Int) != (m : Int)) = true := by simp; omega
    have HF := Lib.hid (show b = false by
      cases hbb : b with
      | false => rfl
      | true => exact absurd (Hb.out.1 hbb).1 hnm)
    clear hnm
    go_enter Try.func34, Try.ntmps34
    go_wp2
    go_ret
    exact ⟨by rw [HF.out]; rfl, Below.refl _ _⟩
set_option maxHeartbeats 2000000 in
theorem equal35 (uA : Option Addr) (n uC : Nat) (vA : Option Addr) (m vC : Nat) (U V : Nat → Int × Int) (w : World) (hU : Rws w uA n uC 2 (rowK U)) (hV : Rws w vA m vC 2 (rowK V)) (b : Bool) (hb : b = true ↔ KEq n m U V) :
    Calls Try.prog 35 #[.slice uA n uC, .slice vA m vC] w fun e w' => e = .returned (.bool b) ∧ Below w.heap.size w w' := by
  have HU := Lib.hid hU
  have HV := Lib.hid hV
  have Hb := Lib.hid hb
  have hbig := hU.big
  unfold maxLen at hbig
  clear hU hV hb
  have kn := fun (w : World) (a c : Int) (b d : Int) => neq54 a c b d w
  by_cases hnm : n = m
  · subst hnm
    have hne : ((n : Int) != (n : Int)) = false := by simp
    go_enter Try.func35, Try.ntmps35
    go_wp2
    go_loopg [13] n (fun gg s13 wr => ∃ kk : Nat, kk ≤ n ∧ n - kk ≤ gg ∧ s13 = .int .i64 kk ∧ Hid (Below w.heap.size w wr) ∧ Hid (∀ j, j < kk → eqK (U j) (V j) = true))
    case atStart => exact ⟨0, Nat.zero_le _, by omega, rfl, Lib.hid (Below.refl _ w), Lib.hid (fun j hj => absurd hj (Nat.not_lt_zero _))⟩
    case round =>
      obtain ⟨kk, hkk, hg, rfl, BW, A⟩ := hrel
      by_cases hlt : kk < n
      · have hltz : (kk : Int) < (n : Int) := by omega
        obtain ⟨b1, o1, rfl, cy, cn⟩ := (HU.out.below BW.out).kind hlt
        obtain ⟨b2, o2, rfl, dy, dn⟩ := (HV.out.below BW.out).kind hlt
        have HG := Lib.hid (show eqK (U kk) (V kk) = ((U kk).1 == (V kk).1 && (U kk).2 == (V kk).2) from rfl)
        generalize (U kk).1 = y1 at cy HG
        generalize (U kk).2 = n1 at cn HG
        generalize (V kk).1 = y2 at dy HG
        generalize (V kk).2 = n2 at dn HG
        cases q : (y1 == y2 && n1 == n2) with
        | false =>
          have HF := Lib.hid (show b = false by
            cases hbb : b with
            | false => rfl
            | true => have := (Hb.out.1 hbb).2 kk hlt; rw [HG.out, q] at this; cases this)
          have kn2 := fun (w : World) => (kn w y1 y2 n1 n2).trans (by rw [q])
          clear kn
          go_wp2
          go_quiet (fail)
          go_wp2
          go_ret
          exact ⟨by rw [HF.out]; rfl, below_drewN BW.out _⟩
        | true =>
          have HF := Lib.hid (show eqK (U kk) (V kk) = true by rw [HG.out, q])
          have kn2 := fun (w : World) => (kn w y1 y2 n1 n2).trans (by rw [q])
          clear kn
          go_wp2
          go_quiet (fail)
          go_wp2
          go_roundg (n - (kk + 1))
          case measure => omega
          case rel =>
            refine ⟨kk + 1, by omega, by omega, by go_num, Lib.hid (below_drewN BW.out _), Lib.hid (fun j hj => ?_)⟩
            by_cases e : j = kk
            · subst e; exact HF.out
            · exact A.out j (by omega)
      · have hltz : ¬ (kk : Int) < (n : Int) := by omega
        have : kk = n := by omega
        subst this
        have HF := Lib.hid (show b = true from Hb.out.2 ⟨rfl, A.out⟩)
        go_wp2
        go_ret
        exact ⟨by rw [HF.out]; rfl, BW.out⟩
  · have hne : ((n : Int) != (m : Int)) = true := by simp; omega
    have HF := Lib.hid (show b = false by
      cases hbb : b with
      | false => rfl
      | true => exact absurd (Hb.out.1 hbb).1 hnm)
    clear hnm
    go_enter Try.func35, Try.ntmps35
    go_wp2
    go_ret
    exact ⟨by rw [HF.out]; rfl, Below.refl _ _⟩
end Go.Proofs.Ythhmbcelicfopaa
