/- Levels: what they are, the level of a user (program and reference), the default levels, copies. -/
import Derived.Test.YthhmbcelicfopaaE2
import Derived.Test.YthhmbcelicfopaaG5
import Derived.Laws.ResultCell
namespace Go.Proofs.Ythhmbcelicfopaa
open Go.RowKit
set_option linter.unusedVariables false

theorem size28 : (Try.prog.info? 25).map (·.size) = some 9 := by kernel_rfl
theorem three_old (w : World) (A B C : Obj) : (((w.alloc A).alloc B).alloc C).heap[w.heap.size]? = some A := by
  rw [heap_alloc_old _ _ (by simp; omega), heap_alloc2_old]

def isU (U : Nat → ByteArray × Int) (u : ByteArray) (j : Nat) : Bool := ((U j).1.toList == u.toList)
def UserPost (U : Nat → ByteArray × Int) (u : ByteArray) (n : Nat) (d r : Int) : Prop :=
  (∃ k, k < n ∧ isU U u k = true ∧ (∀ j, j < k → isU U u j = false) ∧ r = (U k).2) ∨ ((∀ j, j < n → isU U u j = false) ∧ r = d)

theorem UserPost.one {U : Nat → ByteArray × Int} {u : ByteArray} {n : Nat} {d r s : Int} (h : UserPost U u n d r) (k : UserPost U u n d s) : r = s := by
  rcases h with ⟨i, hi, gi, li, rfl⟩ | ⟨hn, rfl⟩ <;> rcases k with ⟨j, hj, gj, lj, rfl⟩ | ⟨kn, rfl⟩
  · rcases Nat.lt_trichotomy i j with h | h | h
    · rw [lj i h] at gi; cases gi
    · rw [h]
    · rw [li j h] at gj; cases gj
  · rw [kn i hi] at gi; cases gi
  · rw [hn j hj] at gj; cases gj
  · rfl
structure Lvl where
  nU : Nat
  U : Nat → ByteArray × Int
  nK : Nat
  K : Nat → Int × Int
  d : Int
  x3 : Int
  x4 : Int
  x5 : Int
  x6 : Int
  x7 : Int
  x8 : Int
def rowU (U : Nat → ByteArray × Int) (j : Nat) : List Value := [.string (U j).1, .int .i64 (U j).2]
def rowK (K : Nat → Int × Int) (j : Nat) : List Value := [.int .i64 (K j).1, .int .i64 (K j).2]
/-- The cells of levels whose users lie at `uA`, its kinds at `kA`. -/
abbrev lvc (uA : Option Addr) (nU uC : Nat) (kA : Option Addr) (nK kC : Nat) (d x3 x4 x5 x6 x7 x8 : Int) : List Value := [.slice uA nU uC, .slice kA nK kC, .int .i64 d, .int .i64 x3, .int .i64 x4, .int .i64 x5, .int .i64 x6, .int .i64 x7, .int .i64 x8]
/-- The cells `cs` are the levels `L`. -/
def IsLv (w : World) (cs : List Value) (L : Lvl) : Prop :=
  ∃ uA uC kA kC, cs = lvc uA L.nU uC kA L.nK kC L.d L.x3 L.x4 L.x5 L.x6 L.x7 L.x8 ∧ Rws w uA L.nU uC 2 (rowU L.U) ∧ Rws w kA L.nK kC 2 (rowK L.K)
theorem IsLv.below {w w1 : World} {cs : List Value} {L : Lvl} (h : IsLv w cs L) (hb : Below w.heap.size w w1) : IsLv w1 cs L := by
  obtain ⟨uA, uC, kA, kC, e, h1, h2⟩ := h
  exact ⟨uA, uC, kA, kC, e, h1.below hb, h2.below hb⟩
theorem Rws.user {w : World} {A : Option Addr} {n c : Nat} {U : Nat → ByteArray × Int} (h : Rws w A n c 2 (rowU U)) {j : Nat} (hj : j < n) :
    ∃ b off, A = some ⟨b, off, none⟩ ∧ w.cell? ⟨b, off + j * 2, none⟩ = some (.string (U j).1) ∧ w.cell? ⟨b, off + j * 2 + 1, none⟩ = some (.int .i64 (U j).2) := by
  obtain ⟨b, off, e, _, hr⟩ := h.get hj
  exact ⟨b, off, e, hr 0 _ rfl, hr 1 _ rfl⟩

/-- The box of levels, and what stands in it. -/
structure Box (w : World) (t : Nat) (cs : List Value) : Prop where
  lt : t < w.heap.size
  at_ : ∀ (i : Nat) (v : Value), cs[i]? = some v → w.cell? ⟨t, i, none⟩ = some v
theorem Box.below {w w1 : World} {t : Nat} {cs : List Value} (h : Box w t cs) (hb : Below w.heap.size w w1) : Box w1 t cs :=
  ⟨Nat.lt_of_lt_of_le h.lt hb.size, fun j v hv => (hb.cell (p := ⟨t, j, none⟩) h.lt).trans (h.at_ j v hv)⟩
theorem box_new (w : World) (cs : List Value) (T : TypeId) : Box (w.alloc (.cells cs.toArray T)) w.heap.size cs :=
  ⟨by simp, fun j v hv => by rw [cell_of_row _ _ _ _ _ _ (heap_alloc_new w _), List.getElem?_toArray]; exact hv⟩

set_option maxHeartbeats 1000000 in
theorem user21 (uA : Option Addr) (n uC : Nat) (kA : Option Addr) (nK kC : Nat) (U : Nat → ByteArray × Int) (d x3 x4 x5 x6 x7 x8 : Int) (u : ByteArray) (w : World) (hU : Rws w uA n uC 2 (rowU U)) :
    Calls Try.prog 11 #[.agg (lvc uA n uC kA nK kC d x3 x4 x5 x6 x7 x8).toArray, .string u] w
      fun e w' => ∃ r, e = .returned (.int .i64 r) ∧ UserPost U u n d r ∧ Below w.heap.size w w' := by
  have HU := Lib.hid hU
  have hbig := hU.big
  unfold maxLen at hbig
  have HA := Lib.hid (Below.alloc (Below.refl w.heap.size w) (Nat.le_refl _) (.cells (lvc uA n uC kA nK kC d x3 x4 x5 x6 x7 x8).toArray 25))
  have HD := Lib.hid (box_new w (lvc uA n uC kA nK kC d x3 x4 x5 x6 x7 x8) 25)
  clear hU
  show Calls Try.prog 11 #[.agg #[.slice uA n uC, .slice kA nK kC, .int .i64 d, .int .i64 x3, .int .i64 x4, .int .i64 x5, .int .i64 x6, .int .i64 x7, .int .i64 x8], .string u] w _
  go_enter Try.func11, Try.ntmps11
  go_wp2
  generalize hw0 : (w.alloc _) = w0 at HA HD ⊢
  clear hw0
  go_loopg [10] n (fun gg s10 wr => ∃ kk : Nat, kk ≤ n ∧ n - kk ≤ gg ∧ s10 = .int .i64 kk ∧ Hid (Below w0.heap.size w0 wr) ∧ Hid (∀ j, j < kk → isU U u j = false))
  case atStart => exact ⟨0, Nat.zero_le _, by omega, rfl, Lib.hid (Below.refl _ w0), Lib.hid (fun j hj => absurd hj (Nat.not_lt_zero _))⟩
  case round =>
    obtain ⟨kk, hkk, hg, rfl, BW, A⟩ := hrel
    by_cases hlt : kk < n
    · have hltz : (kk : Int) < (n : Int) := by omega
      obtain ⟨g, off, rfl, cy, cn⟩ := ((HU.out.below HA.out).below BW.out).user hlt
      have HG := Lib.hid (show isU U u kk = ((U kk).1.toList == u.toList) from rfl)
      generalize hky : (U kk).1 = ky at cy
      generalize hnn : (U kk).2 = nn at cn
      have Hky := Lib.hid hky; have Hnn := Lib.hid hnn
      have HB := Lib.hid (Below.alloc BW.out BW.out.size (.cells #[.string ky, .int .i64 nn] 51))
      clear hky hnn
      cases q2 : (ky.toList == u.toList) with
      | false =>
        have HF := Lib.hid (show isU U u kk = false by rw [HG.out, Hky.out, q2])
        go_wp2
        go_roundg (n - (kk + 1))
        case measure => omega
        case rel =>
          refine ⟨kk + 1, by omega, by omega, by go_num, Lib.hid HB.out, Lib.hid (fun j hj => ?_)⟩
          by_cases e : j = kk
          · subst e; exact HF.out
          · exact A.out j (by omega)
      | true =>
        have HF := Lib.hid (show isU U u kk = true by rw [HG.out, Hky.out, q2])
        go_wp2
        go_ret
        exact ⟨nn, rfl, .inl ⟨kk, hlt, HF.out, A.out, Hnn.out.symm⟩, HA.out.trans (HB.out.mono HA.out.size)⟩
    · have hltz : ¬ (kk : Int) < (n : Int) := by omega
      have : kk = n := by omega
      subst this
      have cd := (HD.out.below BW.out).at_ 2 _ rfl
      go_wp2
      go_ret
      exact ⟨d, rfl, .inr ⟨A.out, rfl⟩, HA.out.trans (BW.out.mono HA.out.size)⟩

set_option maxHeartbeats 1000000 in
theorem user24 (uA : Option Addr) (n uC : Nat) (kA : Option Addr) (nK kC : Nat) (U : Nat → ByteArray × Int) (d x3 x4 x5 x6 x7 x8 : Int) (u : ByteArray) (w : World) (hU : Rws w uA n uC 2 (rowU U)) :
    Calls Try.prog 12 #[.agg (lvc uA n uC kA nK kC d x3 x4 x5 x6 x7 x8).toArray, .string u] w
      fun e w' => ∃ r, e = .returned (.int .i64 r) ∧ UserPost U u n d r ∧ Below w.heap.size w w' := by
  have HU := Lib.hid hU
  have hbig := hU.big
  unfold maxLen at hbig
  have HA := Lib.hid (Below.alloc (Below.refl w.heap.size w) (Nat.le_refl _) (.cells (lvc uA n uC kA nK kC d x3 x4 x5 x6 x7 x8).toArray 25))
  have HD := Lib.hid (box_new w (lvc uA n uC kA nK kC d x3 x4 x5 x6 x7 x8) 25)
  clear hU
  show Calls Try.prog 12 #[.agg #[.slice uA n uC, .slice kA nK kC, .int .i64 d, .int .i64 x3, .int .i64 x4, .int .i64 x5, .int .i64 x6, .int .i64 x7, .int .i64 x8], .string u] w _
  go_enter Try.func12, Try.ntmps12
  go_wp2
  generalize hw0 : (w.alloc _) = w0 at HA HD ⊢
  clear hw0
  have HC0 := Lib.hid (HD.out.at_ 0 _ rfl)
  have HC2 := Lib.hid (HD.out.at_ 2 _ rfl)
  go_loopg [5] n (fun gg s5 wr => ∃ kk : Nat, kk ≤ n ∧ n - kk ≤ gg ∧ s5 = .int .i64 kk ∧ w0 = wr ∧ Hid (∀ j, j < kk → isU U u j = false))
  case atStart => exact ⟨0, Nat.zero_le _, by omega, rfl, rfl, Lib.hid (fun j hj => absurd hj (Nat.not_lt_zero _))⟩
  case round =>
    obtain ⟨kk, hkk, hg, rfl, rfl, A⟩ := hrel
    have c0 := HC0.out
    by_cases hlt : kk < n
    · have hltz : (kk : Int) < (n : Int) := by omega
      obtain ⟨g, off, rfl, cy, cn⟩ := (HU.out.below HA.out).user hlt
      have HG := Lib.hid (show isU U u kk = ((U kk).1.toList == u.toList) from rfl)
      generalize hky : (U kk).1 = ky at cy
      generalize hnn : (U kk).2 = nn at cn
      have Hky := Lib.hid hky; have Hnn := Lib.hid hnn
      clear hky hnn
      cases q2 : (ky.toList == u.toList) with
      | false =>
        have HF := Lib.hid (show isU U u kk = false by rw [HG.out, Hky.out, q2])
        go_wp2
        go_roundg (n - (kk + 1))
        case measure => omega
        case rel =>
          refine ⟨kk + 1, by omega, by omega, by go_num, rfl, Lib.hid (fun j hj => ?_)⟩
          by_cases e : j = kk
          · subst e; exact HF.out
          · exact A.out j (by omega)
      | true =>
        have HF := Lib.hid (show isU U u kk = true by rw [HG.out, Hky.out, q2])
        go_wp2
        go_ret
        exact ⟨nn, rfl, .inl ⟨kk, hlt, HF.out, A.out, Hnn.out.symm⟩, HA.out⟩
    · have hltz : ¬ (kk : Int) < (n : Int) := by omega
      have : kk = n := by omega
      subst this
      have c2 := HC2.out
      go_wp2
      go_ret
      exact ⟨d, rfl, .inr ⟨A.out, rfl⟩, HA.out⟩

end Go.Proofs.Ythhmbcelicfopaa
