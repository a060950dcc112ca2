/- Media: the tests of put and find; put, find of both, Get of both. Bound: at most 900000 files. -/
import Derived.Test.YtahcmhjcpkjccaaR4
import Derived.Test.YtahcmhjcpkjccaaC1
namespace Go.Proofs.Ytahcmhjcpkjccaa
open Go.RowKit
set_option linter.unusedVariables false
set_option linter.unusedSimpArgs false

/-- Same server and name. -/
def pS (m p : Rc) : Bool := cmpR p m == 0
/-- Behind. -/
def pB (m p : Rc) : Bool := decide (0 < cmpR p m)
/-- The file with this server and name. -/
def pF (s n : ByteArray) (p : Rc) : Bool := p.sv.toList == s.toList && p.nm.toList == n.toList
set_option maxHeartbeats 1000000 in
theorem pred45 (p m : Rc) (c1 : Nat) (w : World) (h : Blk w c1 [.string m.sv, .string m.nm, .int .i64 m.sz, .int .i64 m.tt, .int .i64 m.st] 26) : Calls Try.prog 45 #[.agg #[.string p.sv, .string p.nm, .int .i64 p.sz, .int .i64 p.tt, .int .i64 p.st], .pointer (some ⟨c1, 0, none⟩)] w fun e w' => e = .returned (.bool (pS m p)) ∧ Below w.heap.size w w' := by
  have BA := Lib.hid ((Below.refl w.heap.size w).alloc (Nat.le_refl _) (.cells #[.string p.sv, .string p.nm, .int .i64 p.sz, .int .i64 p.tt, .int .i64 p.st] 26))
  have X := blk_new w [.string p.sv, .string p.nm, .int .i64 p.sz, .int .i64 p.tt, .int .i64 p.st] 26
  have Y := h.alloc (.cells #[.string p.sv, .string p.nm, .int .i64 p.sz, .int .i64 p.tt, .int .i64 p.st] 26)
  have a0 := X.cell (i := 0) rfl
  have a1 := X.cell (i := 1) rfl
  have a2 := X.cell (i := 2) rfl
  have a3 := X.cell (i := 3) rfl
  have a4 := X.cell (i := 4) rfl
  have b0 := Y.cell (i := 0) rfl
  have b1 := Y.cell (i := 1) rfl
  have b2 := Y.cell (i := 2) rfl
  have b3 := Y.cell (i := 3) rfl
  have b4 := Y.cell (i := 4) rfl
  have HF := Lib.hid (show pS m p = pS m p from rfl)
  clear h X Y
  go_enter Try.func45, Try.ntmps45
  go_wp2_with (go_at_call 30; (with_reducible refine (compare30 p m _).mono ?_); rintro e w1 ⟨rfl, hb1⟩; have B1 := Lib.hid (BA.out.trans (hb1.mono BA.out.size)); clear hb1)
  go_ret
  exact ⟨rfl, B1.out⟩
set_option maxHeartbeats 1000000 in
theorem pred46 (p m : Rc) (c1 : Nat) (w : World) (h : Blk w c1 [.string m.sv, .string m.nm, .int .i64 m.sz, .int .i64 m.tt, .int .i64 m.st] 26) : Calls Try.prog 46 #[.agg #[.string p.sv, .string p.nm, .int .i64 p.sz, .int .i64 p.tt, .int .i64 p.st], .pointer (some ⟨c1, 0, none⟩)] w fun e w' => e = .returned (.bool (pB m p)) ∧ Below w.heap.size w w' := by
  have BA := Lib.hid ((Below.refl w.heap.size w).alloc (Nat.le_refl _) (.cells #[.string p.sv, .string p.nm, .int .i64 p.sz, .int .i64 p.tt, .int .i64 p.st] 26))
  have X := blk_new w [.string p.sv, .string p.nm, .int .i64 p.sz, .int .i64 p.tt, .int .i64 p.st] 26
  have Y := h.alloc (.cells #[.string p.sv, .string p.nm, .int .i64 p.sz, .int .i64 p.tt, .int .i64 p.st] 26)
  have a0 := X.cell (i := 0) rfl
  have a1 := X.cell (i := 1) rfl
  have a2 := X.cell (i := 2) rfl
  have a3 := X.cell (i := 3) rfl
  have a4 := X.cell (i := 4) rfl
  have b0 := Y.cell (i := 0) rfl
  have b1 := Y.cell (i := 1) rfl
  have b2 := Y.cell (i := 2) rfl
  have b3 := Y.cell (i := 3) rfl
  have b4 := Y.cell (i := 4) rfl
  have HF := Lib.hid (show pB m p = pB m p from rfl)
  clear h X Y
  go_enter Try.func46, Try.ntmps46
  go_wp2_with (go_at_call 30; (with_reducible refine (compare30 p m _).mono ?_); rintro e w1 ⟨rfl, hb1⟩; have B1 := Lib.hid (BA.out.trans (hb1.mono BA.out.size)); clear hb1)
  go_ret
  exact ⟨rfl, B1.out⟩
set_option maxHeartbeats 1000000 in
theorem pred41 (p : Rc) (s n : ByteArray) (c1 c2 : Nat) (w : World) (h1 : c1 < w.heap.size) (h2 : c2 < w.heap.size) (k1 : w.cell? ⟨c1, 0, none⟩ = some (.string s)) (k2 : w.cell? ⟨c2, 0, none⟩ = some (.string n)) : Calls Try.prog 41 #[.agg #[.string p.sv, .string p.nm, .int .i64 p.sz, .int .i64 p.tt, .int .i64 p.st], .pointer (some ⟨c1, 0, none⟩), .pointer (some ⟨c2, 0, none⟩)] w fun e w' => e = .returned (.bool (pF s n p)) ∧ Below w.heap.size w w' := by
  have BA := Lib.hid ((Below.refl w.heap.size w).alloc (Nat.le_refl _) (.cells #[.string p.sv, .string p.nm, .int .i64 p.sz, .int .i64 p.tt, .int .i64 p.st] 26))
  have X := blk_new w [.string p.sv, .string p.nm, .int .i64 p.sz, .int .i64 p.tt, .int .i64 p.st] 26
  have a0 := X.cell (i := 0) rfl
  have a1 := X.cell (i := 1) rfl
  have b0 := (BA.out.cell (p := ⟨c1, 0, none⟩) h1).trans k1
  have b1 := (BA.out.cell (p := ⟨c2, 0, none⟩) h2).trans k2
  clear k1 k2 X
  cases q1 : (p.sv.toList == s.toList)
  · have HF := Lib.hid (show pF s n p = false by unfold pF; rw [q1]; rfl)
    go_enter Try.func41, Try.ntmps41
    go_wp2
    go_ret
    exact ⟨by rw [HF.out]; rfl, BA.out⟩
  · have HF := Lib.hid (show pF s n p = (p.nm.toList == n.toList) by unfold pF; rw [q1]; rfl)
    go_enter Try.func41, Try.ntmps41
    go_wp2
    go_ret
    exact ⟨by rw [HF.out]; rfl, BA.out⟩
set_option maxHeartbeats 1000000 in
theorem find27 (A : Option Addr) (n c : Nat) (zs : List Rc) (s t : ByteArray) (w : World) (h : Rcs w A n c zs) : Calls Try.prog 27 #[.slice A n c, .string s, .string t] w fun e w' => e = .returned (.int .i64 (fidx (pF s t) zs)) ∧ Below w.heap.size w w' := by
  have B1 := (Below.refl w.heap.size w).alloc (Nat.le_refl _) (.cells #[.string s] 9)
  have B2 := B1.alloc B1.size (.cells #[.string t] 9)
  have X := (blk_new w [.string s] 9).alloc (.cells #[.string t] 9)
  have Y : Blk ((w.alloc (.cells #[.string s] 9)).alloc (.cells #[.string t] 9)) (w.heap.size + 1) [.string t] 9 := by
    have := blk_new (w.alloc (.cells #[.string s] 9)) [.string t] 9
    rw [show (w.alloc (.cells #[.string s] 9)).heap.size = w.heap.size + 1 by simp] at this
    exact this
  have HI := Lib.hid (index41 (pF s t) w.heap.size (w.heap.size + 1) A n c zs _ (h.below B2) (fun p u hu => pred41 p s t w.heap.size (w.heap.size + 1) u (X.below hu).lt (Y.below hu).lt ((X.below hu).cell (i := 0) rfl) ((Y.below hu).cell (i := 0) rfl)))
  have HB := Lib.hid B2
  clear B1 B2 X Y h
  go_enter Try.func27, Try.ntmps27
  go_wp2_with (go_at_call 40; (with_reducible refine HI.out.mono ?_); rintro e w1 ⟨rfl, hb1⟩; have B3 := Lib.hid (HB.out.trans (hb1.mono HB.out.size)); clear hb1)
  go_ret
  exact ⟨rfl, B3.out⟩
set_option maxHeartbeats 1000000 in
theorem put33 (A : Option Addr) (n c : Nat) (zs : List Rc) (m : Rc) (w : World) (h : Rcs w A n c zs) (hm : fitR m) (hn : n ≤ 900000) (zz : List Rc) (hz : zz = putQ (pS m) (pB m) m zs) : Calls Try.prog 33 #[.slice A n c, .agg #[.string m.sv, .string m.nm, .int .i64 m.sz, .int .i64 m.tt, .int .i64 m.st]] w (FilP w.heap.size w zz) := by
  have B1 := (Below.refl w.heap.size w).alloc (Nat.le_refl _) (.cells #[.string m.sv, .string m.nm, .int .i64 m.sz, .int .i64 m.tt, .int .i64 m.st] 26)
  have X := blk_new w [.string m.sv, .string m.nm, .int .i64 m.sz, .int .i64 m.tt, .int .i64 m.st] 26
  have HP := Lib.hid (oput_any (.func (.func 45) #[] #[.pointer (some ⟨w.heap.size, 0, none⟩)]) (.func (.func 46) #[] #[.pointer (some ⟨w.heap.size, 0, none⟩)]) (pS m) (pB m) A n c zs m _ (h.below B1) hm hn
    (fun u hu => index45 (pS m) w.heap.size A n c zs u ((h.below B1).below hu) (fun p v hv => pred45 p m w.heap.size v ((X.below hu).below hv)))
    (fun u hu => index46 (pB m) w.heap.size A n c zs u ((h.below B1).below hu) (fun p v hv => pred46 p m w.heap.size v ((X.below hu).below hv))) zz hz)
  have HB := Lib.hid B1
  have a0 := X.cell (i := 0) rfl
  have a1 := X.cell (i := 1) rfl
  have a2 := X.cell (i := 2) rfl
  have a3 := X.cell (i := 3) rfl
  have a4 := X.cell (i := 4) rfl
  clear B1 X h hz
  go_enter Try.func33, Try.ntmps33
  go_wp2_with (go_at_call 44; (with_reducible refine HP.out.mono ?_); rintro e w1 ⟨A1, c1, rfl, hT, hb, hap⟩; have T1 := Lib.hid hT; have B2 := Lib.hid (HB.out.trans (hb.mono HB.out.size)); have P1 := Lib.hid (fun b off e => Nat.le_trans HB.out.size (hap b off e)); clear hT hb hap)
  go_ret
  exact ⟨A1, c1, rfl, T1.out, B2.out, P1.out⟩
set_option maxHeartbeats 2000000 in
theorem place28 (A : Option Addr) (n c : Nat) (zs : List Rc) (s t : ByteArray) (w : World) (h : Rcs w A n c zs) : Calls Try.prog 28 #[.slice A n c, .string s, .string t] w fun e w' => e = .returned (.int .i64 (fidx (pF s t) zs)) ∧ w = w' := by
  have H := Lib.hid h
  have HL := Lib.hid h.len
  have hbig := h.rws.big
  unfold maxLen at hbig
  clear h
  go_enter Try.func28, Try.ntmps28
  go_wp2
  go_loopg [6, 7] n (fun gg _ s7 wr => ∃ kk : Nat, kk ≤ n ∧ n - kk ≤ gg ∧ s7 = .int .i64 kk ∧ w = wr ∧ Hid (∀ j, j < kk → pF s t (zs.getD j t0) = false))
  case atStart => exact ⟨0, Nat.zero_le _, by omega, rfl, rfl, Lib.hid (fun j hj => absurd hj (Nat.not_lt_zero _))⟩
  case round =>
    obtain ⟨kk, hkk, hg, rfl, rfl, O⟩ := hrel
    by_cases hlt : kk < n
    · have hltz : (kk : Int) < (n : Int) := by omega
      obtain ⟨b, off, rfl, hbl, k0, k1, _⟩ := H.out.at_ hlt
      have HT := Lib.hid (fun (e : pF s t (zs.getD kk t0) = true) => fidx_at (q := pF s t) (by rw [HL.out]; exact hlt) e O.out)
      have HN : Hid (pF s t (zs.getD kk t0) = false → ∀ j, j < kk + 1 → pF s t (zs.getD j t0) = false) := Lib.hid (fun hq j hj => by
        by_cases e : j = kk
        · rw [e]; exact hq
        · exact O.out j (by omega))
      generalize zs.getD kk t0 = p at k0 k1 HT HN
      cases q1 : (p.sv.toList == s.toList)
      · have hn2 := Lib.hid (HN.out (by unfold pF; rw [q1]; rfl))
        clear HT HN
        go_wp2
        go_roundg (n - (kk + 1))
        case measure => omega
        case rel => exact ⟨kk + 1, by omega, by omega, by go_num, rfl, hn2⟩
      · cases q2 : (p.nm.toList == t.toList)
        · have hn2 := Lib.hid (HN.out (by unfold pF; rw [q1, q2]; rfl))
          clear HT HN
          go_wp2
          go_roundg (n - (kk + 1))
          case measure => omega
          case rel => exact ⟨kk + 1, by omega, by omega, by go_num, rfl, hn2⟩
        · have hf := Lib.hid (HT.out (by unfold pF; rw [q1, q2]; rfl))
          clear HT HN
          go_wp2
          go_ret
          exact ⟨ret_i64 hf.out.symm, rfl⟩
    · have hltz : ¬ (kk : Int) < (n : Int) := by omega
      have HF := Lib.hid (fidx_no (q := pF s t) (zs := zs) (fun j hj => O.out j (by rw [HL.out] at hj; omega)))
      go_wp2
      go_ret
      exact ⟨ret_i64 HF.out.symm, rfl⟩
end Go.Proofs.Ytahcmhjcpkjccaa
