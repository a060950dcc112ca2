/- firstList, Allowed and Keeps, of the program and of the reference. No condition beside the bounds. -/
import Derived.Test.YtokofmolbdpklaaC2
import Derived.BigQuiet
import Derived.Deep.RegionHeld3
import Derived.Deep.Cut
namespace Go.Proofs.Ytokofmolbdpklaa
open Go.RowKit
set_option linter.unusedVariables false

theorem blk_second (w : World) (o : Obj) (cs : List Value) (T : TypeId) : Blk ((w.alloc o).alloc (.cells cs.toArray T)) (w.heap.size + 1) cs T := by
  have := blk_new (w.alloc o) cs T
  have e : (w.alloc o).heap.size = w.heap.size + 1 := by simp
  rw [e] at this
  exact this
theorem below_two (w : World) (o p : Obj) : Below w.heap.size w ((w.alloc o).alloc p) := ((Below.refl _ w).alloc (Nat.le_refl _) o).alloc (by simp) p
def pick3 (hd ha : Bool) : Int := if hd then 0 else if ha then 1 else -1
set_option maxHeartbeats 1000000 in
theorem list20 (sv : ByteArray) (b c : Nat) (dA : Option Addr) (nD dC : Nat) (aA : Option Addr) (nA aC : Nat) (hd ha : Bool) (w : World) (h0 : w.cell? ⟨b, 0, none⟩ = some (.slice dA nD dC)) (h1 : w.cell? ⟨b, 1, none⟩ = some (.slice aA nA aC)) (hlt : b < w.heap.size)
    (C0 : ∀ w1, Below w.heap.size w w1 → Calls Try.prog 25 #[.slice dA nD dC, .string sv] w1 fun e w' => e = .returned (.bool hd) ∧ Below w1.heap.size w1 w')
    (C1 : ∀ w1, Below w.heap.size w w1 → Calls Try.prog 25 #[.slice aA nA aC, .string sv] w1 fun e w' => e = .returned (.bool ha) ∧ Below w1.heap.size w1 w') :
    Calls Try.prog 20 #[.string sv, .slice (some ⟨b, 0, none⟩) 2 c] w fun e w' => e = .returned (.int .i64 (pick3 hd ha)) ∧ Below w.heap.size w w' := by
  have H0 := Lib.hid h0
  have H1 := Lib.hid h1
  have HL := Lib.hid hlt
  have D0 := Lib.hid C0
  have D1 := Lib.hid C1
  clear h0 h1 hlt C0 C1
  go_enter Try.func20, Try.ntmps20
  go_wp2
  go_loopw [5, 6, 9] (fun _ _ i wr => Hid (Below w.heap.size w wr) ∧ (i = .int .i64 0 ∨ (i = .int .i64 1 ∧ hd = false) ∨ (i = .int .i64 2 ∧ hd = false ∧ ha = false))) (fun _ _ i _ => 2 - (intOf i).toNat)
  case atStart => exact ⟨Lib.hid (Below.refl _ _), .inl rfl⟩
  case round =>
    obtain ⟨HB, rfl | ⟨rfl, rfl⟩ | ⟨rfl, rfl, rfl⟩⟩ := hrel
    · have k0 := (HB.out.cell (p := ⟨b, 0, none⟩) HL.out).trans H0.out
      cases hd
      · go_wp2_with (go_at_call 25; refine (D0.out _ HB.out).mono ?_; rintro e w1 ⟨rfl, hb1⟩)
        go_roundw
        case rel => exact ⟨Lib.hid (HB.out.trans (hb1.mono HB.out.size)), .inr (.inl ⟨by go_num, by simp⟩)⟩
        case measure => simp [intOf]
      · go_wp2_with (go_at_call 25; refine (D0.out _ HB.out).mono ?_; rintro e w1 ⟨rfl, hb1⟩)
        go_ret
        exact ⟨rfl, HB.out.trans (hb1.mono HB.out.size)⟩
    · have k0 := (HB.out.cell (p := ⟨b, 1, none⟩) HL.out).trans H1.out
      cases ha
      · go_wp2_with (go_at_call 25; refine (D1.out _ HB.out).mono ?_; rintro e w1 ⟨rfl, hb1⟩)
        go_roundw
        case rel => exact ⟨Lib.hid (HB.out.trans (hb1.mono HB.out.size)), .inr (.inr ⟨by go_num, by simp⟩)⟩
        case measure => simp [intOf]
      · go_wp2_with (go_at_call 25; refine (D1.out _ HB.out).mono ?_; rintro e w1 ⟨rfl, hb1⟩)
        go_ret
        exact ⟨rfl, HB.out.trans (hb1.mono HB.out.size)⟩
    · go_wp2
      go_ret
      exact ⟨rfl, HB.out⟩
def hit (zs : List ByteArray) (sv : ByteArray) : Bool := decide (0 ≤ GL.fst zs (GL.bys sv))
theorem any25 {w : World} {A : Option Addr} {n c : Nat} {zs : List ByteArray} (h : Txs w A n c zs) (sv : ByteArray) (hs : sv.size ≤ 4611686018427387903) (w1 : World) (hb : Below w.heap.size w w1) :
    Calls Try.prog 25 #[.slice A n c, .string sv] w1 fun e w' => e = .returned (.bool (hit zs sv)) ∧ Below w1.heap.size w1 w' := GL.any_any A n c zs sv hs w1 (h.below hb).strs
theorem any21 {w : World} {A : Option Addr} {n c : Nat} {zs : List ByteArray} (h : Txs w A n c zs) (sv : ByteArray) (hs : sv.size ≤ 4611686018427387903) (w1 : World) (hb : Below w.heap.size w w1) :
    Calls Try.prog 21 #[.slice A n c, .string sv] w1 fun e w' => e = .returned (.bool (hit zs sv)) ∧ Below w1.heap.size w1 w' := GL.rany_any A n c zs sv hs w1 (h.below hb).strs
theorem list20t (sv : ByteArray) (hs : sv.size ≤ 4611686018427387903) (b c : Nat) (dA : Option Addr) (nD dC : Nat) (aA : Option Addr) (nA aC : Nat) (dn al : List ByteArray) (w : World) (h0 : w.cell? ⟨b, 0, none⟩ = some (.slice dA nD dC)) (h1 : w.cell? ⟨b, 1, none⟩ = some (.slice aA nA aC)) (hlt : b < w.heap.size) (hD : Txs w dA nD dC dn) (hA : Txs w aA nA aC al) :
    Calls Try.prog 20 #[.string sv, .slice (some ⟨b, 0, none⟩) 2 c] w fun e w' => e = .returned (.int .i64 (pick3 (hit dn sv) (hit al sv))) ∧ Below w.heap.size w w' :=
  list20 sv b c dA nD dC aA nA aC _ _ w h0 h1 hlt (fun w1 hb => any25 hD sv hs w1 hb) (fun w1 hb => any25 hA sv hs w1 hb)
/-- What Allowed reports. -/
def allow (C : Ct) (sv : ByteArray) : Bool := !hit C.dn sv && hit C.al sv
theorem pick3_is (a b : Bool) : (pick3 a b = 1) = ((!a && b) = true) := by cases a <;> cases b <;> simp [pick3]
set_option maxHeartbeats 1000000 in
theorem allowed9 (C : Ct) (a : Ads) (sv : ByteArray) (hs : sv.size ≤ 4611686018427387903) (w : World) (h : IsCt w C a) :
    Calls Try.prog 9 #[.agg (cells C a).toArray, .string sv] w fun e w' => e = .returned (.bool (allow C sv)) ∧ Below w.heap.size w w' := by
  have HA := Lib.hid h.al
  have HD := Lib.hid h.dn
  clear h
  unfold allow
  obtain ⟨tx, n, tg, th, via, nA, al, nD, dn, ⟨nU, U, nK, K, d, x3, x4, x5, x6, x7, x8⟩⟩ := C
  obtain ⟨aA, aC, dA, dC, uA, uC, kA, kC⟩ := a
  dsimp only at HA HD ⊢
  have hp := pick3_is (hit dn sv) (hit al sv)
  have HC := Lib.hid (fun b c w1 h0 h1 hlt hD hA => list20t sv hs b c dA nD dC aA nA aC dn al w1 h0 h1 hlt hD hA)
  generalize hr : pick3 (hit dn sv) (hit al sv) = r at HC hp
  generalize (!hit dn sv && hit al sv) = q at hp ⊢
  clear hr
  go_enter Try.func9, Try.ntmps9
  have H2 := Lib.hid (blk_second w (.cells (ctc tx n tg th via aA nA aC dA nD dC uA nU uC kA nK kC d x3 x4 x5 x6 x7 x8).toArray 28) [.slice dA nD dC, .slice aA nA aC] 22)
  have B2 := Lib.hid (below_two w (.cells (ctc tx n tg th via aA nA aC dA nD dC uA nU uC kA nK kC d x3 x4 x5 x6 x7 x8).toArray 28) (.cells #[.slice dA nD dC, .slice aA nA aC] 22))
  cases q
  · have hq : (r == 1) = false := by
      have : ¬ r = 1 := by rw [hp]; simp
      simpa using this
    clear hp
    go_wp2_with (go_at_call 20; (with_reducible refine (HC.out _ _ _ (H2.out.cell (i := 0) rfl) (H2.out.cell (i := 1) rfl) H2.out.lt (HD.out.below B2.out) (HA.out.below B2.out)).mono ?_); rintro e w3 ⟨rfl, hb3⟩)
    go_ret
    exact ⟨rfl, B2.out.trans (hb3.mono B2.out.size)⟩
  · have hq : r = 1 := by rw [hp]
    clear hp
    subst hq
    go_wp2_with (go_at_call 20; (with_reducible refine (HC.out _ _ _ (H2.out.cell (i := 0) rfl) (H2.out.cell (i := 1) rfl) H2.out.lt (HD.out.below B2.out) (HA.out.below B2.out)).mono ?_); rintro e w3 ⟨rfl, hb3⟩)
    go_ret
    exact ⟨rfl, B2.out.trans (hb3.mono B2.out.size)⟩
set_option maxHeartbeats 1000000 in
theorem allowed10 (C : Ct) (a : Ads) (sv : ByteArray) (hs : sv.size ≤ 4611686018427387903) (w : World) (h : IsCt w C a) :
    Calls Try.prog 10 #[.agg (cells C a).toArray, .string sv] w fun e w' => e = .returned (.bool (allow C sv)) ∧ Below w.heap.size w w' := by
  have HA := Lib.hid h.al
  have HD := Lib.hid h.dn
  clear h
  unfold allow
  obtain ⟨tx, n, tg, th, via, nA, al, nD, dn, ⟨nU, U, nK, K, d, x3, x4, x5, x6, x7, x8⟩⟩ := C
  obtain ⟨aA, aC, dA, dC, uA, uC, kA, kC⟩ := a
  dsimp only at HA HD ⊢
  have C0 := Lib.hid (fun w1 hb => any21 HD.out sv hs w1 hb)
  have C1 := Lib.hid (fun w1 hb => any21 HA.out sv hs w1 hb)
  generalize hit dn sv = hd at C0 ⊢
  generalize hit al sv = ha at C1 ⊢
  have B1 := Lib.hid ((Below.refl _ w).alloc (Nat.le_refl _) (.cells (ctc tx n tg th via aA nA aC dA nD dC uA nU uC kA nK kC d x3 x4 x5 x6 x7 x8).toArray 28))
  go_enter Try.func10, Try.ntmps10
  cases hd
  · go_wp2_with (first | (go_at_call 21; (with_reducible refine (C0.out _ B1.out).mono ?_); rintro e w3 ⟨rfl, hb3⟩; have i5 := ((blk_new w (ctc tx n tg th via aA nA aC dA nD dC uA nU uC kA nK kC d x3 x4 x5 x6 x7 x8) 28).below hb3).cell (i := 5) rfl; have B3 := Lib.hid (B1.out.trans (hb3.mono B1.out.size))) | (go_at_call 21; (with_reducible refine (C1.out _ B3.out).mono ?_); rintro e w4 ⟨rfl, hb4⟩))
    go_ret
    exact ⟨rfl, B3.out.trans (hb4.mono B3.out.size)⟩
  · go_wp2_with (go_at_call 21; (with_reducible refine (C0.out _ B1.out).mono ?_); rintro e w3 ⟨rfl, hb3⟩; have B3 := Lib.hid (B1.out.trans (hb3.mono B1.out.size)))
    go_ret
    exact ⟨rfl, B3.out⟩
set_option maxHeartbeats 2000000 in
theorem keeps11 (C1 : Ct) (a1 : Ads) (C2 : Ct) (a2 : Ads) (sv : ByteArray) (hs : sv.size ≤ 4611686018427387903) (w : World) (h1 : IsCt w C1 a1) (h2 : IsCt w C2 a2) :
    Calls Try.prog 11 #[.agg (cells C1 a1).toArray, .agg (cells C2 a2).toArray, .string sv] w fun e w' => e = .returned (.bool (allow C1 sv == allow C2 sv)) ∧ Below w.heap.size w w' := by
  have D1 := Lib.hid (fun w1 (hb : Below w.heap.size w w1) => allowed9 C1 a1 sv hs w1 (h1.below hb))
  have D2 := Lib.hid (fun w1 (hb : Below w.heap.size w w1) => allowed9 C2 a2 sv hs w1 (h2.below hb))
  clear h1 h2
  generalize allow C1 sv = p at D1 ⊢
  generalize allow C2 sv = q at D2 ⊢
  obtain ⟨tx, n, tg, th, via, nA, al, nD, dn, ⟨nU, U, nK, K, d, x3, x4, x5, x6, x7, x8⟩⟩ := C1
  obtain ⟨aA, aC, dA, dC, uA, uC, kA, kC⟩ := a1
  obtain ⟨tx', n', tg', th', via', nA', al', nD', dn', ⟨nU', U', nK', K', d', x3', x4', x5', x6', x7', x8'⟩⟩ := C2
  obtain ⟨aA', aC', dA', dC', uA', uC', kA', kC'⟩ := a2
  have X1 := Lib.hid ((blk_new w (ctc tx n tg th via aA nA aC dA nD dC uA nU uC kA nK kC d x3 x4 x5 x6 x7 x8) 28).alloc (.cells (ctc tx' n' tg' th' via' aA' nA' aC' dA' nD' dC' uA' nU' uC' kA' nK' kC' d' x3' x4' x5' x6' x7' x8').toArray 28))
  have X2 := Lib.hid (blk_second w (.cells (ctc tx n tg th via aA nA aC dA nD dC uA nU uC kA nK kC d x3 x4 x5 x6 x7 x8).toArray 28) (ctc tx' n' tg' th' via' aA' nA' aC' dA' nD' dC' uA' nU' uC' kA' nK' kC' d' x3' x4' x5' x6' x7' x8') 28)
  have B2 := Lib.hid (below_two w (.cells (ctc tx n tg th via aA nA aC dA nD dC uA nU uC kA nK kC d x3 x4 x5 x6 x7 x8).toArray 28) (.cells (ctc tx' n' tg' th' via' aA' nA' aC' dA' nD' dC' uA' nU' uC' kA' nK' kC' d' x3' x4' x5' x6' x7' x8').toArray 28))
  have HSz := Lib.hid B2.out.size
  show Calls Try.prog 11 #[.agg #[.string tx, .int .i64 n, .int .i64 tg, .bool th, .string via, .slice aA nA aC, .slice dA nD dC, .slice uA nU uC, .slice kA nK kC, .int .i64 d, .int .i64 x3, .int .i64 x4, .int .i64 x5, .int .i64 x6, .int .i64 x7, .int .i64 x8], .agg #[.string tx', .int .i64 n', .int .i64 tg', .bool th', .string via', .slice aA' nA' aC', .slice dA' nD' dC', .slice uA' nU' uC', .slice kA' nK' kC', .int .i64 d', .int .i64 x3', .int .i64 x4', .int .i64 x5', .int .i64 x6', .int .i64 x7', .int .i64 x8'], .string sv] w _
  go_enter Try.func11, Try.ntmps11
  go_upto_region 1 with (fail)
  generalize hb2 : w.heap.size + 1 = b2 at X2 ⊢
  generalize hb0 : w.heap.size = b1 at X1 ⊢
  generalize hw2 : ((w.alloc _).alloc _) = w2 at X1 X2 B2 HSz ⊢
  have HB0 := Lib.hid hb0
  clear hb2 hb0 hw2
  refine wp_region_held_drew (S := (fun w' => Blk w' b1 (ctc tx n tg th via aA nA aC dA nD dC uA nU uC kA nK kC d x3 x4 x5 x6 x7 x8) 28 ∧ Blk w' b2 (ctc tx' n' tg' th' via' aA' nA' aC' dA' nD' dC' uA' nU' uC' kA' nK' kC' d' x3' x4' x5' x6' x7' x8') 28 ∧ Below w2.heap.size w2 w')) (by kernel_rfl) (by first | exact ⟨X1.out.drew, X2.out.drew, (Below.refl _ _).drew⟩ | exact ⟨hH0.1.below hb3, hH0.2.1.below hb3, hH0.2.2.trans (hb3.mono hH0.2.2.size)⟩ | exact hH0) (fun hH0 => ?_)
  refine wpAnyH_take (i := 0) (oi := ({ dst := some 7, op := Op.load 28 (Operand.tmp 3), type := 28, pos := "access.go:46", after := #[], guard := none } : Oper)) (v := ?hv1) rfl (by kernel_rfl) (by kernel_rfl) (by kernel_rfl) (fun _ _ _ h => h) (Or.inl ⟨by rfl, ?hy1⟩) (by assumption) ?hr1
  case hy1 => (intro w hSw; (try dsimp only at hSw); have k0 := hSw.1.cell (i := 0) rfl; have k1 := hSw.1.cell (i := 1) rfl; have k2 := hSw.1.cell (i := 2) rfl; have k3 := hSw.1.cell (i := 3) rfl; have k4 := hSw.1.cell (i := 4) rfl; have k5 := hSw.1.cell (i := 5) rfl; have k6 := hSw.1.cell (i := 6) rfl; have k7 := hSw.1.cell (i := 7) rfl; have k8 := hSw.1.cell (i := 8) rfl; have k9 := hSw.1.cell (i := 9) rfl; have k10 := hSw.1.cell (i := 10) rfl; have k11 := hSw.1.cell (i := 11) rfl; have k12 := hSw.1.cell (i := 12) rfl; have k13 := hSw.1.cell (i := 13) rfl; have k14 := hSw.1.cell (i := 14) rfl; have k15 := hSw.1.cell (i := 15) rfl; clear hSw; go_simp; (try with_reducible rfl))
  try simp only [Act.put, List.setIfInBounds_toArray, List.set_cons_zero, List.set_cons_succ]
  refine wpAnyH_take (i := 1) (oi := ({ dst := some 8, op := Op.move (Operand.tmp 2), type := 9, pos := "access.go:46", after := #[], guard := none } : Oper)) (v := ?hv2) rfl (by kernel_rfl) (by kernel_rfl) (by kernel_rfl) (fun _ _ _ h => h) (Or.inl ⟨by rfl, ?hy2⟩) (by assumption) ?hr2
  case hy2 => (intro w hSw; (try dsimp only at hSw); go_simp; (try with_reducible rfl))
  try simp only [Act.put, List.setIfInBounds_toArray, List.set_cons_zero, List.set_cons_succ]
  refine wpAnyH_take (i := 3) (oi := ({ dst := some 10, op := Op.load 28 (Operand.tmp 4), type := 28, pos := "access.go:46", after := #[], guard := none } : Oper)) (v := ?hv3) rfl (by kernel_rfl) (by kernel_rfl) (by kernel_rfl) (fun _ _ _ h => h) (Or.inl ⟨by rfl, ?hy3⟩) (by assumption) ?hr3
  case hy3 => (intro w hSw; (try dsimp only at hSw); have k0 := hSw.2.1.cell (i := 0) rfl; have k1 := hSw.2.1.cell (i := 1) rfl; have k2 := hSw.2.1.cell (i := 2) rfl; have k3 := hSw.2.1.cell (i := 3) rfl; have k4 := hSw.2.1.cell (i := 4) rfl; have k5 := hSw.2.1.cell (i := 5) rfl; have k6 := hSw.2.1.cell (i := 6) rfl; have k7 := hSw.2.1.cell (i := 7) rfl; have k8 := hSw.2.1.cell (i := 8) rfl; have k9 := hSw.2.1.cell (i := 9) rfl; have k10 := hSw.2.1.cell (i := 10) rfl; have k11 := hSw.2.1.cell (i := 11) rfl; have k12 := hSw.2.1.cell (i := 12) rfl; have k13 := hSw.2.1.cell (i := 13) rfl; have k14 := hSw.2.1.cell (i := 14) rfl; have k15 := hSw.2.1.cell (i := 15) rfl; clear hSw; go_simp; (try with_reducible rfl))
  try simp only [Act.put, List.setIfInBounds_toArray, List.set_cons_zero, List.set_cons_succ]
  refine wpAnyH_take (i := 4) (oi := ({ dst := some 11, op := Op.move (Operand.tmp 2), type := 9, pos := "access.go:46", after := #[], guard := none } : Oper)) (v := ?hv4) rfl (by kernel_rfl) (by kernel_rfl) (by kernel_rfl) (fun _ _ _ h => h) (Or.inl ⟨by rfl, ?hy4⟩) (by assumption) ?hr4
  case hy4 => (intro w hSw; (try dsimp only at hSw); go_simp; (try with_reducible rfl))
  try simp only [Act.put, List.setIfInBounds_toArray, List.set_cons_zero, List.set_cons_succ]
  refine wpAnyH_ready (rs := [2]) (by kernel_rfl) (by simp) ?_
  refine AllReadyH.cons (o := ({ dst := some 9, op := Op.call { callee := Callee.value (Operand.func 9), args := #[Operand.tmp 7, Operand.tmp 8], argTypes := #[28, 9] }, type := 4, pos := "access.go:46", after := #[{ on := 0, ground := Ground.data }, { on := 1, ground := Ground.data }], guard := none } : Oper)) rfl (fun KK hKK => ?_) AllReadyH.nil
  (go_simp; (with_reducible refine (D1.out _ (B2.out.trans (hH0.2.2.mono HSz.out))).mono ?_); rintro e0 w3 ⟨rfl, hb3⟩)
  refine hKK.out _ _ (by first | exact ⟨X1.out.drew, X2.out.drew, (Below.refl _ _).drew⟩ | exact ⟨hH0.1.below hb3, hH0.2.1.below hb3, hH0.2.2.trans (hb3.mono hH0.2.2.size)⟩ | exact hH0) (fun hH1 => ?_)
  clear hKK KK hH0
  try simp only [Act.put, List.setIfInBounds_toArray, List.set_cons_zero, List.set_cons_succ]
  refine wpAnyH_ready (rs := [5]) (by kernel_rfl) (by simp) ?_
  refine AllReadyH.cons (o := ({ dst := some 12, op := Op.call { callee := Callee.value (Operand.func 9), args := #[Operand.tmp 10, Operand.tmp 11], argTypes := #[28, 9] }, type := 4, pos := "access.go:46", after := #[{ on := 3, ground := Ground.data }, { on := 4, ground := Ground.data }, { on := 2, ground := Ground.chain }], guard := none } : Oper)) rfl (fun KK hKK => ?_) AllReadyH.nil
  (go_simp; (with_reducible refine (D2.out _ (B2.out.trans (hH1.2.2.mono HSz.out))).mono ?_); rintro e0 w3 ⟨rfl, hb3⟩)
  refine hKK.out _ _ (by first | exact ⟨X1.out.drew, X2.out.drew, (Below.refl _ _).drew⟩ | exact ⟨hH1.1.below hb3, hH1.2.1.below hb3, hH1.2.2.trans (hb3.mono hH1.2.2.size)⟩ | exact hH1) (fun hH2 => ?_)
  clear hKK KK hH1
  try simp only [Act.put, List.setIfInBounds_toArray, List.set_cons_zero, List.set_cons_succ]
  refine wpAnyH_take (i := 6) (oi := ({ dst := some 13, op := Op.binOp BinOp.eql 4 (Operand.tmp 9) (Operand.tmp 12) 4, type := 4, pos := "access.go:46", after := #[{ on := 2, ground := Ground.data }, { on := 5, ground := Ground.data }], guard := none } : Oper)) (v := ?hv5) rfl (by kernel_rfl) (by kernel_rfl) (by kernel_rfl) (fun _ _ _ h => h) (Or.inl ⟨by rfl, ?hy5⟩) (by assumption) ?hr5
  case hy5 => (intro w hSw; (try dsimp only at hSw); go_simp; (try with_reducible rfl))
  try simp only [Act.put, List.setIfInBounds_toArray, List.set_cons_zero, List.set_cons_succ]
  refine wpAnyH_take (i := 7) (oi := ({ dst := some 6, op := Op.assign (Operand.tmp 13), type := 4, pos := "access.go:46", after := #[{ on := 6, ground := Ground.data }, { on := 5, ground := Ground.chain }, { on := 0, ground := Ground.phase }, { on := 1, ground := Ground.phase }, { on := 2, ground := Ground.phase }, { on := 3, ground := Ground.phase }, { on := 4, ground := Ground.phase }, { on := 5, ground := Ground.phase }, { on := 6, ground := Ground.phase }], guard := none } : Oper)) (v := ?hv6) rfl (by kernel_rfl) (by kernel_rfl) (by kernel_rfl) (fun _ _ _ h => h) (Or.inl ⟨by rfl, ?hy6⟩) (by assumption) ?hr6
  case hy6 => (intro w hSw; (try dsimp only at hSw); go_simp; (try with_reducible rfl))
  try simp only [Act.put, List.setIfInBounds_toArray, List.set_cons_zero, List.set_cons_succ]
  refine wpAnyH_done (by kernel_rfl) ?_ _
  have hBl := hH2.2.2
  clear hH2
  go_wp2
  go_ret
  exact ⟨rfl, B2.out.trans (hBl.mono HSz.out)⟩
set_option maxHeartbeats 2000000 in
theorem keeps12 (C1 : Ct) (a1 : Ads) (C2 : Ct) (a2 : Ads) (sv : ByteArray) (hs : sv.size ≤ 4611686018427387903) (w : World) (h1 : IsCt w C1 a1) (h2 : IsCt w C2 a2) :
    Calls Try.prog 12 #[.agg (cells C1 a1).toArray, .agg (cells C2 a2).toArray, .string sv] w fun e w' => e = .returned (.bool (allow C1 sv == allow C2 sv)) ∧ Below w.heap.size w w' := by
  have D1 := Lib.hid (fun w1 (hb : Below w.heap.size w w1) => allowed10 C1 a1 sv hs w1 (h1.below hb))
  have D2 := Lib.hid (fun w1 (hb : Below w.heap.size w w1) => allowed10 C2 a2 sv hs w1 (h2.below hb))
  clear h1 h2
  generalize allow C1 sv = p at D1 ⊢
  generalize allow C2 sv = q at D2 ⊢
  obtain ⟨tx, n, tg, th, via, nA, al, nD, dn, ⟨nU, U, nK, K, d, x3, x4, x5, x6, x7, x8⟩⟩ := C1
  obtain ⟨aA, aC, dA, dC, uA, uC, kA, kC⟩ := a1
  obtain ⟨tx', n', tg', th', via', nA', al', nD', dn', ⟨nU', U', nK', K', d', x3', x4', x5', x6', x7', x8'⟩⟩ := C2
  obtain ⟨aA', aC', dA', dC', uA', uC', kA', kC'⟩ := a2
  have X1 := Lib.hid ((blk_new w (ctc tx n tg th via aA nA aC dA nD dC uA nU uC kA nK kC d x3 x4 x5 x6 x7 x8) 28).alloc (.cells (ctc tx' n' tg' th' via' aA' nA' aC' dA' nD' dC' uA' nU' uC' kA' nK' kC' d' x3' x4' x5' x6' x7' x8').toArray 28))
  have X2 := Lib.hid (blk_second w (.cells (ctc tx n tg th via aA nA aC dA nD dC uA nU uC kA nK kC d x3 x4 x5 x6 x7 x8).toArray 28) (ctc tx' n' tg' th' via' aA' nA' aC' dA' nD' dC' uA' nU' uC' kA' nK' kC' d' x3' x4' x5' x6' x7' x8') 28)
  have B2 := Lib.hid (below_two w (.cells (ctc tx n tg th via aA nA aC dA nD dC uA nU uC kA nK kC d x3 x4 x5 x6 x7 x8).toArray 28) (.cells (ctc tx' n' tg' th' via' aA' nA' aC' dA' nD' dC' uA' nU' uC' kA' nK' kC' d' x3' x4' x5' x6' x7' x8').toArray 28))
  have HSz := Lib.hid B2.out.size
  show Calls Try.prog 12 #[.agg #[.string tx, .int .i64 n, .int .i64 tg, .bool th, .string via, .slice aA nA aC, .slice dA nD dC, .slice uA nU uC, .slice kA nK kC, .int .i64 d, .int .i64 x3, .int .i64 x4, .int .i64 x5, .int .i64 x6, .int .i64 x7, .int .i64 x8], .agg #[.string tx', .int .i64 n', .int .i64 tg', .bool th', .string via', .slice aA' nA' aC', .slice dA' nD' dC', .slice uA' nU' uC', .slice kA' nK' kC', .int .i64 d', .int .i64 x3', .int .i64 x4', .int .i64 x5', .int .i64 x6', .int .i64 x7', .int .i64 x8'], .string sv] w _
  go_enter Try.func12, Try.ntmps12
  go_upto_region 1 with (fail)
  generalize hb2 : w.heap.size + 1 = b2 at X2 ⊢
  generalize hb0 : w.heap.size = b1 at X1 ⊢
  generalize hw2 : ((w.alloc _).alloc _) = w2 at X1 X2 B2 HSz ⊢
  have HB0 := Lib.hid hb0
  clear hb2 hb0 hw2
  refine wp_region_held_drew (S := (fun w' => Blk w' b1 (ctc tx n tg th via aA nA aC dA nD dC uA nU uC kA nK kC d x3 x4 x5 x6 x7 x8) 28 ∧ Blk w' b2 (ctc tx' n' tg' th' via' aA' nA' aC' dA' nD' dC' uA' nU' uC' kA' nK' kC' d' x3' x4' x5' x6' x7' x8') 28 ∧ Below w2.heap.size w2 w')) (by kernel_rfl) (by first | exact ⟨X1.out.drew, X2.out.drew, (Below.refl _ _).drew⟩ | exact ⟨hH0.1.below hb3, hH0.2.1.below hb3, hH0.2.2.trans (hb3.mono hH0.2.2.size)⟩ | exact hH0) (fun hH0 => ?_)
  refine wpAnyH_take (i := 0) (oi := ({ dst := some 7, op := Op.load 28 (Operand.tmp 3), type := 28, pos := "ref.go:35", after := #[], guard := none } : Oper)) (v := ?hv7) rfl (by kernel_rfl) (by kernel_rfl) (by kernel_rfl) (fun _ _ _ h => h) (Or.inl ⟨by rfl, ?hy7⟩) (by assumption) ?hr7
  case hy7 => (intro w hSw; (try dsimp only at hSw); have k0 := hSw.1.cell (i := 0) rfl; have k1 := hSw.1.cell (i := 1) rfl; have k2 := hSw.1.cell (i := 2) rfl; have k3 := hSw.1.cell (i := 3) rfl; have k4 := hSw.1.cell (i := 4) rfl; have k5 := hSw.1.cell (i := 5) rfl; have k6 := hSw.1.cell (i := 6) rfl; have k7 := hSw.1.cell (i := 7) rfl; have k8 := hSw.1.cell (i := 8) rfl; have k9 := hSw.1.cell (i := 9) rfl; have k10 := hSw.1.cell (i := 10) rfl; have k11 := hSw.1.cell (i := 11) rfl; have k12 := hSw.1.cell (i := 12) rfl; have k13 := hSw.1.cell (i := 13) rfl; have k14 := hSw.1.cell (i := 14) rfl; have k15 := hSw.1.cell (i := 15) rfl; clear hSw; go_simp; (try with_reducible rfl))
  try simp only [Act.put, List.setIfInBounds_toArray, List.set_cons_zero, List.set_cons_succ]
  refine wpAnyH_take (i := 1) (oi := ({ dst := some 8, op := Op.move (Operand.tmp 2), type := 9, pos := "ref.go:35", after := #[], guard := none } : Oper)) (v := ?hv8) rfl (by kernel_rfl) (by kernel_rfl) (by kernel_rfl) (fun _ _ _ h => h) (Or.inl ⟨by rfl, ?hy8⟩) (by assumption) ?hr8
  case hy8 => (intro w hSw; (try dsimp only at hSw); go_simp; (try with_reducible rfl))
  try simp only [Act.put, List.setIfInBounds_toArray, List.set_cons_zero, List.set_cons_succ]
  refine wpAnyH_take (i := 3) (oi := ({ dst := some 10, op := Op.load 28 (Operand.tmp 4), type := 28, pos := "ref.go:35", after := #[], guard := none } : Oper)) (v := ?hv9) rfl (by kernel_rfl) (by kernel_rfl) (by kernel_rfl) (fun _ _ _ h => h) (Or.inl ⟨by rfl, ?hy9⟩) (by assumption) ?hr9
  case hy9 => (intro w hSw; (try dsimp only at hSw); have k0 := hSw.2.1.cell (i := 0) rfl; have k1 := hSw.2.1.cell (i := 1) rfl; have k2 := hSw.2.1.cell (i := 2) rfl; have k3 := hSw.2.1.cell (i := 3) rfl; have k4 := hSw.2.1.cell (i := 4) rfl; have k5 := hSw.2.1.cell (i := 5) rfl; have k6 := hSw.2.1.cell (i := 6) rfl; have k7 := hSw.2.1.cell (i := 7) rfl; have k8 := hSw.2.1.cell (i := 8) rfl; have k9 := hSw.2.1.cell (i := 9) rfl; have k10 := hSw.2.1.cell (i := 10) rfl; have k11 := hSw.2.1.cell (i := 11) rfl; have k12 := hSw.2.1.cell (i := 12) rfl; have k13 := hSw.2.1.cell (i := 13) rfl; have k14 := hSw.2.1.cell (i := 14) rfl; have k15 := hSw.2.1.cell (i := 15) rfl; clear hSw; go_simp; (try with_reducible rfl))
  try simp only [Act.put, List.setIfInBounds_toArray, List.set_cons_zero, List.set_cons_succ]
  refine wpAnyH_take (i := 4) (oi := ({ dst := some 11, op := Op.move (Operand.tmp 2), type := 9, pos := "ref.go:35", after := #[], guard := none } : Oper)) (v := ?hv10) rfl (by kernel_rfl) (by kernel_rfl) (by kernel_rfl) (fun _ _ _ h => h) (Or.inl ⟨by rfl, ?hy10⟩) (by assumption) ?hr10
  case hy10 => (intro w hSw; (try dsimp only at hSw); go_simp; (try with_reducible rfl))
  try simp only [Act.put, List.setIfInBounds_toArray, List.set_cons_zero, List.set_cons_succ]
  refine wpAnyH_ready (rs := [2]) (by kernel_rfl) (by simp) ?_
  refine AllReadyH.cons (o := ({ dst := some 9, op := Op.call { callee := Callee.value (Operand.func 10), args := #[Operand.tmp 7, Operand.tmp 8], argTypes := #[28, 9] }, type := 4, pos := "ref.go:35", after := #[{ on := 0, ground := Ground.data }, { on := 1, ground := Ground.data }], guard := none } : Oper)) rfl (fun KK hKK => ?_) AllReadyH.nil
  (go_simp; (with_reducible refine (D1.out _ (B2.out.trans (hH0.2.2.mono HSz.out))).mono ?_); rintro e0 w3 ⟨rfl, hb3⟩)
  refine hKK.out _ _ (by first | exact ⟨X1.out.drew, X2.out.drew, (Below.refl _ _).drew⟩ | exact ⟨hH0.1.below hb3, hH0.2.1.below hb3, hH0.2.2.trans (hb3.mono hH0.2.2.size)⟩ | exact hH0) (fun hH1 => ?_)
  clear hKK KK hH0
  try simp only [Act.put, List.setIfInBounds_toArray, List.set_cons_zero, List.set_cons_succ]
  refine wpAnyH_ready (rs := [5]) (by kernel_rfl) (by simp) ?_
  refine AllReadyH.cons (o := ({ dst := some 12, op := Op.call { callee := Callee.value (Operand.func 10), args := #[Operand.tmp 10, Operand.tmp 11], argTypes := #[28, 9] }, type := 4, pos := "ref.go:35", after := #[{ on := 3, ground := Ground.data }, { on := 4, ground := Ground.data }, { on := 2, ground := Ground.chain }], guard := none } : Oper)) rfl (fun KK hKK => ?_) AllReadyH.nil
  (go_simp; (with_reducible refine (D2.out _ (B2.out.trans (hH1.2.2.mono HSz.out))).mono ?_); rintro e0 w3 ⟨rfl, hb3⟩)
  refine hKK.out _ _ (by first | exact ⟨X1.out.drew, X2.out.drew, (Below.refl _ _).drew⟩ | exact ⟨hH1.1.below hb3, hH1.2.1.below hb3, hH1.2.2.trans (hb3.mono hH1.2.2.size)⟩ | exact hH1) (fun hH2 => ?_)
  clear hKK KK hH1
  try simp only [Act.put, List.setIfInBounds_toArray, List.set_cons_zero, List.set_cons_succ]
  refine wpAnyH_take (i := 6) (oi := ({ dst := some 13, op := Op.binOp BinOp.eql 4 (Operand.tmp 9) (Operand.tmp 12) 4, type := 4, pos := "ref.go:35", after := #[{ on := 2, ground := Ground.data }, { on := 5, ground := Ground.data }], guard := none } : Oper)) (v := ?hv11) rfl (by kernel_rfl) (by kernel_rfl) (by kernel_rfl) (fun _ _ _ h => h) (Or.inl ⟨by rfl, ?hy11⟩) (by assumption) ?hr11
  case hy11 => (intro w hSw; (try dsimp only at hSw); go_simp; (try with_reducible rfl))
  try simp only [Act.put, List.setIfInBounds_toArray, List.set_cons_zero, List.set_cons_succ]
  refine wpAnyH_take (i := 7) (oi := ({ dst := some 6, op := Op.assign (Operand.tmp 13), type := 4, pos := "ref.go:35", after := #[{ on := 6, ground := Ground.data }, { on := 5, ground := Ground.chain }, { on := 0, ground := Ground.phase }, { on := 1, ground := Ground.phase }, { on := 2, ground := Ground.phase }, { on := 3, ground := Ground.phase }, { on := 4, ground := Ground.phase }, { on := 5, ground := Ground.phase }, { on := 6, ground := Ground.phase }], guard := none } : Oper)) (v := ?hv12) rfl (by kernel_rfl) (by kernel_rfl) (by kernel_rfl) (fun _ _ _ h => h) (Or.inl ⟨by rfl, ?hy12⟩) (by assumption) ?hr12
  case hy12 => (intro w hSw; (try dsimp only at hSw); go_simp; (try with_reducible rfl))
  try simp only [Act.put, List.setIfInBounds_toArray, List.set_cons_zero, List.set_cons_succ]
  refine wpAnyH_done (by kernel_rfl) ?_ _
  have hBl := hH2.2.2
  clear hH2
  go_wp2
  go_ret
  exact ⟨rfl, B2.out.trans (hBl.mono HSz.out)⟩
end Go.Proofs.Ytokofmolbdpklaa
