/- Sessions: Renew, Great, Many of the reference. Bounds: as holders; at most 900000 shares. -/
import Derived.Test.YtbkchcpfnoclhaaV13
namespace Go.Proofs.Ytbkchcpfnoclhaa
open Go Go.RowKit
set_option linter.unusedVariables false
set_option linter.unusedSimpArgs false
set_option maxRecDepth 100000

set_option maxHeartbeats 16000000 in
theorem renew23 (id : Int) (rm : ByteArray) (nx : Int) (A0 : Option Addr) (n0 c0 : Nat) (A1 : Option Addr) (n1 c1 : Nat) (ms : List ByteArray) (A : Option Addr) (n c : Nat) (K : Nat → Kd) (id' : Int) (w : World) (hm : Strs w A1 n1 ms) (hn1 : n1 ≤ 1000) (h : Kys w A n K) (hn : n ≤ 900000) (hd : ∀ j, j < n → (K j).ds.length ≤ 900) : Calls Try.prog 23 #[.agg #[.int .i64 id, .string rm, .int .i64 nx, .slice A0 n0 c0], .slice A1 n1 c1, .slice A n c, .int .i64 id'] w (RenewP w id' rm (shL (holdL ms (dvI K n)) 0)) := by
  have XS := Lib.hid ((blk_new w (sC id rm nx A0 n0 c0) 24).alloc (.cells #[.int .i64 0, .string ⟨#[]⟩, .int .i64 0, .slice none 0 0] 24))
  have XR := Lib.hid (blk_new2 w (.cells #[.int .i64 id, .string rm, .int .i64 nx, .slice A0 n0 c0] 24) [.int .i64 0, .string ⟨#[]⟩, .int .i64 0, .slice none 0 0] 24)
  have BA := Lib.hid (((Below.refl w.heap.size w).alloc (Nat.le_refl _) (.cells #[.int .i64 id, .string rm, .int .i64 nx, .slice A0 n0 c0] 24)).alloc (by simp) (.cells #[.int .i64 0, .string ⟨#[]⟩, .int .i64 0, .slice none 0 0] 24))
  have HD := Lib.hid (fun u (hb : Below w.heap.size w u) => devices26 A1 n1 c1 ms A n c K 0 u (hm.below hb) hn1 (h.below hb) hn hd)
  unfold WantP at HD
  generalize shL (holdL ms (dvI K n)) 0 = lw at HD ⊢
  clear hm h hd hn hn1
  go_enter Try.func23, Try.ntmps23
  go_upto_region 1 with (fail)
  generalize hwa : World.alloc _ _ = wa at XS XR BA ⊢
  clear hwa
  refine wp_region_held_drew (S := (fun y => Below w.heap.size w y ∧ Blk y w.heap.size (sC id rm nx A0 n0 c0) 24)) (by kernel_rfl) (⟨BA.out.drew, XS.out.drew⟩) (fun hH0 => ?_)
  generalize hy0 : World.drew _ = y0 at hH0 ⊢
  have RB0 : Hid (Below w.heap.size w y0) := Lib.hid hH0.1
  have RX0 := Lib.hid hH0.2
  have RR0 := Lib.hid (show Blk y0 (w.heap.size + 1) [.int .i64 0, .string ⟨#[]⟩, .int .i64 0, .slice none 0 0] 24 by rw [← hy0]; exact XR.out.drew)
  clear hy0
  refine wpAnyH_take (i := 0) (oi := ({ dst := some 10, op := Op.move (Operand.tmp 3), type := 3, pos := "ref.go:122", after := #[], guard := none } : Oper)) (v := ?hv1) rfl (by kernel_rfl) (by kernel_rfl) (by kernel_rfl) (fun _ _ _ h => h) (Or.inl ⟨by rfl, ?hy1⟩) (by assumption) ?hr1
  case hy1 => (intro w hSw; (try dsimp only at hSw); go_simp; (try with_reducible rfl))
  try simp only [Act.put, List.setIfInBounds_toArray, List.set_cons_zero, List.set_cons_succ]
  refine wpAnyH_take (i := 1) (oi := ({ dst := some 11, op := Op.fieldAddr 24 (Operand.tmp 4) 1, type := 0, pos := "ref.go:122", after := #[], guard := none } : Oper)) (v := ?hv2) rfl (by kernel_rfl) (by kernel_rfl) (by kernel_rfl) (fun _ _ _ h => h) (Or.inl ⟨by rfl, ?hy2⟩) (by assumption) ?hr2
  case hy2 => (intro w hSw; (try dsimp only at hSw); go_simp; (try with_reducible rfl))
  try simp only [Act.put, List.setIfInBounds_toArray, List.set_cons_zero, List.set_cons_succ]
  refine wpAnyH_take (i := 2) (oi := ({ dst := some 12, op := Op.load 9 (Operand.tmp 11), type := 9, pos := "ref.go:122", after := #[{ on := 1, ground := Ground.data }], guard := none } : Oper)) (v := .string rm) rfl (by kernel_rfl) (by kernel_rfl) (by kernel_rfl) (fun _ _ _ h => h) (Or.inl ⟨by rfl, fun w0 hw0 => by have q0 := hw0.2.cell (i := 1) rfl; go_simp⟩) (by assumption) ?_
  try simp only [Act.put, List.setIfInBounds_toArray, List.set_cons_zero, List.set_cons_succ]
  refine wpAnyH_take (i := 3) (oi := ({ dst := some 13, op := Op.move (Operand.tmp 1), type := 35, pos := "ref.go:122", after := #[], guard := none } : Oper)) (v := ?hv3) rfl (by kernel_rfl) (by kernel_rfl) (by kernel_rfl) (fun _ _ _ h => h) (Or.inl ⟨by rfl, ?hy3⟩) (by assumption) ?hr3
  case hy3 => (intro w hSw; (try dsimp only at hSw); go_simp; (try with_reducible rfl))
  try simp only [Act.put, List.setIfInBounds_toArray, List.set_cons_zero, List.set_cons_succ]
  refine wpAnyH_take (i := 4) (oi := ({ dst := some 14, op := Op.move (Operand.tmp 2), type := 36, pos := "ref.go:122", after := #[], guard := none } : Oper)) (v := ?hv4) rfl (by kernel_rfl) (by kernel_rfl) (by kernel_rfl) (fun _ _ _ h => h) (Or.inl ⟨by rfl, ?hy4⟩) (by assumption) ?hr4
  case hy4 => (intro w hSw; (try dsimp only at hSw); go_simp; (try with_reducible rfl))
  try simp only [Act.put, List.setIfInBounds_toArray, List.set_cons_zero, List.set_cons_succ]
  refine wpAnyH_take (i := 7) (oi := ({ dst := some 17, op := Op.move (Operand.tmp 1), type := 35, pos := "ref.go:122", after := #[], guard := none } : Oper)) (v := ?hv5) rfl (by kernel_rfl) (by kernel_rfl) (by kernel_rfl) (fun _ _ _ h => h) (Or.inl ⟨by rfl, ?hy5⟩) (by assumption) ?hr5
  case hy5 => (intro w hSw; (try dsimp only at hSw); go_simp; (try with_reducible rfl))
  try simp only [Act.put, List.setIfInBounds_toArray, List.set_cons_zero, List.set_cons_succ]
  refine wpAnyH_take (i := 8) (oi := ({ dst := some 18, op := Op.move (Operand.tmp 2), type := 36, pos := "ref.go:122", after := #[], guard := none } : Oper)) (v := ?hv6) rfl (by kernel_rfl) (by kernel_rfl) (by kernel_rfl) (fun _ _ _ h => h) (Or.inl ⟨by rfl, ?hy6⟩) (by assumption) ?hr6
  case hy6 => (intro w hSw; (try dsimp only at hSw); go_simp; (try with_reducible rfl))
  try simp only [Act.put, List.setIfInBounds_toArray, List.set_cons_zero, List.set_cons_succ]
  refine wpAnyH_ready (rs := [5]) (by kernel_rfl) (by simp) ?_
  refine AllReadyH.cons (o := ({ dst := some 15, op := Op.call { callee := Callee.value (Operand.func 26), args := #[Operand.tmp 13, Operand.tmp 14, Operand.const (Value.int IntKind.i64 0)], argTypes := #[35, 36, 3] }, type := 22, pos := "ref.go:122", after := #[{ on := 3, ground := Ground.data }, { on := 4, ground := Ground.data }], guard := none } : Oper)) rfl (fun KK hKK => ?_) AllReadyH.nil
  go_simp
  (with_reducible refine (HD.out _ RB0.out).mono ?_)
  rintro e1 y1 ⟨AX, cX, rfl, hr, hnw, hb⟩
  have RB1 := Lib.hid (RB0.out.trans (hb.mono RB0.out.size)); have RX1 := Lib.hid (RX0.out.below hb); have RR1 := Lib.hid (RR0.out.below hb)
  have RX := Lib.hid hr; have NX := Lib.hid (show ∀ b off, AX = some ⟨b, off, none⟩ → w.heap.size + 1 < b from fun b off e => Nat.lt_of_lt_of_le RR0.out.lt (hnw b off e))
  clear hr hnw hb
  refine hKK.out _ _ (⟨RB1.out, RX1.out⟩) (fun hH1 => ?_)
  clear hKK KK
  try simp only [Act.put, List.setIfInBounds_toArray, List.set_cons_zero, List.set_cons_succ]
  refine wpAnyH_take (i := 6) (oi := ({ dst := some 16, op := Op.build 24 #[(0, Operand.tmp 10), (1, Operand.tmp 12), (3, Operand.tmp 15)], type := 24, pos := "ref.go:122", after := #[{ on := 0, ground := Ground.data }, { on := 2, ground := Ground.data }, { on := 5, ground := Ground.data }], guard := none } : Oper)) (v := ?hv7) rfl (by kernel_rfl) (by kernel_rfl) (by kernel_rfl) (fun _ _ _ h => h) (Or.inl ⟨by rfl, ?hy7⟩) (by assumption) ?hr7
  case hy7 => (intro w hSw; (try dsimp only at hSw); go_simp; (try with_reducible rfl))
  try simp only [Act.put, List.setIfInBounds_toArray, List.set_cons_zero, List.set_cons_succ]
  refine wpAnyH_ready (rs := [9]) (by kernel_rfl) (by simp) ?_
  refine AllReadyH.cons (o := ({ dst := some 19, op := Op.call { callee := Callee.value (Operand.func 26), args := #[Operand.tmp 17, Operand.tmp 18, Operand.const (Value.int IntKind.i64 0)], argTypes := #[35, 36, 3] }, type := 22, pos := "ref.go:122", after := #[{ on := 7, ground := Ground.data }, { on := 8, ground := Ground.data }, { on := 5, ground := Ground.chain }], guard := none } : Oper)) rfl (fun KK hKK => ?_) AllReadyH.nil
  go_simp
  (with_reducible refine (HD.out _ RB1.out).mono ?_)
  rintro e2 y2 ⟨AY, cY, rfl, hr, hnw, hb⟩
  have RB2 := Lib.hid (RB1.out.trans (hb.mono RB1.out.size)); have RX2 := Lib.hid (RX1.out.below hb); have RR2 := Lib.hid (RR1.out.below hb)
  have RY := Lib.hid hr; have NY := Lib.hid (show ∀ b off, AY = some ⟨b, off, none⟩ → w.heap.size + 1 < b from fun b off e => Nat.lt_of_lt_of_le RR1.out.lt (hnw b off e))
  have RZ := Lib.hid (RX.out.below hb)
  clear hr hnw hb
  refine hKK.out _ _ (⟨RB2.out, RX2.out⟩) (fun hH2 => ?_)
  clear hKK KK
  try simp only [Act.put, List.setIfInBounds_toArray, List.set_cons_zero, List.set_cons_succ]
  refine wpAnyH_ready (rs := [10]) (by kernel_rfl) (by simp) ?_
  refine AllReadyH.cons (o := ({ dst := none, op := Op.store 24 (Operand.tmp 8) (Operand.tmp 16), type := 0, pos := "ref.go:122", after := #[{ on := 6, ground := Ground.data }, { on := 9, ground := Ground.chain }, { on := 0, ground := Ground.phase }, { on := 1, ground := Ground.phase }, { on := 2, ground := Ground.phase }, { on := 3, ground := Ground.phase }, { on := 4, ground := Ground.phase }, { on := 5, ground := Ground.phase }, { on := 6, ground := Ground.phase }, { on := 7, ground := Ground.textOnly Departure.lateStores }, { on := 8, ground := Ground.textOnly Departure.lateStores }, { on := 9, ground := Ground.textOnly Departure.lateStoresUnsure }], guard := none } : Oper)) rfl (fun KK hKK => ?_) AllReadyH.nil
  refine step_store_as rfl 24 _ _ rfl (w.heap.size + 1) [.int .i64 0, .string ⟨#[]⟩, .int .i64 0, .slice none 0 0] 24 [.int .i64 id', .string rm, .int .i64 0, .slice AX lw.length cX] rfl rfl RR2.out rfl size24 (by simp [Value.oneCell']) ?_
  intro y3 he hb hp
  have RB3 := Lib.hid (RB2.out.trans (hp.bel _ (Nat.le_succ _))); have RX3 := Lib.hid (hp.oth _ _ _ (by omega) RX2.out); have RR3 := Lib.hid hb
  have QX := Lib.hid (show Rcs y3 AX lw.length cX lw by rw [he]; exact RZ.out.setRow NX.out _ _); have QY := Lib.hid (show Rcs y3 AY lw.length cY lw by rw [he]; exact RY.out.setRow NY.out _ _)
  clear he hb hp
  refine hKK.out _ _ (⟨RB3.out, RX3.out⟩) (fun hH3 => ?_)
  clear hKK KK
  try simp only [Act.put, List.setIfInBounds_toArray, List.set_cons_zero, List.set_cons_succ]
  refine wpAnyH_take (i := 11) (oi := ({ dst := some 9, op := Op.assign (Operand.tmp 19), type := 22, pos := "ref.go:122", after := #[{ on := 9, ground := Ground.data }, { on := 10, ground := Ground.chain }, { on := 0, ground := Ground.phase }, { on := 1, ground := Ground.phase }, { on := 2, ground := Ground.phase }, { on := 3, ground := Ground.phase }, { on := 4, ground := Ground.phase }, { on := 5, ground := Ground.phase }, { on := 6, ground := Ground.phase }, { on := 7, ground := Ground.phase }, { on := 8, ground := Ground.phase }, { on := 9, ground := Ground.phase }, { on := 10, ground := Ground.phase }], guard := none } : Oper)) (v := ?hv8) rfl (by kernel_rfl) (by kernel_rfl) (by kernel_rfl) (fun _ _ _ h => h) (Or.inl ⟨by rfl, ?hy8⟩) (by assumption) ?hr8
  case hy8 => (intro w hSw; (try dsimp only at hSw); go_simp; (try with_reducible rfl))
  try simp only [Act.put, List.setIfInBounds_toArray, List.set_cons_zero, List.set_cons_succ]
  refine wpAnyH_done (by kernel_rfl) ?_ _
  go_wp2
  try simp only [Exit.inBlock, Exit.then]
  refine bodyPost_ret (results_cell_tmp_blk rfl _ _ (w.heap.size + 1) [.int .i64 id', .string rm, .int .i64 0, .slice AX lw.length cX] 24 _ rfl RR3.out Try.underlying24 rfl size24) rfl ?_
  exact ⟨AX, cX, AY, cY, rfl, QX.out, QY.out, RB3.out⟩
/-- What Great tells. -/
def GreatP (w : World) (n : Int) (rm : ByteArray) (l : List Rc) (r : Ending) (w' : World) : Prop := ∃ b, r = .returned (.bool b) ∧ (b = false → (l.length : Int) ≤ n ∧ rm.size ≤ 200 ∧ ∀ j, j < l.length → (l.getD j t0).us.size ≤ 200 ∧ (l.getD j t0).dv.size ≤ 200) ∧ Below w.heap.size w w'
set_option maxHeartbeats 8000000 in
theorem great9 (id : Int) (rm : ByteArray) (nx : Int) (A : Option Addr) (c : Nat) (l : List Rc) (m : Int) (w : World) (h : Rcs w A l.length c l) (hrm : rm.size ≤ 9223372036854775807) : Calls Try.prog 9 #[.agg #[.int .i64 id, .string rm, .int .i64 nx, .slice A l.length c], .int .i64 m] w (GreatP w m rm l) := by
  have XS := Lib.hid (blk_new w (sC id rm nx A l.length c) 24)
  have BA := Lib.hid ((Below.refl w.heap.size w).alloc (Nat.le_refl _) (.cells #[.int .i64 id, .string rm, .int .i64 nx, .slice A l.length c] 24))
  have H := Lib.hid h
  have hbig := h.rws.big
  unfold maxLen at hbig
  clear h
  have y3 := XS.out.cell (i := 3) rfl
  have y1 := XS.out.cell (i := 1) rfl
  by_cases h1 : m < (l.length : Int)
  · go_enter Try.func9, Try.ntmps9
    go_wp2
    go_ret
    exact ⟨true, rfl, (fun e => by cases e), BA.out⟩
  · by_cases h2 : 200 < rm.size
    · have h2z : (200 : Int) < (rm.size : Int) := by omega
      go_enter Try.func9, Try.ntmps9
      go_wp2
      go_ret
      exact ⟨true, rfl, (fun e => by cases e), BA.out⟩
    · have h2z : ¬ (200 : Int) < (rm.size : Int) := by omega
      go_enter Try.func9, Try.ntmps9
      go_wp2
      go_loopg [5] l.length (fun gg s5 wr => ∃ (k : Nat), k ≤ l.length ∧ l.length - k ≤ gg ∧ s5 = .int .i64 (k : Int) ∧ Hid (Below w.heap.size w wr) ∧ Hid (Blk wr w.heap.size (sC id rm nx A l.length c) 24) ∧ Hid (∀ j, j < k → (l.getD j t0).us.size ≤ 200 ∧ (l.getD j t0).dv.size ≤ 200))
      case atStart => exact ⟨0, Nat.zero_le _, by omega, rfl, BA, XS, Lib.hid (fun j hj => absurd hj (Nat.not_lt_zero _))⟩
      case round =>
        clear BA XS y3 y1
        obtain ⟨k, hk, hg, rfl, BW, XS, HJ⟩ := hrel
        have y3 := XS.out.cell (i := 3) rfl
        by_cases hlt : k < l.length
        · have hltz : (k : Int) < (l.length : Int) := by omega
          have hk0 : (0 : Int) ≤ (k : Int) := by omega
          obtain ⟨b, off, rfl, hbl, hr, hft⟩ := (H.out.below BW.out).get hlt
          have q0 : wr.cell? ⟨b, off + k * 3, none⟩ = some (.string (l.getD k t0).us) := hr 0 _ rfl
          have q1 : wr.cell? ⟨b, off + k * 3 + 1, none⟩ = some (.string (l.getD k t0).dv) := hr 1 _ rfl
          have HNx := Lib.hid (show (l.getD k t0).us.size ≤ 200 ∧ (l.getD k t0).dv.size ≤ 200 → ∀ j, j < k + 1 → (l.getD j t0).us.size ≤ 200 ∧ (l.getD j t0).dv.size ≤ 200 from fun e j hj => by
            by_cases e2 : j = k
            · subst e2; exact e
            · exact HJ.out j (by omega))
          obtain ⟨hf1, hf2⟩ := hft
          clear hr HJ
          generalize l.getD k t0 = p at q0 q1 HNx hf1 hf2
          obtain ⟨us, dv, ix⟩ := p
          dsimp only at q0 q1 HNx hf1 hf2
          by_cases e1 : 200 < us.size
          · have e1z : (200 : Int) < (us.size : Int) := by omega
            go_wp2
            go_ret
            exact ⟨true, rfl, (fun e => by cases e), BW.out⟩
          · have e1z : ¬ (200 : Int) < (us.size : Int) := by omega
            by_cases e2 : 200 < dv.size
            · have e2z : (200 : Int) < (dv.size : Int) := by omega
              go_wp2
              go_ret
              exact ⟨true, rfl, (fun e => by cases e), BW.out⟩
            · have e2z : ¬ (200 : Int) < (dv.size : Int) := by omega
              have HJ2 := Lib.hid (HNx.out ⟨by omega, by omega⟩)
              go_wp2
              go_roundg (l.length - (k + 1))
              case measure => omega
              case rel => exact ⟨k + 1, by omega, by omega, by go_num, BW, XS, HJ2⟩
        · have hltz : ¬ (k : Int) < (l.length : Int) := by omega
          obtain rfl : k = l.length := by omega
          go_wp2
          go_ret
          exact ⟨false, rfl, (fun _ => ⟨by omega, by omega, HJ.out⟩), BW.out⟩
/-- What Many tells. -/
def ManyP (w : World) (ms : List ByteArray) (K : Nat → Kd) (n : Nat) (r : Ending) (w' : World) : Prop := ∃ b, r = .returned (.bool b) ∧ (b = false → ms.length ≤ 30 ∧ n ≤ 30 ∧ (∀ j, j < n → (K j).ds.length ≤ 30)) ∧ Below w.heap.size w w'
set_option maxHeartbeats 8000000 in
theorem many16 (A1 : Option Addr) (n1 c1 : Nat) (ms : List ByteArray) (A : Option Addr) (n c : Nat) (K : Nat → Kd) (w : World) (hm : Strs w A1 n1 ms) (hb1 : n1 ≤ 9223372036854775807) (h : Kys w A n K) : Calls Try.prog 16 #[.slice A1 n1 c1, .slice A n c] w (ManyP w ms K n) := by
  have HM := Lib.hid hm
  have H := Lib.hid h
  have hbig := h.big
  unfold maxLen at hbig
  have hml := hm.1
  clear h hm
  by_cases h1 : 30 < n1
  · have h1z : (30 : Int) < (n1 : Int) := by omega
    go_enter Try.func16, Try.ntmps16
    go_wp2
    go_ret
    exact ⟨true, rfl, (fun e => by cases e), Below.refl _ _⟩
  · have h1z : ¬ (30 : Int) < (n1 : Int) := by omega
    by_cases h2 : 30 < n
    · have h2z : (30 : Int) < (n : Int) := by omega
      go_enter Try.func16, Try.ntmps16
      go_wp2
      go_ret
      exact ⟨true, rfl, (fun e => by cases e), Below.refl _ _⟩
    · have h2z : ¬ (30 : Int) < (n : Int) := by omega
      go_enter Try.func16, Try.ntmps16
      go_wp2
      go_loopg [5] n1 (fun gg s5 wr => ∃ (k : Nat), k ≤ n1 ∧ n1 - k ≤ gg ∧ s5 = .int .i64 (k : Int) ∧ Hid (Below w.heap.size w wr))
      case atStart => exact ⟨0, Nat.zero_le _, by omega, rfl, Lib.hid (Below.refl _ _)⟩
      case round =>
        obtain ⟨k, hk, hg, rfl, BW⟩ := hrel
        by_cases hlt : k < n1
        · have hltz : (k : Int) < (n1 : Int) := by omega
          have hk0 : (0 : Int) ≤ (k : Int) := by omega
          obtain ⟨b, off, rfl, t, ht, hts, hu1, hcl⟩ := (HM.out.below BW.out).str hlt
          clear ht hu1
          by_cases e1 : 200 < t.size
          · have e1z : (200 : Int) < (t.size : Int) := by omega
            go_wp2
            go_ret
            exact ⟨true, rfl, (fun e => by cases e), BW.out⟩
          · have e1z : ¬ (200 : Int) < (t.size : Int) := by omega
            go_wp2
            go_roundg (n1 - (k + 1))
            case measure => omega
            case rel => exact ⟨k + 1, by omega, by omega, by go_num, BW⟩
        · have hltz : ¬ (k : Int) < (n1 : Int) := by omega
          go_wp2
          go_loopg [6, 7] n (fun gg s6 _ wr => ∃ (k : Nat), k ≤ n ∧ n - k ≤ gg ∧ s6 = .int .i64 (k : Int) ∧ Hid (Below w.heap.size w wr) ∧ Hid (∀ j, j < k → (K j).ds.length ≤ 30))
          case atStart => exact ⟨0, Nat.zero_le _, by omega, rfl, BW, Lib.hid (fun j hj => absurd hj (Nat.not_lt_zero _))⟩
          case round =>
            clear BW
            clear hk hg hlt hltz
            obtain ⟨kk, hkk, hg1, rfl, BW, HJ⟩ := hrel
            by_cases hlk : kk < n
            · have hlkz : (kk : Int) < (n : Int) := by omega
              have hkk0 : (0 : Int) ≤ (kk : Int) := by omega
              obtain ⟨bk, ok, rfl, hbk, hr⟩ := (H.out.below BW.out).get hlk
              have p0 : wr.cell? ⟨bk, ok + kk * 4, none⟩ = some (.string (K kk).us) := hr 0 _ rfl
              have p3 : wr.cell? ⟨bk, ok + kk * 4 + 3, none⟩ = some (.slice (K kk).A (K kk).n (K kk).c) := hr 3 _ rfl
              have HP3 := Lib.hid (fun u (hb : Below wr.heap.size wr u) => (hb.cell (p := ⟨bk, ok + kk * 4 + 3, none⟩) hbk).trans p3)
              have HRo := Lib.hid ((H.out.row kk hlk).below BW.out)
              have HNx := Lib.hid (show (K kk).ds.length ≤ 30 → ∀ j, j < kk + 1 → (K j).ds.length ≤ 30 from fun e j hj => by
                by_cases e2 : j = kk
                · subst e2; exact e
                · exact HJ.out j (by omega))
              clear hr HJ
              generalize K kk = k0 at p0 p3 HP3 HRo HNx
              obtain ⟨us, m1, pp, AD, nD, cD, ds⟩ := k0
              dsimp only at p0 p3 HP3 HRo HNx
              have hln := HRo.out.len
              have hdb := HRo.out.rws.big
              unfold maxLen at hdb
              subst hln
              by_cases e1 : 30 < ds.length
              · have e1z : (30 : Int) < (ds.length : Int) := by omega
                by_cases e0 : (200 : Int) < (us.size : Int)
                · go_wp2
                  go_ret
                  exact ⟨true, rfl, (fun e => by cases e), BW.out⟩
                · go_wp2
                  go_ret
                  exact ⟨true, rfl, (fun e => by cases e), BW.out⟩
              · have e1z : ¬ (30 : Int) < (ds.length : Int) := by omega
                have HJ2 := Lib.hid (HNx.out (by omega))
                by_cases e0 : (200 : Int) < (us.size : Int)
                · go_wp2
                  go_ret
                  exact ⟨true, rfl, (fun e => by cases e), BW.out⟩
                · go_wp2
                  go_loopg [7] ds.length (fun gg s7 wx => ∃ (j : Nat), j ≤ ds.length ∧ ds.length - j ≤ gg ∧ s7 = .int .i64 (j : Int) ∧ Hid (Below wr.heap.size wr wx))
                  case atStart => exact ⟨0, Nat.zero_le _, by omega, rfl, Lib.hid (Below.refl _ _)⟩
                  case round =>
                    obtain ⟨j, hj, hg2, rfl, BX⟩ := hrel
                    have p4 := HP3.out _ BX.out
                    by_cases hlj : j < ds.length
                    · have hljz : (j : Int) < (ds.length : Int) := by omega
                      have hj0 : (0 : Int) ≤ (j : Int) := by omega
                      obtain ⟨bd, od, rfl, hbd, hr, hfd⟩ := (HRo.out.below BX.out).get hlj
                      have d0 : wr.cell? ⟨bd, od + j * 3, none⟩ = some (.string (ds.getD j Dv.t0).id) := hr 0 _ rfl
                      have hfd2 : (ds.getD j Dv.t0).id.size ≤ 9223372036854775807 := hfd
                      clear hr hfd
                      generalize (ds.getD j Dv.t0).id = dd at d0 hfd2
                      by_cases e2 : (200 : Int) < (dd.size : Int)
                      · go_wp2
                        go_ret
                        exact ⟨true, rfl, (fun e => by cases e), BW.out.trans (BX.out.mono BW.out.size)⟩
                      · go_wp2
                        go_roundg (ds.length - (j + 1))
                        case measure => omega
                        case rel => exact ⟨j + 1, by omega, by omega, by go_num, BX⟩
                    · have hljz : ¬ (j : Int) < (ds.length : Int) := by omega
                      go_wp2
                      go_roundg (n - (kk + 1))
                      case measure => omega
                      case rel => exact ⟨kk + 1, by omega, by omega, by go_num, Lib.hid (BW.out.trans (BX.out.mono BW.out.size)), HJ2⟩
            · have hlkz : ¬ (kk : Int) < (n : Int) := by omega
              obtain rfl : kk = n := by omega
              go_wp2
              go_ret
              exact ⟨false, rfl, (fun _ => ⟨by omega, by omega, HJ.out⟩), BW.out⟩
end Go.Proofs.Ytbkchcpfnoclhaa
