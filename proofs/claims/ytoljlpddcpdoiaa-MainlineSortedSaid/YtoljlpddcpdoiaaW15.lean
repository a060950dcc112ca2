/- The mainline: cmp.Compare, cmp.Or of numbers; the order's closure. No condition. -/
import Derived.Test.YtoljlpddcpdoiaaW14
import Derived.Deep.RegionHeld3
import Derived.WalkSmall
import Derived.Sort.Grow
namespace Go.Proofs.Ytoljlpddcpdoiaa
open Go Go.RowKit Go.Maps
set_option linter.unusedVariables false
set_option linter.unusedSimpArgs false

/-- Nothing old has turned; draws and blocks behind. -/
structure Gr (w w' : World) : Prop where
  bel : Below w.heap.size w w'
  drawn : w.drawn ≤ w'.drawn
theorem Gr.refl (w : World) : Gr w w := ⟨Below.refl _ _, Nat.le_refl _⟩
theorem Gr.trans {a b c : World} (h : Gr a b) (k : Gr b c) : Gr a c := ⟨h.bel.trans (k.bel.mono h.bel.size), Nat.le_trans h.drawn k.drawn⟩
theorem Gr.grow {w w' : World} (h : Gr w w') : ∃ q os, w' = Sort.grow (w.drewN q) os := by
  refine ⟨w'.drawn - w.drawn, w'.heap.extract w.heap.size w'.heap.size, ?_⟩
  have hs := h.bel.size
  have e : w'.heap = w.heap ++ w'.heap.extract w.heap.size w'.heap.size := by
    apply Array.ext_getElem?
    intro k
    rw [Array.getElem?_append]
    split
    · rename_i hk; exact h.bel.block k hk
    · rename_i hk
      rw [Array.getElem?_extract]
      split
      · rw [show w.heap.size + (k - w.heap.size) = k by omega]
      · rw [Array.getElem?_eq_none]; omega
  obtain ⟨hp, tp, dr, os, out⟩ := w'
  have h1 := h.bel.os; have h2 := h.bel.tape; have h3 := h.bel.output; have h4 := h.drawn
  simp only at h1 h2 h3 h4 e ⊢
  unfold Sort.grow World.drewN
  simp only [World.mk.injEq]
  exact ⟨e, h2, by omega, h1, h3⟩

theorem Gr.drewN {w w1 : World} (h : Gr w w1) (n : Nat) : Gr w (w1.drewN n) := ⟨below_drewN h.bel n, Nat.le_trans h.drawn (Nat.le_add_right _ _)⟩
theorem Gr.drew {w w1 : World} (h : Gr w w1) : Gr w w1.drew := h.drewN 1
def cmpI (a b : Int) : Int := if a < b then -1 else if b < a then 1 else 0
set_option maxHeartbeats 2000000 in
theorem compare31 (a b : Int) (w : World) : Calls Try.prog 31 #[.int .i64 a, .int .i64 b] w fun e w' => e = .returned (.int .i64 (cmpI a b)) ∧ Gr w w' := by
  have HC := Lib.hid (show cmpI a b = if a < b then -1 else if b < a then 1 else 0 from rfl)
  generalize cmpI a b = r at HC ⊢
  by_cases h1 : a < b
  · rw [if_pos h1] at HC
    have h2 : ¬ b < a := by omega
    go_enter Try.func31, Try.ntmps31
    go_wp2_with go_in
    go_ret
    exact ⟨ret_i64 HC.out.symm, Gr.refl _⟩
  · rw [if_neg h1] at HC
    by_cases h2 : b < a
    · rw [if_pos h2] at HC
      go_enter Try.func31, Try.ntmps31
      go_wp2_with go_in
      go_ret
      exact ⟨ret_i64 HC.out.symm, Gr.refl _⟩
    · rw [if_neg h2] at HC
      go_enter Try.func31, Try.ntmps31
      go_wp2_with go_in
      go_ret
      exact ⟨ret_i64 HC.out.symm, Gr.refl _⟩
/-- The first number that is not 0. -/
def orI (zs : List Int) : Int := (zs.find? (fun x => x != 0)).getD 0
set_option maxHeartbeats 4000000 in
theorem or30 (A : Option Addr) (n c : Nat) (zs : List Int) (w : World) (h : Its w A n c zs) (hn : n ≤ 1000000) : Calls Try.prog 30 #[.slice A n c] w fun e w' => e = .returned (.int .i64 (orI zs)) ∧ Gr w w' := by
  have H := Lib.hid h
  have HL := Lib.hid h.len
  clear h
  go_enter Try.func30, Try.ntmps30
  go_wp2
  go_loopg [5, 8] n (fun gg _ s8 wr => ∃ kk : Nat, kk ≤ n ∧ n - kk ≤ gg ∧ s8 = .int .i64 kk ∧ Hid (∀ j, j < kk → (zs.getD j 0 != 0) = false) ∧ wr = w)
  case atStart => exact ⟨0, Nat.zero_le _, by omega, rfl, Lib.hid (fun j hj => absurd hj (Nat.not_lt_zero _)), rfl⟩
  case round =>
    obtain ⟨kk, hkk, hg, rfl, HJ, rfl⟩ := hrel
    by_cases hlt : kk < n
    · have hltz : (kk : Int) < (n : Int) := by omega
      have hk0 : (0 : Int) ≤ (kk : Int) := by omega
      obtain ⟨b, off, rfl, hbl, k0, _⟩ := H.out.at_ hlt
      have HF := Lib.hid (fun (h : (zs.getD kk 0 != 0) = true) => find_first (zs := zs) (q := fun x => x != 0) (by rw [HL.out]; exact hlt) h HJ.out)
      have HN : Hid ((zs.getD kk 0 != 0) = false → ∀ j, j < kk + 1 → (zs.getD j 0 != 0) = false) := Lib.hid (fun h j hj => by
        by_cases e : j = kk
        · subst e; exact h
        · exact HJ.out j (by omega))
      generalize zs.getD kk 0 = i at k0 HF HN
      cases hi : (i != 0)
      · have HN2 := Lib.hid (HN.out hi)
        clear HF HN
        go_wp2
        go_roundg (n - (kk + 1))
        case measure => omega
        case rel => exact ⟨kk + 1, by omega, by omega, by go_num, HN2, rfl⟩
      · have HF2 := Lib.hid (show orI zs = i by unfold orI; rw [HF.out hi]; rfl)
        clear HF HN
        go_wp2
        go_ret
        exact ⟨ret_i64 HF2.out.symm, Gr.refl _⟩
    · have hltz : ¬ (kk : Int) < (n : Int) := by omega
      obtain rfl : kk = n := by omega
      have HF2 := Lib.hid (show orI zs = 0 by unfold orI; rw [find_nil (zs := zs) (q := fun x => x != 0) (fun j hj => HJ.out j (by rw [HL.out] at hj; exact hj))]; rfl)
      go_wp2
      go_ret
      exact ⟨ret_i64 HF2.out.symm, Gr.refl _⟩
theorem its_blk {w : World} {g : Nat} {zs : List Int} (h : Blk w g (zs.map (Value.int .i64)) 3) (hl : zs.length ≤ 1000000) (wf : ∀ z ∈ zs, i64B z) : Its w (some ⟨g, 0, none⟩) zs.length zs.length zs := by
  refine ⟨⟨fun j _ => rfl, fun j _ => by simp [rowI, Value.oneCell'], by unfold maxLen; omega, (fun e => by cases e), .inr ⟨g, 0, rfl, h.lt, fun j hj i u hu => ?_⟩⟩, rfl, Nat.le_refl _, wf⟩
  have hi : i = 0 := by
    have := (List.getElem?_eq_some_iff.1 hu).1
    simp [rowI] at this
    exact this
  subst hi
  refine h.cell ?_
  rw [Nat.zero_add, Nat.mul_one, Nat.add_zero, List.getElem?_map, List.getElem?_eq_getElem hj]
  simp only [rowI, List.getElem?_cons_zero, Option.some.injEq] at hu
  rw [← hu, List.getD_eq_getElem?_getD, List.getElem?_eq_getElem hj]
  rfl
theorem cmpI_wf (a b : Int) : i64B (cmpI a b) := by
  unfold cmpI i64B
  split
  · omega
  · split <;> omega
/-- What the order's closure answers for two places. -/
def ordI (c1 t1 i1 c2 t2 i2 : Int) : Int := orI [cmpI c2 c1, cmpI t1 t2, cmpI i1 i2]
set_option maxRecDepth 100000 in
set_option maxHeartbeats 8000000 in
theorem order29 (c1 t1 i1 c2 t2 i2 : Int) (w : World) : Calls Try.prog 29 #[.agg #[.int .i64 c1, .int .i64 t1, .int .i64 i1], .agg #[.int .i64 c2, .int .i64 t2, .int .i64 i2]] w fun e w' => e = .returned (.int .i64 (ordI c1 t1 i1 c2 t2 i2)) ∧ Gr w w' := by
  have HB := Lib.hid (show Gr w ((w.alloc (.cells #[.int .i64 c1, .int .i64 t1, .int .i64 i1] 62)).alloc (.cells #[.int .i64 c2, .int .i64 t2, .int .i64 i2] 62)) from ⟨((Below.refl w.heap.size w).alloc (Nat.le_refl _) (.cells #[.int .i64 c1, .int .i64 t1, .int .i64 i1] 62)).alloc (by simp) (.cells #[.int .i64 c2, .int .i64 t2, .int .i64 i2] 62), Nat.le_refl _⟩)
  have X0 := Lib.hid (show Blk ((w.alloc (.cells #[.int .i64 c1, .int .i64 t1, .int .i64 i1] 62)).alloc (.cells #[.int .i64 c2, .int .i64 t2, .int .i64 i2] 62)) w.heap.size [.int .i64 c1, .int .i64 t1, .int .i64 i1] 62 from (blk_new w [.int .i64 c1, .int .i64 t1, .int .i64 i1] 62).alloc _)
  have Y0 := Lib.hid (show Blk ((w.alloc (.cells #[.int .i64 c1, .int .i64 t1, .int .i64 i1] 62)).alloc (.cells #[.int .i64 c2, .int .i64 t2, .int .i64 i2] 62)) (w.heap.size + 1) [.int .i64 c2, .int .i64 t2, .int .i64 i2] 62 by
    have := blk_new (w.alloc (.cells #[.int .i64 c1, .int .i64 t1, .int .i64 i1] 62)) [.int .i64 c2, .int .i64 t2, .int .i64 i2] 62
    rwa [World.size_alloc] at this)
  go_enter Try.func29, Try.ntmps29
  go_upto_region 1 with (fail)
  generalize (w.alloc (.cells #[.int .i64 c1, .int .i64 t1, .int .i64 i1] 62)).alloc (.cells #[.int .i64 c2, .int .i64 t2, .int .i64 i2] 62) = wp at HB X0 Y0 ⊢
  refine wp_region_held_drew (S := (fun w0 => Below wp.heap.size wp w0)) (by kernel_rfl) ((Below.refl _ _).drew) (fun hH0 => ?_)
  have RGp := Lib.hid (Gr.refl wp).drew
  generalize wp.drew = y0 at hH0 RGp ⊢
  have RG0 : Hid (Gr wp y0) := RGp
  have RB0 : Hid (Below wp.heap.size wp y0) := Lib.hid hH0
  refine wpAnyH_take (i := 0) (oi := ({ dst := some 5, op := Op.fieldAddr 62 (Operand.tmp 3) 0, type := 0, pos := "mainline.go:85", after := #[], guard := none } : Oper)) (v := ?hv1) rfl (by kernel_rfl) (by kernel_rfl) (by kernel_rfl) (fun _ _ _ h => h) (Or.inl ⟨by rfl, ?hy1⟩) (by assumption) ?hr1
  case hy1 => (intro w hSw; (try dsimp only at hSw); go_simp; (try with_reducible rfl))
  try simp only [Act.put, List.setIfInBounds_toArray, List.set_cons_zero, List.set_cons_succ]
  refine wpAnyH_take (i := 1) (oi := ({ dst := some 6, op := Op.load 3 (Operand.tmp 5), type := 3, pos := "mainline.go:85", after := #[{ on := 0, ground := Ground.data }], guard := none } : Oper)) (v := .int .i64 c2) rfl (by kernel_rfl) (by kernel_rfl) (by kernel_rfl) (fun _ _ _ h => h) (Or.inl ⟨by rfl, fun w0 hw0 => by have q0 := (Y0.out.below hw0).cell (i := 0) rfl; go_simp⟩) (by assumption) ?_
  try simp only [Act.put, List.setIfInBounds_toArray, List.set_cons_zero, List.set_cons_succ]
  refine wpAnyH_take (i := 2) (oi := ({ dst := some 7, op := Op.fieldAddr 62 (Operand.tmp 2) 0, type := 0, pos := "mainline.go:85", after := #[], guard := none } : Oper)) (v := ?hv2) rfl (by kernel_rfl) (by kernel_rfl) (by kernel_rfl) (fun _ _ _ h => h) (Or.inl ⟨by rfl, ?hy2⟩) (by assumption) ?hr2
  case hy2 => (intro w hSw; (try dsimp only at hSw); go_simp; (try with_reducible rfl))
  try simp only [Act.put, List.setIfInBounds_toArray, List.set_cons_zero, List.set_cons_succ]
  refine wpAnyH_take (i := 3) (oi := ({ dst := some 8, op := Op.load 3 (Operand.tmp 7), type := 3, pos := "mainline.go:85", after := #[{ on := 2, ground := Ground.data }], guard := none } : Oper)) (v := .int .i64 c1) rfl (by kernel_rfl) (by kernel_rfl) (by kernel_rfl) (fun _ _ _ h => h) (Or.inl ⟨by rfl, fun w0 hw0 => by have q0 := (X0.out.below hw0).cell (i := 0) rfl; go_simp⟩) (by assumption) ?_
  try simp only [Act.put, List.setIfInBounds_toArray, List.set_cons_zero, List.set_cons_succ]
  refine wpAnyH_take (i := 5) (oi := ({ dst := some 10, op := Op.fieldAddr 62 (Operand.tmp 2) 1, type := 0, pos := "mainline.go:85", after := #[], guard := none } : Oper)) (v := ?hv3) rfl (by kernel_rfl) (by kernel_rfl) (by kernel_rfl) (fun _ _ _ h => h) (Or.inl ⟨by rfl, ?hy3⟩) (by assumption) ?hr3
  case hy3 => (intro w hSw; (try dsimp only at hSw); go_simp; (try with_reducible rfl))
  try simp only [Act.put, List.setIfInBounds_toArray, List.set_cons_zero, List.set_cons_succ]
  refine wpAnyH_take (i := 6) (oi := ({ dst := some 11, op := Op.load 3 (Operand.tmp 10), type := 3, pos := "mainline.go:85", after := #[{ on := 5, ground := Ground.data }], guard := none } : Oper)) (v := .int .i64 t1) rfl (by kernel_rfl) (by kernel_rfl) (by kernel_rfl) (fun _ _ _ h => h) (Or.inl ⟨by rfl, fun w0 hw0 => by have q0 := (X0.out.below hw0).cell (i := 1) rfl; go_simp⟩) (by assumption) ?_
  try simp only [Act.put, List.setIfInBounds_toArray, List.set_cons_zero, List.set_cons_succ]
  refine wpAnyH_take (i := 7) (oi := ({ dst := some 12, op := Op.fieldAddr 62 (Operand.tmp 3) 1, type := 0, pos := "mainline.go:85", after := #[], guard := none } : Oper)) (v := ?hv4) rfl (by kernel_rfl) (by kernel_rfl) (by kernel_rfl) (fun _ _ _ h => h) (Or.inl ⟨by rfl, ?hy4⟩) (by assumption) ?hr4
  case hy4 => (intro w hSw; (try dsimp only at hSw); go_simp; (try with_reducible rfl))
  try simp only [Act.put, List.setIfInBounds_toArray, List.set_cons_zero, List.set_cons_succ]
  refine wpAnyH_take (i := 8) (oi := ({ dst := some 13, op := Op.load 3 (Operand.tmp 12), type := 3, pos := "mainline.go:85", after := #[{ on := 7, ground := Ground.data }], guard := none } : Oper)) (v := .int .i64 t2) rfl (by kernel_rfl) (by kernel_rfl) (by kernel_rfl) (fun _ _ _ h => h) (Or.inl ⟨by rfl, fun w0 hw0 => by have q0 := (Y0.out.below hw0).cell (i := 1) rfl; go_simp⟩) (by assumption) ?_
  try simp only [Act.put, List.setIfInBounds_toArray, List.set_cons_zero, List.set_cons_succ]
  refine wpAnyH_take (i := 10) (oi := ({ dst := some 15, op := Op.fieldAddr 62 (Operand.tmp 2) 2, type := 0, pos := "mainline.go:85", after := #[], guard := none } : Oper)) (v := ?hv5) rfl (by kernel_rfl) (by kernel_rfl) (by kernel_rfl) (fun _ _ _ h => h) (Or.inl ⟨by rfl, ?hy5⟩) (by assumption) ?hr5
  case hy5 => (intro w hSw; (try dsimp only at hSw); go_simp; (try with_reducible rfl))
  try simp only [Act.put, List.setIfInBounds_toArray, List.set_cons_zero, List.set_cons_succ]
  refine wpAnyH_take (i := 11) (oi := ({ dst := some 16, op := Op.load 3 (Operand.tmp 15), type := 3, pos := "mainline.go:85", after := #[{ on := 10, ground := Ground.data }], guard := none } : Oper)) (v := .int .i64 i1) rfl (by kernel_rfl) (by kernel_rfl) (by kernel_rfl) (fun _ _ _ h => h) (Or.inl ⟨by rfl, fun w0 hw0 => by have q0 := (X0.out.below hw0).cell (i := 2) rfl; go_simp⟩) (by assumption) ?_
  try simp only [Act.put, List.setIfInBounds_toArray, List.set_cons_zero, List.set_cons_succ]
  refine wpAnyH_take (i := 12) (oi := ({ dst := some 17, op := Op.fieldAddr 62 (Operand.tmp 3) 2, type := 0, pos := "mainline.go:85", after := #[], guard := none } : Oper)) (v := ?hv6) rfl (by kernel_rfl) (by kernel_rfl) (by kernel_rfl) (fun _ _ _ h => h) (Or.inl ⟨by rfl, ?hy6⟩) (by assumption) ?hr6
  case hy6 => (intro w hSw; (try dsimp only at hSw); go_simp; (try with_reducible rfl))
  try simp only [Act.put, List.setIfInBounds_toArray, List.set_cons_zero, List.set_cons_succ]
  refine wpAnyH_take (i := 13) (oi := ({ dst := some 18, op := Op.load 3 (Operand.tmp 17), type := 3, pos := "mainline.go:85", after := #[{ on := 12, ground := Ground.data }], guard := none } : Oper)) (v := .int .i64 i2) rfl (by kernel_rfl) (by kernel_rfl) (by kernel_rfl) (fun _ _ _ h => h) (Or.inl ⟨by rfl, fun w0 hw0 => by have q0 := (Y0.out.below hw0).cell (i := 2) rfl; go_simp⟩) (by assumption) ?_
  try simp only [Act.put, List.setIfInBounds_toArray, List.set_cons_zero, List.set_cons_succ]
  refine wpAnyH_ready (rs := [4]) (by kernel_rfl) (by simp) ?_
  refine AllReadyH.cons (o := ({ dst := some 9, op := Op.call { callee := Callee.value (Operand.func 31), args := #[Operand.tmp 6, Operand.tmp 8], argTypes := #[3, 3] }, type := 3, pos := "mainline.go:85", after := #[{ on := 1, ground := Ground.data }, { on := 3, ground := Ground.data }], guard := none } : Oper)) rfl (fun KK hKK => ?_) AllReadyH.nil
  go_simp
  (with_reducible refine (compare31 c2 c1 _).mono ?_)
  rintro e0 y1 ⟨rfl, hb⟩
  have RB1 := Lib.hid (RB0.out.trans (hb.bel.mono RB0.out.size)); have RG1 := Lib.hid (RG0.out.trans hb)
  clear hb
  refine hKK.out _ _ (RB1.out) (fun hH1 => ?_)
  clear hKK KK
  try simp only [Act.put, List.setIfInBounds_toArray, List.set_cons_zero, List.set_cons_succ]
  refine wpAnyH_ready (rs := [9]) (by kernel_rfl) (by simp) ?_
  refine AllReadyH.cons (o := ({ dst := some 14, op := Op.call { callee := Callee.value (Operand.func 31), args := #[Operand.tmp 11, Operand.tmp 13], argTypes := #[3, 3] }, type := 3, pos := "mainline.go:85", after := #[{ on := 6, ground := Ground.data }, { on := 8, ground := Ground.data }, { on := 4, ground := Ground.chain }], guard := none } : Oper)) rfl (fun KK hKK => ?_) AllReadyH.nil
  go_simp
  (with_reducible refine (compare31 t1 t2 _).mono ?_)
  rintro e0 y2 ⟨rfl, hb⟩
  have RB2 := Lib.hid (RB1.out.trans (hb.bel.mono RB1.out.size)); have RG2 := Lib.hid (RG1.out.trans hb)
  clear hb
  refine hKK.out _ _ (RB2.out) (fun hH2 => ?_)
  clear hKK KK
  try simp only [Act.put, List.setIfInBounds_toArray, List.set_cons_zero, List.set_cons_succ]
  refine wpAnyH_ready (rs := [14]) (by kernel_rfl) (by simp) ?_
  refine AllReadyH.cons (o := ({ dst := some 19, op := Op.call { callee := Callee.value (Operand.func 31), args := #[Operand.tmp 16, Operand.tmp 18], argTypes := #[3, 3] }, type := 3, pos := "mainline.go:85", after := #[{ on := 11, ground := Ground.data }, { on := 13, ground := Ground.data }, { on := 9, ground := Ground.chain }], guard := none } : Oper)) rfl (fun KK hKK => ?_) AllReadyH.nil
  go_simp
  (with_reducible refine (compare31 i1 i2 _).mono ?_)
  rintro e0 y3 ⟨rfl, hb⟩
  have RB3 := Lib.hid (RB2.out.trans (hb.bel.mono RB2.out.size)); have RG3 := Lib.hid (RG2.out.trans hb)
  clear hb
  refine hKK.out _ _ (RB3.out) (fun hH3 => ?_)
  clear hKK KK
  try simp only [Act.put, List.setIfInBounds_toArray, List.set_cons_zero, List.set_cons_succ]
  refine wpAnyH_ready (rs := [15]) (by kernel_rfl) (by simp) ?_
  refine AllReadyH.cons (o := ({ dst := some 20, op := Op.buildSlice 26 3 #[(0, Operand.tmp 9), (1, Operand.tmp 14), (2, Operand.tmp 19)], type := 26, pos := "mainline.go:85", after := #[{ on := 4, ground := Ground.data }, { on := 9, ground := Ground.data }, { on := 14, ground := Ground.data }], guard := none } : Oper)) rfl (fun KK hKK => ?_) AllReadyH.nil
  go_simp
  generalize hy4 : World.alloc y3 _ = y4
  have RB4 := Lib.hid (show Below wp.heap.size wp y4 by rw [← hy4]; exact RB3.out.alloc RB3.out.size _)
  have RI := Lib.hid (show Its y4 (some ⟨y3.heap.size, 0, none⟩) 3 3 [cmpI c2 c1, cmpI t1 t2, cmpI i1 i2] by rw [← hy4]; exact its_blk (blk_new y3 ([cmpI c2 c1, cmpI t1 t2, cmpI i1 i2].map (Value.int .i64)) 3) (by simp) (fun z hz => by simp at hz; rcases hz with rfl | rfl | rfl <;> exact cmpI_wf _ _))
  have RG4 := Lib.hid (show Gr wp y4 by rw [← hy4]; exact ⟨RB3.out.alloc RB3.out.size _, RG3.out.drawn⟩)
  clear hy4
  refine hKK.out _ _ (RB4.out) (fun hH4 => ?_)
  clear hKK KK
  try simp only [Act.put, List.setIfInBounds_toArray, List.set_cons_zero, List.set_cons_succ]
  refine wpAnyH_ready (rs := [16]) (by kernel_rfl) (by simp) ?_
  refine AllReadyH.cons (o := ({ dst := some 21, op := Op.call { callee := Callee.value (Operand.func 30), args := #[Operand.tmp 20], argTypes := #[26] }, type := 3, pos := "mainline.go:85", after := #[{ on := 15, ground := Ground.data }, { on := 14, ground := Ground.chain }], guard := none } : Oper)) rfl (fun KK hKK => ?_) AllReadyH.nil
  go_simp
  (with_reducible refine (or30 _ 3 3 _ _ RI.out (by omega)).mono ?_)
  rintro e0 y5 ⟨rfl, hb⟩
  have RB5 := Lib.hid (RB4.out.trans (hb.bel.mono RB4.out.size)); have RG5 := Lib.hid (RG4.out.trans hb)
  clear hb
  refine hKK.out _ _ (RB5.out) (fun hH5 => ?_)
  clear hKK KK
  try simp only [Act.put, List.setIfInBounds_toArray, List.set_cons_zero, List.set_cons_succ]
  refine wpAnyH_take (i := 17) (oi := ({ dst := some 4, op := Op.assign (Operand.tmp 21), type := 3, pos := "mainline.go:85", after := #[{ on := 16, ground := Ground.data }, { on := 16, ground := Ground.chain }, { on := 0, ground := Ground.phase }, { on := 1, ground := Ground.phase }, { on := 2, ground := Ground.phase }, { on := 3, ground := Ground.phase }, { on := 4, ground := Ground.phase }, { on := 5, ground := Ground.phase }, { on := 6, ground := Ground.phase }, { on := 7, ground := Ground.phase }, { on := 8, ground := Ground.phase }, { on := 9, ground := Ground.phase }, { on := 10, ground := Ground.phase }, { on := 11, ground := Ground.phase }, { on := 12, ground := Ground.phase }, { on := 13, ground := Ground.phase }, { on := 14, ground := Ground.phase }, { on := 15, ground := Ground.phase }, { on := 16, ground := Ground.phase }], guard := none } : Oper)) (v := ?hv7) rfl (by kernel_rfl) (by kernel_rfl) (by kernel_rfl) (fun _ _ _ h => h) (Or.inl ⟨by rfl, ?hy7⟩) (by assumption) ?hr7
  case hy7 => (intro w hSw; (try dsimp only at hSw); go_simp; (try with_reducible rfl))
  try simp only [Act.put, List.setIfInBounds_toArray, List.set_cons_zero, List.set_cons_succ]
  refine wpAnyH_done (by kernel_rfl) ?_ _
  go_wp2
  go_ret
  exact ⟨rfl, HB.out.trans RG5.out⟩
end Go.Proofs.Ytoljlpddcpdoiaa
