/- The keys of events: cmp.Compare, cmp.Or, compare of keys. No condition. -/
import Derived.Test.YtbedibiodlgegaaR1
import Derived.Test.YtbedibiodlgegaaR2
import Derived.Test.YtbedibiodlgegaaKL20
import Derived.Deep.RegionHeld3
import Derived.Deep.Cut
import Derived.WalkSmall
import Derived.Sort.Grow
import Derived.Handy
namespace Go.Proofs.Ytbedibiodlgegaa
open Go Go.RowKit
set_option linter.unusedVariables false
set_option linter.unusedSimpArgs false

def i64B (k : Int) : Prop := -9223372036854775808 ≤ k ∧ k ≤ 9223372036854775807
theorem find_first {zs : List Int} {q : Int → Bool} {k : Nat} (hk : k < zs.length) (h : q (zs.getD k 0) = true) (hn : ∀ j, j < k → q (zs.getD j 0) = false) : zs.find? q = some (zs.getD k 0) := by
  rw [List.getD_eq_getElem?_getD, List.getElem?_eq_getElem hk] at h ⊢
  rw [List.find?_eq_some_iff_getElem]
  refine ⟨h, k, hk, rfl, fun j hj => ?_⟩
  have := hn j hj
  rw [List.getD_eq_getElem?_getD, List.getElem?_eq_getElem (by omega)] at this
  simpa using this
theorem find_nil {zs : List Int} {q : Int → Bool} (hn : ∀ j, j < zs.length → q (zs.getD j 0) = false) : zs.find? q = none := by
  rw [List.find?_eq_none]
  intro x hx
  obtain ⟨j, hj, rfl⟩ := List.getElem_of_mem hx
  have := hn j hj
  rw [List.getD_eq_getElem?_getD, List.getElem?_eq_getElem hj] at this
  simpa using this
/-- Nothing old has turned; draws and blocks behind. -/
structure Gr (w w' : World) : Prop where
  bel : Below w.heap.size w w'
  drawn : w.drawn ≤ w'.drawn
theorem Gr.refl (w : World) : Gr w w := ⟨Below.refl _ _, Nat.le_refl _⟩
theorem Gr.trans {a b c : World} (h : Gr a b) (k : Gr b c) : Gr a c := ⟨h.bel.trans (k.bel.mono h.bel.size), Nat.le_trans h.drawn k.drawn⟩
theorem Gr.grow {w w' : World} (h : Gr w w') : ∃ q os, w' = Sort.grow (w.drewN q) os := by
  refine ⟨w'.drawn - w.drawn, w'.heap.extract w.heap.size w'.heap.size, ?_⟩
  have hs := h.bel.size
  have e : w'.heap = w.heap ++ w'.heap.extract w.heap.size w'.heap.size := by
    apply Array.ext_getElem?
    intro k
    rw [Array.getElem?_append]
    split
    · rename_i hk; exact h.bel.block k hk
    · rename_i hk
      rw [Array.getElem?_extract]
      split
      · rw [show w.heap.size + (k - w.heap.size) = k by omega]
      · rw [Array.getElem?_eq_none]; omega
  obtain ⟨hp, tp, dr, os, out⟩ := w'
  have h1 := h.bel.os; have h2 := h.bel.tape; have h3 := h.bel.output; have h4 := h.drawn
  simp only at h1 h2 h3 h4 e ⊢
  unfold Sort.grow World.drewN
  simp only [World.mk.injEq]
  exact ⟨e, h2, by omega, h1, h3⟩

theorem Gr.drewN {w w1 : World} (h : Gr w w1) (n : Nat) : Gr w (w1.drewN n) := ⟨below_drewN h.bel n, Nat.le_trans h.drawn (Nat.le_add_right _ _)⟩
theorem Gr.drew {w w1 : World} (h : Gr w w1) : Gr w w1.drew := h.drewN 1
def cmpI (a b : Int) : Int := if a < b then -1 else if b < a then 1 else 0
set_option maxHeartbeats 2000000 in
theorem compare59 (a b : Int) (w : World) : Calls Try.prog 59 #[.int .i64 a, .int .i64 b] w fun e w' => e = .returned (.int .i64 (cmpI a b)) ∧ Gr w w' := by
  have HC := Lib.hid (show cmpI a b = if a < b then -1 else if b < a then 1 else 0 from rfl)
  generalize cmpI a b = r at HC ⊢
  by_cases h1 : a < b
  · rw [if_pos h1] at HC
    have h2 : ¬ b < a := by omega
    go_enter Try.func59, Try.ntmps59
    go_wp2_with go_in
    go_ret
    exact ⟨ret_i64 HC.out.symm, Gr.refl _⟩
  · rw [if_neg h1] at HC
    by_cases h2 : b < a
    · rw [if_pos h2] at HC
      go_enter Try.func59, Try.ntmps59
      go_wp2_with go_in
      go_ret
      exact ⟨ret_i64 HC.out.symm, Gr.refl _⟩
    · rw [if_neg h2] at HC
      go_enter Try.func59, Try.ntmps59
      go_wp2_with go_in
      go_ret
      exact ⟨ret_i64 HC.out.symm, Gr.refl _⟩
/-- The first number that is not 0. -/
def orI (zs : List Int) : Int := (zs.find? (fun x => x != 0)).getD 0
set_option maxHeartbeats 4000000 in
theorem or30 (A : Option Addr) (n c : Nat) (zs : List Int) (w : World) (h : Its w A n c zs) (hn : n ≤ 1000000) : Calls Try.prog 58 #[.slice A n c] w fun e w' => e = .returned (.int .i64 (orI zs)) ∧ Gr w w' := by
  have H := Lib.hid h
  have HL := Lib.hid h.len
  clear h
  go_enter Try.func58, Try.ntmps58
  go_wp2
  go_loopg [5, 8] n (fun gg _ s8 wr => ∃ kk : Nat, kk ≤ n ∧ n - kk ≤ gg ∧ s8 = .int .i64 kk ∧ Hid (∀ j, j < kk → (zs.getD j 0 != 0) = false) ∧ wr = w)
  case atStart => exact ⟨0, Nat.zero_le _, by omega, rfl, Lib.hid (fun j hj => absurd hj (Nat.not_lt_zero _)), rfl⟩
  case round =>
    obtain ⟨kk, hkk, hg, rfl, HJ, rfl⟩ := hrel
    by_cases hlt : kk < n
    · have hltz : (kk : Int) < (n : Int) := by omega
      have hk0 : (0 : Int) ≤ (kk : Int) := by omega
      obtain ⟨b, off, rfl, hbl, k0, _⟩ := H.out.get hlt
      have HF := Lib.hid (fun (h : (zs.getD kk 0 != 0) = true) => find_first (zs := zs) (q := fun x => x != 0) (by rw [HL.out]; exact hlt) h HJ.out)
      have HN : Hid ((zs.getD kk 0 != 0) = false → ∀ j, j < kk + 1 → (zs.getD j 0 != 0) = false) := Lib.hid (fun h j hj => by
        by_cases e : j = kk
        · subst e; exact h
        · exact HJ.out j (by omega))
      generalize zs.getD kk 0 = i at k0 HF HN
      cases hi : (i != 0)
      · have HN2 := Lib.hid (HN.out hi)
        clear HF HN
        go_wp2
        go_roundg (n - (kk + 1))
        case measure => omega
        case rel => exact ⟨kk + 1, by omega, by omega, by go_num, HN2, rfl⟩
      · have HF2 := Lib.hid (show orI zs = i by unfold orI; rw [HF.out hi]; rfl)
        clear HF HN
        go_wp2
        go_ret
        exact ⟨ret_i64 HF2.out.symm, Gr.refl _⟩
    · have hltz : ¬ (kk : Int) < (n : Int) := by omega
      obtain rfl : kk = n := by omega
      have HF2 := Lib.hid (show orI zs = 0 by unfold orI; rw [find_nil (zs := zs) (q := fun x => x != 0) (fun j hj => HJ.out j (by rw [HL.out] at hj; exact hj))]; rfl)
      go_wp2
      go_ret
      exact ⟨ret_i64 HF2.out.symm, Gr.refl _⟩
theorem its_blk {w : World} {g : Nat} {zs : List Int} (h : Blk w g (zs.map (Value.int .i64)) 3) (hl : zs.length ≤ 1000000) (wf : ∀ z ∈ zs, i64B z) : Its w (some ⟨g, 0, none⟩) zs.length zs.length zs := by
  refine ⟨⟨fun j _ => rfl, fun j _ => by simp [rowI, Value.oneCell'], by unfold maxLen; omega, (fun e => by cases e), .inr ⟨g, 0, rfl, h.lt, fun j hj i u hu => ?_⟩⟩, rfl, Nat.le_refl _, wf⟩
  have hi : i = 0 := by
    have := (List.getElem?_eq_some_iff.1 hu).1
    simp [rowI] at this
    exact this
  subst hi
  refine h.cell ?_
  rw [Nat.zero_add, Nat.mul_one, Nat.add_zero, List.getElem?_map, List.getElem?_eq_getElem hj]
  simp only [rowI, List.getElem?_cons_zero, Option.some.injEq] at hu
  rw [← hu, List.getD_eq_getElem?_getD, List.getElem?_eq_getElem hj]
  rfl
theorem cmpI_wf (a b : Int) : i64B (cmpI a b) := by
  unfold cmpI i64B
  split
  · omega
  · split <;> omega
/-- cmp.Compare of texts. -/
def cmpS (a b : ByteArray) : Int := if Op.bytesLess a.toList b.toList then -1 else if a.toList == b.toList then 0 else 1
theorem nan_any (a : ByteArray) (w : World) : Calls Try.prog 77 #[.string a] w fun e w' => e = .returned (.bool false) ∧ w = w' := by
  go_enter Try.func77, Try.ntmps77
  go_wp2
  all_goals (go_ret; simp)
theorem cmpS_lt {a b : ByteArray} (h : Op.bytesLess a.toList b.toList = true) : cmpS a b = -1 := by unfold cmpS; rw [if_pos h]
theorem cmpS_eq {a b : ByteArray} (h : Op.bytesLess a.toList b.toList = false) (h2 : (a.toList == b.toList) = true) : cmpS a b = 0 := by unfold cmpS; rw [if_neg (by rw [h]; decide), if_pos h2]
theorem cmpS_gt {a b : ByteArray} (h : Op.bytesLess a.toList b.toList = false) (h2 : (a.toList == b.toList) = false) : cmpS a b = 1 := by unfold cmpS; rw [if_neg (by rw [h]; decide), if_neg (by rw [h2]; decide)]
theorem compare_any (a b : ByteArray) (w : World) : Calls Try.prog 60 #[.string a, .string b] w fun e w' => e = .returned (.int .i64 (cmpS a b)) ∧ w = w' := by
  have HN := Lib.hid (fun s => nan_any s w)
  cases h1 : Op.bytesLess a.toList b.toList
  · cases h2 : (a.toList == b.toList)
    · rw [cmpS_gt h1 h2]
      go_enter Try.func60, Try.ntmps60
      go_wp2_with (first | (go_at_call 77; refine (HN.out _).mono ?_; rintro e w' ⟨rfl, rfl⟩) | go_in)
      all_goals (go_ret; first | exact ⟨rfl, rfl⟩ | (exfalso; simp_all))
    · rw [cmpS_eq h1 h2]
      go_enter Try.func60, Try.ntmps60
      go_wp2_with (first | (go_at_call 77; refine (HN.out _).mono ?_; rintro e w' ⟨rfl, rfl⟩) | go_in)
      all_goals (go_ret; first | exact ⟨rfl, rfl⟩ | (exfalso; simp_all))
  · rw [cmpS_lt h1]
    go_enter Try.func60, Try.ntmps60
    go_wp2_with (first | (go_at_call 77; refine (HN.out _).mono ?_; rintro e w' ⟨rfl, rfl⟩) | go_in)
    all_goals (go_ret; exact ⟨rfl, rfl⟩)
theorem blk_new2 (w : World) (o : Obj) (cs : List Value) (T : TypeId) : Blk ((w.alloc o).alloc (.cells cs.toArray T)) (w.heap.size + 1) cs T := by
  have := blk_new (w.alloc o) cs T
  rwa [show (w.alloc o).heap.size = w.heap.size + 1 by simp] at this
theorem blk_new3 (w : World) (o o2 : Obj) (cs : List Value) (T : TypeId) : Blk (((w.alloc o).alloc o2).alloc (.cells cs.toArray T)) (w.heap.size + 1 + 1) cs T := by
  have := blk_new2 (w.alloc o) o2 cs T
  rwa [show (w.alloc o).heap.size = w.heap.size + 1 by simp] at this
namespace Ky
/-- key.compare. -/
def cmpK (p q : Rc) : Int := orI [cmpI p.k q.k, cmpS p.key q.key]
end Ky
theorem cmpS_wf (a b : ByteArray) : i64B (cmpS a b) := by
  unfold cmpS i64B
  split
  · omega
  · split <;> omega
set_option maxRecDepth 100000 in
set_option maxHeartbeats 4000000 in
theorem compare45 (p q : Ky.Rc) (w : World) : Calls Try.prog 45 #[.agg (Ky.enc p).toArray, .agg (Ky.enc q).toArray] w fun e w' => e = .returned (.int .i64 (Ky.cmpK p q)) ∧ Gr w w' := by
  show Calls Try.prog 45 #[.agg #[.int .i64 p.k, .string p.key, .int .i64 p.id], .agg #[.int .i64 q.k, .string q.key, .int .i64 q.id]] w _
  have HC := Lib.hid (fun a b w => compare_any a b w)
  have HI := Lib.hid (fun a b w => compare59 a b w)
  have HO := Lib.hid (fun A c w h => or30 A 2 c [cmpI p.k q.k, cmpS p.key q.key] w h (by omega))
  have B0 := Lib.hid (show Gr w ((w.alloc (.cells #[.int .i64 p.k, .string p.key, .int .i64 p.id] 64)).alloc (.cells #[.int .i64 q.k, .string q.key, .int .i64 q.id] 64)) from ⟨by go_grown, Nat.le_refl _⟩)
  have XP := Lib.hid (show Blk ((w.alloc (.cells #[.int .i64 p.k, .string p.key, .int .i64 p.id] 64)).alloc (.cells #[.int .i64 q.k, .string q.key, .int .i64 q.id] 64)) w.heap.size (Ky.enc p) 64 from (blk_new w (Ky.enc p) 64).alloc _)
  have XQ := Lib.hid (show Blk ((w.alloc (.cells #[.int .i64 p.k, .string p.key, .int .i64 p.id] 64)).alloc (.cells #[.int .i64 q.k, .string q.key, .int .i64 q.id] 64)) (w.heap.size + 1) (Ky.enc q) 64 from blk_new2 w _ (Ky.enc q) 64)
  unfold Ky.cmpK
  go_enter Try.func45, Try.ntmps45
  go_upto_region 1 with (fail)
  generalize hwp : ((w.alloc (.cells #[.int .i64 p.k, .string p.key, .int .i64 p.id] 64)).alloc (.cells #[.int .i64 q.k, .string q.key, .int .i64 q.id] 64)) = wp at B0 XP XQ ⊢
  have X0 := XP
  have Y0 := XQ
  have HB := B0
  refine wp_region_held_drew (S := (fun y => Below wp.heap.size wp y)) (by kernel_rfl) ((Below.refl wp.heap.size wp).drew) (fun hH0 => ?_)
  generalize hy0 : World.drew _ = y0 at hH0 ⊢
  have RB0 : Hid (Below wp.heap.size wp y0) := Lib.hid hH0
  have RG0 := Lib.hid (show Gr wp y0 by rw [← hy0]; exact (Gr.refl _).drew)
  clear hy0
  refine wpAnyH_take (i := 0) (oi := ({ dst := some 5, op := Op.fieldAddr 64 (Operand.tmp 2) 0, type := 0, pos := "authset.go:17", after := #[], guard := none } : Oper)) (v := ?hv1) rfl (by kernel_rfl) (by kernel_rfl) (by kernel_rfl) (fun _ _ _ h => h) (Or.inl ⟨by rfl, ?hy1⟩) (by assumption) ?hr1
  case hy1 => (intro w hSw; (try dsimp only at hSw); go_simp; (try with_reducible rfl))
  try simp only [Act.put, List.setIfInBounds_toArray, List.set_cons_zero, List.set_cons_succ]
  refine wpAnyH_take (i := 1) (oi := ({ dst := some 6, op := Op.load 22 (Operand.tmp 5), type := 22, pos := "authset.go:17", after := #[{ on := 0, ground := Ground.data }], guard := none } : Oper)) (v := .int .i64 p.k) rfl (by kernel_rfl) (by kernel_rfl) (by kernel_rfl) (fun _ _ _ h => h) (Or.inl ⟨by rfl, fun w0 hw0 => by have q0 := (X0.out.below hw0).cell (i := 0) rfl; go_simp⟩) (by assumption) ?_
  try simp only [Act.put, List.setIfInBounds_toArray, List.set_cons_zero, List.set_cons_succ]
  refine wpAnyH_take (i := 2) (oi := ({ dst := some 7, op := Op.fieldAddr 64 (Operand.tmp 3) 0, type := 0, pos := "authset.go:17", after := #[], guard := none } : Oper)) (v := ?hv2) rfl (by kernel_rfl) (by kernel_rfl) (by kernel_rfl) (fun _ _ _ h => h) (Or.inl ⟨by rfl, ?hy2⟩) (by assumption) ?hr2
  case hy2 => (intro w hSw; (try dsimp only at hSw); go_simp; (try with_reducible rfl))
  try simp only [Act.put, List.setIfInBounds_toArray, List.set_cons_zero, List.set_cons_succ]
  refine wpAnyH_take (i := 3) (oi := ({ dst := some 8, op := Op.load 22 (Operand.tmp 7), type := 22, pos := "authset.go:17", after := #[{ on := 2, ground := Ground.data }], guard := none } : Oper)) (v := .int .i64 q.k) rfl (by kernel_rfl) (by kernel_rfl) (by kernel_rfl) (fun _ _ _ h => h) (Or.inl ⟨by rfl, fun w0 hw0 => by have q0 := (Y0.out.below hw0).cell (i := 0) rfl; go_simp⟩) (by assumption) ?_
  try simp only [Act.put, List.setIfInBounds_toArray, List.set_cons_zero, List.set_cons_succ]
  refine wpAnyH_take (i := 5) (oi := ({ dst := some 10, op := Op.fieldAddr 64 (Operand.tmp 2) 1, type := 0, pos := "authset.go:17", after := #[], guard := none } : Oper)) (v := ?hv3) rfl (by kernel_rfl) (by kernel_rfl) (by kernel_rfl) (fun _ _ _ h => h) (Or.inl ⟨by rfl, ?hy3⟩) (by assumption) ?hr3
  case hy3 => (intro w hSw; (try dsimp only at hSw); go_simp; (try with_reducible rfl))
  try simp only [Act.put, List.setIfInBounds_toArray, List.set_cons_zero, List.set_cons_succ]
  refine wpAnyH_take (i := 6) (oi := ({ dst := some 11, op := Op.load 9 (Operand.tmp 10), type := 9, pos := "authset.go:17", after := #[{ on := 5, ground := Ground.data }], guard := none } : Oper)) (v := .string p.key) rfl (by kernel_rfl) (by kernel_rfl) (by kernel_rfl) (fun _ _ _ h => h) (Or.inl ⟨by rfl, fun w0 hw0 => by have q0 := (X0.out.below hw0).cell (i := 1) rfl; go_simp⟩) (by assumption) ?_
  try simp only [Act.put, List.setIfInBounds_toArray, List.set_cons_zero, List.set_cons_succ]
  refine wpAnyH_take (i := 7) (oi := ({ dst := some 12, op := Op.fieldAddr 64 (Operand.tmp 3) 1, type := 0, pos := "authset.go:17", after := #[], guard := none } : Oper)) (v := ?hv4) rfl (by kernel_rfl) (by kernel_rfl) (by kernel_rfl) (fun _ _ _ h => h) (Or.inl ⟨by rfl, ?hy4⟩) (by assumption) ?hr4
  case hy4 => (intro w hSw; (try dsimp only at hSw); go_simp; (try with_reducible rfl))
  try simp only [Act.put, List.setIfInBounds_toArray, List.set_cons_zero, List.set_cons_succ]
  refine wpAnyH_take (i := 8) (oi := ({ dst := some 13, op := Op.load 9 (Operand.tmp 12), type := 9, pos := "authset.go:17", after := #[{ on := 7, ground := Ground.data }], guard := none } : Oper)) (v := .string q.key) rfl (by kernel_rfl) (by kernel_rfl) (by kernel_rfl) (fun _ _ _ h => h) (Or.inl ⟨by rfl, fun w0 hw0 => by have q0 := (Y0.out.below hw0).cell (i := 1) rfl; go_simp⟩) (by assumption) ?_
  try simp only [Act.put, List.setIfInBounds_toArray, List.set_cons_zero, List.set_cons_succ]
  refine wpAnyH_ready (rs := [4]) (by kernel_rfl) (by simp) ?_
  refine AllReadyH.cons (o := ({ dst := some 9, op := Op.call { callee := Callee.value (Operand.func 59), args := #[Operand.tmp 6, Operand.tmp 8], argTypes := #[22, 22] }, type := 3, pos := "authset.go:17", after := #[{ on := 1, ground := Ground.data }, { on := 3, ground := Ground.data }], guard := none } : Oper)) rfl (fun KK hKK => ?_) AllReadyH.nil
  go_simp
  (with_reducible refine (HI.out p.k q.k _).mono ?_)
  rintro e0 y1 ⟨rfl, hb⟩
  have RB1 := Lib.hid (RB0.out.trans (hb.bel.mono RB0.out.size)); have RG1 := Lib.hid (RG0.out.trans hb)
  clear hb
  refine hKK.out _ _ (RB1.out) (fun hH1 => ?_)
  clear hKK KK
  try simp only [Act.put, List.setIfInBounds_toArray, List.set_cons_zero, List.set_cons_succ]
  refine wpAnyH_ready (rs := [9]) (by kernel_rfl) (by simp) ?_
  refine AllReadyH.cons (o := ({ dst := some 14, op := Op.call { callee := Callee.value (Operand.func 60), args := #[Operand.tmp 11, Operand.tmp 13], argTypes := #[9, 9] }, type := 3, pos := "authset.go:17", after := #[{ on := 6, ground := Ground.data }, { on := 8, ground := Ground.data }, { on := 4, ground := Ground.chain }], guard := none } : Oper)) rfl (fun KK hKK => ?_) AllReadyH.nil
  go_simp
  (with_reducible refine (HC.out p.key q.key _).mono ?_)
  rintro e0 y2 ⟨rfl, hw⟩
  replace hw := hw.symm
  subst hw
  have RB2 := RB1; have RG2 := RG1
  refine hKK.out _ _ (RB2.out) (fun hH2 => ?_)
  clear hKK KK
  try simp only [Act.put, List.setIfInBounds_toArray, List.set_cons_zero, List.set_cons_succ]
  refine wpAnyH_ready (rs := [10]) (by kernel_rfl) (by simp) ?_
  refine AllReadyH.cons (o := ({ dst := some 15, op := Op.buildSlice 23 2 #[(0, Operand.tmp 9), (1, Operand.tmp 14)], type := 23, pos := "authset.go:17", after := #[{ on := 4, ground := Ground.data }, { on := 9, ground := Ground.data }], guard := none } : Oper)) rfl (fun KK hKK => ?_) AllReadyH.nil
  go_simp
  generalize hy3 : World.alloc y2 _ = y3
  have RB3 := Lib.hid (show Below wp.heap.size wp y3 by rw [← hy3]; exact RB2.out.alloc RB2.out.size _)
  have RI := Lib.hid (show Its y3 (some ⟨y2.heap.size, 0, none⟩) 2 2 [cmpI p.k q.k, cmpS p.key q.key] by rw [← hy3]; exact its_blk (blk_new y2 ([cmpI p.k q.k, cmpS p.key q.key].map (Value.int .i64)) 3) (by simp) (fun z hz => by simp at hz; rcases hz with rfl | rfl; exact cmpI_wf _ _; exact cmpS_wf _ _))
  have RG3 := Lib.hid (show Gr wp y3 by rw [← hy3]; exact ⟨RB2.out.alloc RB2.out.size _, RG2.out.drawn⟩)
  clear hy3
  refine hKK.out _ _ (RB3.out) (fun hH3 => ?_)
  clear hKK KK
  try simp only [Act.put, List.setIfInBounds_toArray, List.set_cons_zero, List.set_cons_succ]
  refine wpAnyH_ready (rs := [11]) (by kernel_rfl) (by simp) ?_
  refine AllReadyH.cons (o := ({ dst := some 16, op := Op.call { callee := Callee.value (Operand.func 58), args := #[Operand.tmp 15], argTypes := #[23] }, type := 3, pos := "authset.go:17", after := #[{ on := 10, ground := Ground.data }, { on := 9, ground := Ground.chain }], guard := none } : Oper)) rfl (fun KK hKK => ?_) AllReadyH.nil
  go_simp
  (with_reducible refine (HO.out _ _ _ RI.out).mono ?_)
  rintro e0 y4 ⟨rfl, hb⟩
  have RB4 := Lib.hid (RB3.out.trans (hb.bel.mono RB3.out.size)); have RG4 := Lib.hid (RG3.out.trans hb)
  clear hb
  refine hKK.out _ _ (RB4.out) (fun hH4 => ?_)
  clear hKK KK
  try simp only [Act.put, List.setIfInBounds_toArray, List.set_cons_zero, List.set_cons_succ]
  refine wpAnyH_take (i := 12) (oi := ({ dst := some 4, op := Op.assign (Operand.tmp 16), type := 3, pos := "authset.go:17", after := #[{ on := 11, ground := Ground.data }, { on := 11, ground := Ground.chain }, { on := 0, ground := Ground.phase }, { on := 1, ground := Ground.phase }, { on := 2, ground := Ground.phase }, { on := 3, ground := Ground.phase }, { on := 4, ground := Ground.phase }, { on := 5, ground := Ground.phase }, { on := 6, ground := Ground.phase }, { on := 7, ground := Ground.phase }, { on := 8, ground := Ground.phase }, { on := 9, ground := Ground.phase }, { on := 10, ground := Ground.phase }, { on := 11, ground := Ground.phase }], guard := none } : Oper)) (v := ?hv5) rfl (by kernel_rfl) (by kernel_rfl) (by kernel_rfl) (fun _ _ _ h => h) (Or.inl ⟨by rfl, ?hy5⟩) (by assumption) ?hr5
  case hy5 => (intro w hSw; (try dsimp only at hSw); go_simp; (try with_reducible rfl))
  try simp only [Act.put, List.setIfInBounds_toArray, List.set_cons_zero, List.set_cons_succ]
  refine wpAnyH_done (by kernel_rfl) ?_ _
  go_wp2
  go_ret
  exact ⟨rfl, HB.out.trans RG4.out⟩
end Go.Proofs.Ytbedibiodlgegaa
