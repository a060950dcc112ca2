/- The keys of events: find; whether a key is among keys; whether one of kind 1 is. Bound: none beyond a slice's. -/
import Derived.Test.YtbedibiodlgegaaK9
import Derived.Test.YtbedibiodlgegaaYPL
namespace Go.Proofs.Ytbedibiodlgegaa
open Go Go.RowKit
set_option linter.unusedVariables false
set_option linter.unusedSimpArgs false

set_option maxRecDepth 100000 in
set_option maxHeartbeats 2000000 in
theorem find35 (A : Option Addr) (n c : Nat) (z : Int) (E : Nat → Evd) (w : World) (h : Evx w A n E) : Calls Try.prog 35 #[.slice A n c, .int .i64 z] w fun e w' => e = .returned (.int .i64 (plI (pl E n z))) ∧ w = w' := by
  have H := Lib.hid h
  have hbig := h.big
  have HHit := Lib.hid (fun (k : Nat) (h1 : pl E k z = none) (h2 : k < n) (h3 : (E k).e0 = z) => pl_hit h1 h2 h3)
  generalize hr : pl E n z = r at HHit ⊢
  have HR := Lib.hid hr
  clear h hr
  go_enter Try.func35, Try.ntmps35
  go_wp2
  go_loopg [5, 8] n (fun gg _ s8 wr => ∃ kk : Nat, kk ≤ n ∧ n - kk ≤ gg ∧ s8 = .int .i64 kk ∧ Hid (pl E kk z = none) ∧ w = wr)
  case atStart => exact ⟨0, Nat.zero_le _, by omega, rfl, Lib.hid rfl, rfl⟩
  case round =>
    obtain ⟨kk, hkk, hg, rfl, HN, rfl⟩ := hrel
    by_cases hlt : kk < n
    · have hltz : (kk : Int) < (n : Int) := by omega
      obtain ⟨b, off, rfl, k0⟩ := H.out.id hlt
      cases q1 : ((E kk).e0 == z)
      · have HN3 := Lib.hid (pl_miss HN.out (beq_eq_false_iff_ne.1 q1))
        generalize (E kk).e0 = p at k0 q1
        go_wp2
        go_roundg (n - (kk + 1))
        case measure => omega
        case rel => exact ⟨kk + 1, by omega, by omega, by go_num, HN3, rfl⟩
      · have HE := Lib.hid (HHit.out kk HN.out hlt (beq_iff_eq.1 q1))
        generalize (E kk).e0 = p at k0 q1
        go_wp2
        go_ret
        exact ⟨ret_i64 (by rw [HE.out]; rfl), rfl⟩
    · have hltz : ¬ (kk : Int) < (n : Int) := by omega
      have HE : Hid (r = none) := Lib.hid (by rw [← HR.out, show n = kk by omega]; exact HN.out)
      go_wp2
      go_ret
      exact ⟨ret_i64 (by rw [HE.out]; rfl), rfl⟩
/-- Three cells of a key, wherever the world has gone on to. -/
theorem ky_three {w : World} {A : Option Addr} {n c : Nat} {l : List Ky.Rc} (h : Ky.Rcs w A n c l) {k : Nat} (hk : k < n) : ∃ b off, A = some ⟨b, off, none⟩ ∧ b < w.heap.size ∧ ∀ v, Below w.heap.size w v → v.cell? ⟨b, off + k * 3, none⟩ = some (.int .i64 (l.getD k Ky.t0).k) ∧ v.cell? ⟨b, off + k * 3 + 1, none⟩ = some (.string (l.getD k Ky.t0).key) ∧ v.cell? ⟨b, off + k * 3 + 2, none⟩ = some (.int .i64 (l.getD k Ky.t0).id) := by
  obtain ⟨b, off, e, hbl, hr, _⟩ := h.get hk
  exact ⟨b, off, e, hbl, fun v hb => ⟨(hb.cell (p := ⟨b, off + k * 3, none⟩) hbl).trans (hr 0 _ rfl), (hb.cell (p := ⟨b, off + k * 3 + 1, none⟩) hbl).trans (hr 1 _ rfl), (hb.cell (p := ⟨b, off + k * 3 + 2, none⟩) hbl).trans (hr 2 _ rfl)⟩⟩
def isEq (p q : Ky.Rc) : Bool := decide (p = q)
set_option maxRecDepth 100000 in
set_option maxHeartbeats 4000000 in
theorem index51 (A : Option Addr) (n c : Nat) (l : List Ky.Rc) (p : Ky.Rc) (w : World) (h : Ky.Rcs w A n c l) (hn : n ≤ 1000000) : Calls Try.prog 51 #[.slice A n c, .agg #[.int .i64 p.k, .string p.key, .int .i64 p.id]] w fun e w' => e = .returned (.int .i64 (fstI l (isEq p))) ∧ Below w.heap.size w w' := by
  have BA := Lib.hid ((Below.refl w.heap.size w).alloc (Nat.le_refl _) (.cells #[.int .i64 p.k, .string p.key, .int .i64 p.id] 64))
  have XB := Lib.hid (show Blk (w.alloc (.cells #[.int .i64 p.k, .string p.key, .int .i64 p.id] 64)) w.heap.size (Ky.enc p) 64 from blk_new w (Ky.enc p) 64)
  have H := Lib.hid (h.below BA.out)
  have HL := Lib.hid h.len
  clear h
  go_enter Try.func51, Try.ntmps51
  go_wp2
  go_loopg [5, 8] n (fun gg _ s8 wr => ∃ kk : Nat, kk ≤ n ∧ n - kk ≤ gg ∧ s8 = .int .i64 (kk : Int) ∧ Hid (∀ j, j < kk → isEq p (l.getD j Ky.t0) = false) ∧ Hid (Below (w.heap.size + 1) (w.alloc (.cells #[.int .i64 p.k, .string p.key, .int .i64 p.id] 64)) wr) ∧ Hid (Below w.heap.size w wr))
  case atStart => exact ⟨0, Nat.zero_le _, by omega, rfl, Lib.hid (fun j hj => absurd hj (Nat.not_lt_zero _)), Lib.hid (Below.refl _ _), BA⟩
  case round =>
    obtain ⟨kk, hkk, hg, rfl, HJ, BX, BW⟩ := hrel
    by_cases hlt : kk < n
    · have hltz : (kk : Int) < (n : Int) := by omega
      have hk0 : (0 : Int) ≤ (kk : Int) := by omega
      obtain ⟨b, off, rfl, _, h1⟩ := ky_three (H.out.below (by rw [World.size_alloc]; exact BX.out)) hlt
      have X1 := Lib.hid (XB.out.below (by rw [World.size_alloc]; exact BX.out))
      have HB := Lib.hid (show ∀ v, Below wr.heap.size wr v → v.cell? ⟨w.heap.size, 0, none⟩ = some (.int .i64 p.k) ∧ v.cell? ⟨w.heap.size, 1, none⟩ = some (.string p.key) ∧ v.cell? ⟨w.heap.size, 2, none⟩ = some (.int .i64 p.id) from fun v hb => ⟨(X1.out.below hb).cell (i := 0) rfl, (X1.out.below hb).cell (i := 1) rfl, (X1.out.below hb).cell (i := 2) rfl⟩)
      have HQ := Lib.hid h1
      have HY := Lib.hid (fun h => fst_at (l := l) (f := isEq p) (k := kk) (by rw [HL.out]; exact hlt) h HJ.out)
      have HN : Hid (isEq p (l.getD kk Ky.t0) = false → ∀ j, j < kk + 1 → isEq p (l.getD j Ky.t0) = false) := Lib.hid (fun h j hj => by
        by_cases e : j = kk
        · subst e; exact h
        · exact HJ.out j (by omega))
      clear h1
      generalize l.getD kk Ky.t0 = q at HQ HY HN
      by_cases hqp : p = q
      · have HE0 := Lib.hid hqp
        have HD := Lib.hid (show decide (p = q) = true from decide_eq_true hqp)
        have HE := Lib.hid (HY.out (decide_eq_true hqp))
        clear hqp HY HN
        go_upto_region 4 with (fail)
        refine wp_region_held_drew (S := (fun y => Below wr.heap.size wr y)) (by kernel_rfl) ((Below.refl wr.heap.size wr).drew) (fun hH0 => ?_)
        generalize hy0 : World.drew _ = y0 at hH0 ⊢
        have RB0 : Hid (Below wr.heap.size wr y0) := Lib.hid hH0
        clear hy0
        refine wpAnyH_take (i := 0) (oi := ({ dst := some 11, op := Op.load 64 (Operand.tmp 3), type := 64, pos := "slices.go:98", after := #[], guard := none } : Oper)) (v := .agg #[.int .i64 p.k, .string p.key, .int .i64 p.id]) rfl (by kernel_rfl) (by kernel_rfl) (by kernel_rfl) (fun _ _ _ h => h) (Or.inl ⟨by rfl, fun w0 hw0 => by obtain ⟨q0, q1, q2⟩ := HB.out w0 hw0; go_simp⟩) (by assumption) ?_
        try simp only [Act.put, List.setIfInBounds_toArray, List.set_cons_zero, List.set_cons_succ]
        refine wpAnyH_take (i := 1) (oi := ({ dst := some 12, op := Op.move (Operand.tmp 0), type := 61, pos := "slices.go:98", after := #[], guard := none } : Oper)) (v := ?hv1) rfl (by kernel_rfl) (by kernel_rfl) (by kernel_rfl) (fun _ _ _ h => h) (Or.inl ⟨by rfl, ?hy1⟩) (by assumption) ?hr1
        case hy1 => (intro w hSw; (try dsimp only at hSw); go_simp; (try with_reducible rfl))
        try simp only [Act.put, List.setIfInBounds_toArray, List.set_cons_zero, List.set_cons_succ]
        refine wpAnyH_take (i := 2) (oi := ({ dst := some 13, op := Op.move (Operand.tmp 5), type := 3, pos := "slices.go:98", after := #[], guard := none } : Oper)) (v := ?hv2) rfl (by kernel_rfl) (by kernel_rfl) (by kernel_rfl) (fun _ _ _ h => h) (Or.inl ⟨by rfl, ?hy2⟩) (by assumption) ?hr2
        case hy2 => (intro w hSw; (try dsimp only at hSw); go_simp; (try with_reducible rfl))
        try simp only [Act.put, List.setIfInBounds_toArray, List.set_cons_zero, List.set_cons_succ]
        refine wpAnyH_take (i := 3) (oi := ({ dst := some 14, op := Op.indexAddr 61 (Operand.tmp 12) (Operand.tmp 13), type := 0, pos := "slices.go:98", after := #[{ on := 1, ground := Ground.data }, { on := 2, ground := Ground.data }], guard := none } : Oper)) (v := ?hv3) rfl (by kernel_rfl) (by kernel_rfl) (by kernel_rfl) (fun _ _ _ h => h) (Or.inl ⟨by rfl, ?hy3⟩) (by assumption) ?hr3
        case hy3 => (intro w hSw; (try dsimp only at hSw); go_simp; (try with_reducible rfl))
        try simp only [Act.put, List.setIfInBounds_toArray, List.set_cons_zero, List.set_cons_succ]
        refine wpAnyH_take (i := 4) (oi := ({ dst := some 15, op := Op.load 64 (Operand.tmp 14), type := 64, pos := "slices.go:98", after := #[{ on := 3, ground := Ground.data }], guard := none } : Oper)) (v := .agg #[.int .i64 q.k, .string q.key, .int .i64 q.id]) rfl (by kernel_rfl) (by kernel_rfl) (by kernel_rfl) (fun _ _ _ h => h) (Or.inl ⟨by rfl, fun w0 hw0 => by obtain ⟨q0, q1, q2⟩ := HQ.out w0 hw0; go_simp⟩) (by assumption) ?_
        try simp only [Act.put, List.setIfInBounds_toArray, List.set_cons_zero, List.set_cons_succ]
        refine wpAnyH_take (i := 5) (oi := ({ dst := some 16, op := Op.binOp BinOp.eql 64 (Operand.tmp 11) (Operand.tmp 15) 64, type := 4, pos := "slices.go:98", after := #[{ on := 0, ground := Ground.data }, { on := 4, ground := Ground.data }], guard := none } : Oper)) (v := .bool true) rfl (by kernel_rfl) (by kernel_rfl) (by kernel_rfl) (fun _ _ _ h => h) (Or.inl ⟨by rfl, fun w0 hw0 => by go_simp; first | exact (Ky.eq_ifs p q (fun b => Result.ok (Next.value (.bool b)) w0)).trans (by rw [HD.out]) | exact fun a b c => HE0.out ((Ky.eq_iff3 p q).2 ⟨a, b, c⟩)⟩) (by assumption) ?_
        try simp only [Act.put, List.setIfInBounds_toArray, List.set_cons_zero, List.set_cons_succ]
        refine wpAnyH_done (by kernel_rfl) ?_ _
        go_wp2
        go_ret
        exact ⟨ret_i6 HE.out.symm, BW.out.trans (RB0.out.mono BW.out.size)⟩
      · have HE0 := Lib.hid hqp
        have HD := Lib.hid (show decide (p = q) = false from decide_eq_false hqp)
        have HE := Lib.hid (HN.out (decide_eq_false hqp))
        clear hqp HY HN
        go_upto_region 4 with (fail)
        refine wp_region_held_drew (S := (fun y => Below wr.heap.size wr y)) (by kernel_rfl) ((Below.refl wr.heap.size wr).drew) (fun hH0 => ?_)
        generalize hy0 : World.drew _ = y0 at hH0 ⊢
        have RB0 : Hid (Below wr.heap.size wr y0) := Lib.hid hH0
        clear hy0
        refine wpAnyH_take (i := 0) (oi := ({ dst := some 11, op := Op.load 64 (Operand.tmp 3), type := 64, pos := "slices.go:98", after := #[], guard := none } : Oper)) (v := .agg #[.int .i64 p.k, .string p.key, .int .i64 p.id]) rfl (by kernel_rfl) (by kernel_rfl) (by kernel_rfl) (fun _ _ _ h => h) (Or.inl ⟨by rfl, fun w0 hw0 => by obtain ⟨q0, q1, q2⟩ := HB.out w0 hw0; go_simp⟩) (by assumption) ?_
        try simp only [Act.put, List.setIfInBounds_toArray, List.set_cons_zero, List.set_cons_succ]
        refine wpAnyH_take (i := 1) (oi := ({ dst := some 12, op := Op.move (Operand.tmp 0), type := 61, pos := "slices.go:98", after := #[], guard := none } : Oper)) (v := ?hv4) rfl (by kernel_rfl) (by kernel_rfl) (by kernel_rfl) (fun _ _ _ h => h) (Or.inl ⟨by rfl, ?hy4⟩) (by assumption) ?hr4
        case hy4 => (intro w hSw; (try dsimp only at hSw); go_simp; (try with_reducible rfl))
        try simp only [Act.put, List.setIfInBounds_toArray, List.set_cons_zero, List.set_cons_succ]
        refine wpAnyH_take (i := 2) (oi := ({ dst := some 13, op := Op.move (Operand.tmp 5), type := 3, pos := "slices.go:98", after := #[], guard := none } : Oper)) (v := ?hv5) rfl (by kernel_rfl) (by kernel_rfl) (by kernel_rfl) (fun _ _ _ h => h) (Or.inl ⟨by rfl, ?hy5⟩) (by assumption) ?hr5
        case hy5 => (intro w hSw; (try dsimp only at hSw); go_simp; (try with_reducible rfl))
        try simp only [Act.put, List.setIfInBounds_toArray, List.set_cons_zero, List.set_cons_succ]
        refine wpAnyH_take (i := 3) (oi := ({ dst := some 14, op := Op.indexAddr 61 (Operand.tmp 12) (Operand.tmp 13), type := 0, pos := "slices.go:98", after := #[{ on := 1, ground := Ground.data }, { on := 2, ground := Ground.data }], guard := none } : Oper)) (v := ?hv6) rfl (by kernel_rfl) (by kernel_rfl) (by kernel_rfl) (fun _ _ _ h => h) (Or.inl ⟨by rfl, ?hy6⟩) (by assumption) ?hr6
        case hy6 => (intro w hSw; (try dsimp only at hSw); go_simp; (try with_reducible rfl))
        try simp only [Act.put, List.setIfInBounds_toArray, List.set_cons_zero, List.set_cons_succ]
        refine wpAnyH_take (i := 4) (oi := ({ dst := some 15, op := Op.load 64 (Operand.tmp 14), type := 64, pos := "slices.go:98", after := #[{ on := 3, ground := Ground.data }], guard := none } : Oper)) (v := .agg #[.int .i64 q.k, .string q.key, .int .i64 q.id]) rfl (by kernel_rfl) (by kernel_rfl) (by kernel_rfl) (fun _ _ _ h => h) (Or.inl ⟨by rfl, fun w0 hw0 => by obtain ⟨q0, q1, q2⟩ := HQ.out w0 hw0; go_simp⟩) (by assumption) ?_
        try simp only [Act.put, List.setIfInBounds_toArray, List.set_cons_zero, List.set_cons_succ]
        refine wpAnyH_take (i := 5) (oi := ({ dst := some 16, op := Op.binOp BinOp.eql 64 (Operand.tmp 11) (Operand.tmp 15) 64, type := 4, pos := "slices.go:98", after := #[{ on := 0, ground := Ground.data }, { on := 4, ground := Ground.data }], guard := none } : Oper)) (v := .bool false) rfl (by kernel_rfl) (by kernel_rfl) (by kernel_rfl) (fun _ _ _ h => h) (Or.inl ⟨by rfl, fun w0 hw0 => by go_simp; first | exact (Ky.eq_ifs p q (fun b => Result.ok (Next.value (.bool b)) w0)).trans (by rw [HD.out]) | exact fun a b c => HE0.out ((Ky.eq_iff3 p q).2 ⟨a, b, c⟩)⟩) (by assumption) ?_
        try simp only [Act.put, List.setIfInBounds_toArray, List.set_cons_zero, List.set_cons_succ]
        refine wpAnyH_done (by kernel_rfl) ?_ _
        go_wp2
        go_roundg (n - (kk + 1))
        case measure => omega
        case rel => exact ⟨kk + 1, by omega, by omega, by go_num, HE, Lib.hid (BX.out.trans (RB0.out.mono (by have := BX.out.size; rw [World.size_alloc] at this; exact this))), Lib.hid (BW.out.trans (RB0.out.mono BW.out.size))⟩
    · have hltz : ¬ (kk : Int) < (n : Int) := by omega
      have HE := Lib.hid (fst_no (l := l) (f := isEq p) (fun j hj => HJ.out j (by rw [HL.out] at hj; omega)))
      go_wp2
      go_ret
      exact ⟨ret_i6 HE.out.symm, BW.out⟩
theorem fst_ge {l : List Ky.Rc} {f : Ky.Rc → Bool} : (0 ≤ fstI l f) ↔ l.any f = true := by
  unfold fstI
  constructor
  · intro h
    cases e : (List.range l.length).find? (fun j => f (l.getD j Ky.t0)) with
    | none => rw [e] at h; exact absurd h (by decide)
    | some j =>
      have h1 := List.find?_some e
      have h2 := List.mem_of_find?_eq_some e
      rw [List.mem_range] at h2
      exact any_yes h2 h1
  · intro h
    cases e : (List.range l.length).find? (fun j => f (l.getD j Ky.t0)) with
    | none =>
      exfalso
      rw [List.find?_eq_none] at e
      rw [List.any_eq_true] at h
      obtain ⟨x, hx, hf⟩ := h
      obtain ⟨j, hj, rfl⟩ := List.getElem_of_mem hx
      exact e j (by simpa using hj) (by rw [Ky.getD_at hj]; exact hf)
    | some j => exact Int.natCast_nonneg j
set_option maxHeartbeats 4000000 in
theorem contains37 (A : Option Addr) (n c : Nat) (l : List Ky.Rc) (p : Ky.Rc) (w : World) (h : Ky.Rcs w A n c l) (hn : n ≤ 1000000) : Calls Try.prog 37 #[.slice A n c, .agg #[.int .i64 p.k, .string p.key, .int .i64 p.id]] w fun e w' => e = .returned (.bool (l.any (isEq p))) ∧ Below w.heap.size w w' := by
  have BA := Lib.hid ((Below.refl w.heap.size w).alloc (Nat.le_refl _) (.cells #[.int .i64 p.k, .string p.key, .int .i64 p.id] 64))
  have HC := Lib.hid (index51 A n c l p _ (h.below BA.out) hn)
  have HG := Lib.hid (fst_ge (l := l) (f := isEq p))
  generalize fstI l (isEq p) = r at HC HG
  generalize l.any (isEq p) = t at HG ⊢
  clear h
  go_enter Try.func37, Try.ntmps37
  by_cases hr : 0 ≤ r
  · have HE := Lib.hid (HG.out.1 hr)
    go_wp2_with (first
      | (go_at_call 51; (with_reducible refine HC.out.mono ?_); rintro e w3 ⟨rfl, hb⟩; have B3 := Lib.hid (BA.out.trans (hb.mono BA.out.size)); clear hb)
      | go_in)
    go_ret
    exact ⟨ret_bl HE.out.symm, B3.out⟩
  · have HE := Lib.hid (show t = false by cases t with | false => rfl | true => exact absurd (HG.out.2 rfl) hr)
    go_wp2_with (first
      | (go_at_call 51; (with_reducible refine HC.out.mono ?_); rintro e w3 ⟨rfl, hb⟩; have B3 := Lib.hid (BA.out.trans (hb.mono BA.out.size)); clear hb)
      | go_in)
    go_ret
    exact ⟨ret_bl ((decide_eq_false (by omega)).trans HE.out.symm), B3.out⟩
def is1 (p : Ky.Rc) : Bool := decide (p.k = 1)
set_option maxHeartbeats 4000000 in
theorem one39 (p : Ky.Rc) (w : World) : Calls Try.prog 39 #[.agg #[.int .i64 p.k, .string p.key, .int .i64 p.id]] w fun e w' => e = .returned (.bool (is1 p)) ∧ Below w.heap.size w w' := by
  have BA := Lib.hid ((Below.refl w.heap.size w).alloc (Nat.le_refl _) (.cells #[.int .i64 p.k, .string p.key, .int .i64 p.id] 64))
  by_cases h : p.k = 1
  · have HE := Lib.hid (show is1 p = true from decide_eq_true h)
    have z : (p.k == 1) = true := beq_iff_eq.2 h
    generalize is1 p = r at HE ⊢
    generalize p.k = x at BA z ⊢
    clear h
    go_enter Try.func39, Try.ntmps39
    go_wp2
    go_ret
    exact ⟨ret_bl HE.out.symm, BA.out⟩
  · have HE := Lib.hid (show is1 p = false from decide_eq_false h)
    have z : (p.k == 1) = false := beq_eq_false_iff_ne.2 h
    generalize is1 p = r at HE ⊢
    generalize p.k = x at BA z ⊢
    clear h
    go_enter Try.func39, Try.ntmps39
    go_wp2
    go_ret
    exact ⟨ret_bl HE.out.symm, BA.out⟩
set_option maxRecDepth 100000 in
set_option maxHeartbeats 4000000 in
theorem index52 (A : Option Addr) (n c : Nat) (l : List Ky.Rc) (w : World) (h : Ky.Rcs w A n c l) (hn : n ≤ 1000000) : Calls Try.prog 52 #[.slice A n c, .func (.func 39) #[] #[]] w fun e w' => e = .returned (.int .i64 (fstI l is1)) ∧ Below w.heap.size w w' := by
  have H := Lib.hid h
  have HL := Lib.hid h.len
  have HP := Lib.hid (fun p v => one39 p v)
  clear h
  go_enter Try.func52, Try.ntmps52
  go_wp2
  go_loopg [5, 8] n (fun gg _ s8 wr => ∃ kk : Nat, kk ≤ n ∧ n - kk ≤ gg ∧ s8 = .int .i64 (kk : Int) ∧ Hid (∀ j, j < kk → is1 (l.getD j Ky.t0) = false) ∧ Hid (Below w.heap.size w wr))
  case atStart => exact ⟨0, Nat.zero_le _, by omega, rfl, Lib.hid (fun j hj => absurd hj (Nat.not_lt_zero _)), Lib.hid (Below.refl _ _)⟩
  case round =>
    obtain ⟨kk, hkk, hg, rfl, HJ, BW⟩ := hrel
    by_cases hlt : kk < n
    · have hltz : (kk : Int) < (n : Int) := by omega
      have hk0 : (0 : Int) ≤ (kk : Int) := by omega
      obtain ⟨b, off, rfl, _, h1⟩ := ky_three (H.out.below BW.out) hlt
      obtain ⟨q0, q1, q2⟩ := h1 wr (Below.refl _ _)
      have HY := Lib.hid (fun h => fst_at (l := l) (f := is1) (k := kk) (by rw [HL.out]; exact hlt) h HJ.out)
      have HN : Hid (is1 (l.getD kk Ky.t0) = false → ∀ j, j < kk + 1 → is1 (l.getD j Ky.t0) = false) := Lib.hid (fun h j hj => by
        by_cases e : j = kk
        · subst e; exact h
        · exact HJ.out j (by omega))
      clear h1
      generalize l.getD kk Ky.t0 = p at q0 q1 q2 HY HN
      have HC := Lib.hid (HP.out p wr)
      cases hb : is1 p with
      | true =>
        rw [hb] at HC
        have HE := Lib.hid (HY.out hb)
        clear HY HN hb
        go_wp2_with (first
          | (go_at_call 39; (with_reducible refine HC.out.mono ?_); rintro e w3 ⟨rfl, hb⟩; have B3 := Lib.hid (BW.out.trans (hb.mono BW.out.size)); clear hb)
          | go_in)
        go_ret
        exact ⟨ret_i6 HE.out.symm, B3.out⟩
      | false =>
        rw [hb] at HC
        have HE := Lib.hid (HN.out hb)
        clear HY HN hb
        go_wp2_with (first
          | (go_at_call 39; (with_reducible refine HC.out.mono ?_); rintro e w3 ⟨rfl, hb⟩; have B3 := Lib.hid (BW.out.trans (hb.mono BW.out.size)); clear hb)
          | go_in)
        go_roundg (n - (kk + 1))
        case measure => omega
        case rel => exact ⟨kk + 1, by omega, by omega, by go_num, HE, B3⟩
    · have hltz : ¬ (kk : Int) < (n : Int) := by omega
      have HE := Lib.hid (fst_no (l := l) (f := is1) (fun j hj => HJ.out j (by rw [HL.out] at hj; omega)))
      go_wp2
      go_ret
      exact ⟨ret_i6 HE.out.symm, BW.out⟩
set_option maxHeartbeats 4000000 in
theorem any38 (A : Option Addr) (n c : Nat) (l : List Ky.Rc) (w : World) (h : Ky.Rcs w A n c l) (hn : n ≤ 1000000) : Calls Try.prog 38 #[.slice A n c, .func (.func 39) #[] #[]] w fun e w' => e = .returned (.bool (l.any is1)) ∧ Below w.heap.size w w' := by
  have HC := Lib.hid (index52 A n c l _ h hn)
  have HG := Lib.hid (fst_ge (l := l) (f := is1))
  generalize fstI l is1 = r at HC HG
  generalize l.any is1 = t at HG ⊢
  clear h
  go_enter Try.func38, Try.ntmps38
  by_cases hr : 0 ≤ r
  · have HE := Lib.hid (HG.out.1 hr)
    go_wp2_with (first
      | (go_at_call 52; (with_reducible refine HC.out.mono ?_); rintro e w3 ⟨rfl, hb⟩; have B3 := Lib.hid hb; clear hb)
      | go_in)
    go_ret
    exact ⟨ret_bl HE.out.symm, B3.out⟩
  · have HE := Lib.hid (show t = false by cases t with | false => rfl | true => exact absurd (HG.out.2 rfl) hr)
    go_wp2_with (first
      | (go_at_call 52; (with_reducible refine HC.out.mono ?_); rintro e w3 ⟨rfl, hb⟩; have B3 := Lib.hid hb; clear hb)
      | go_in)
    go_ret
    exact ⟨ret_bl ((decide_eq_false (by omega)).trans HE.out.symm), B3.out⟩
end Go.Proofs.Ytbedibiodlgegaa
