/- The keys of events: R10.Same at equal lists, Is, Ahead; the search of an entry. Bound: none beyond a slice's. -/
import Derived.Test.YtbedibiodlgegaaK7
namespace Go.Proofs.Ytbedibiodlgegaa
open Go Go.RowKit
set_option linter.unusedVariables false
set_option linter.unusedSimpArgs false

theorem ret_bl {a b : Bool} (h : a = b) : Ending.returned (.bool a) = .returned (.bool b) := by rw [h]
/-- Three cells of an entry, wherever the world has gone on to. -/
theorem EnR.three {w : World} {A : Option Addr} {n c : Nat} {l : List Ky.Rc} (h : EnR w A n c l) {k : Nat} (hk : k < n) : ∃ b off, A = some ⟨b, off, none⟩ ∧ b < w.heap.size ∧ ∀ v, Below w.heap.size w v → v.cell? ⟨b, off + k * 3, none⟩ = some (.int .i64 (l.getD k Ky.t0).k) ∧ v.cell? ⟨b, off + k * 3 + 1, none⟩ = some (.string (l.getD k Ky.t0).key) ∧ v.cell? ⟨b, off + k * 3 + 2, none⟩ = some (.int .i64 (l.getD k Ky.t0).id) := by
  have hl : l.length = n := by have := h.len; rwa [List.length_map] at this
  obtain ⟨b, off, e, hbl, hr, _⟩ := h.get hk
  rw [toE_at (by omega)] at hr
  exact ⟨b, off, e, hbl, fun v hb => ⟨(hb.cell (p := ⟨b, off + k * 3, none⟩) hbl).trans (hr 0 _ rfl), (hb.cell (p := ⟨b, off + k * 3 + 1, none⟩) hbl).trans (hr 1 _ rfl), (hb.cell (p := ⟨b, off + k * 3 + 2, none⟩) hbl).trans (hr 2 _ rfl)⟩⟩
set_option maxRecDepth 100000 in
set_option maxHeartbeats 4000000 in
theorem same11 (A1 A2 : Option Addr) (n c1 c2 : Nat) (l : List Ky.Rc) (w : World) (h1 : EnR w A1 n c1 l) (h2 : EnR w A2 n c2 l) (hn : n ≤ 1000000) : Calls Try.prog 11 #[.slice A1 n c1, .slice A2 n c2] w fun e w' => e = .returned (.bool true) ∧ Below w.heap.size w w' := by
  have H1 := Lib.hid h1
  have H2 := Lib.hid h2
  clear h1 h2
  go_enter Try.func11, Try.ntmps11
  go_wp2
  go_loopg [5] n (fun gg s5 wr => ∃ kk : Nat, kk ≤ n ∧ n - kk ≤ gg ∧ s5 = .int .i64 (kk : Int) ∧ Hid (Below w.heap.size w wr))
  case atStart => exact ⟨0, Nat.zero_le _, by omega, rfl, Lib.hid (Below.refl _ _)⟩
  case round =>
    obtain ⟨kk, hkk, hg, rfl, BW⟩ := hrel
    by_cases hlt : kk < n
    · have hltz : (kk : Int) < (n : Int) := by omega
      have hk0 : (0 : Int) ≤ (kk : Int) := by omega
      obtain ⟨b, off, rfl, _, h1⟩ := EnR.three (H1.out.below BW.out) hlt
      obtain ⟨b2, off2, rfl, _, h2⟩ := EnR.three (H2.out.below BW.out) hlt
      have H1Q := Lib.hid h1
      have H2Q := Lib.hid h2
      clear h1 h2
      generalize l.getD kk Ky.t0 = q at H1Q H2Q
      go_upto_region 6 with (fail)
      refine wp_region_held_drew (S := (fun y => Below wr.heap.size wr y)) (by kernel_rfl) ((Below.refl wr.heap.size wr).drew) (fun hH0 => ?_)
      generalize hy0 : World.drew _ = y0 at hH0 ⊢
      have RB0 : Hid (Below wr.heap.size wr y0) := Lib.hid hH0
      clear hy0
      refine wpAnyH_take (i := 0) (oi := ({ dst := some 17, op := Op.move (Operand.tmp 0), type := 40, pos := "ref.go:66", after := #[], guard := none } : Oper)) (v := ?hv1) rfl (by kernel_rfl) (by kernel_rfl) (by kernel_rfl) (fun _ _ _ h => h) (Or.inl ⟨by rfl, ?hy1⟩) (by assumption) ?hr1
      case hy1 => (intro w hSw; (try dsimp only at hSw); go_simp; (try with_reducible rfl))
      try simp only [Act.put, List.setIfInBounds_toArray, List.set_cons_zero, List.set_cons_succ]
      refine wpAnyH_take (i := 1) (oi := ({ dst := some 18, op := Op.move (Operand.tmp 5), type := 3, pos := "ref.go:66", after := #[], guard := none } : Oper)) (v := ?hv2) rfl (by kernel_rfl) (by kernel_rfl) (by kernel_rfl) (fun _ _ _ h => h) (Or.inl ⟨by rfl, ?hy2⟩) (by assumption) ?hr2
      case hy2 => (intro w hSw; (try dsimp only at hSw); go_simp; (try with_reducible rfl))
      try simp only [Act.put, List.setIfInBounds_toArray, List.set_cons_zero, List.set_cons_succ]
      refine wpAnyH_take (i := 2) (oi := ({ dst := some 19, op := Op.indexAddr 40 (Operand.tmp 17) (Operand.tmp 18), type := 0, pos := "ref.go:66", after := #[{ on := 0, ground := Ground.data }, { on := 1, ground := Ground.data }], guard := none } : Oper)) (v := ?hv3) rfl (by kernel_rfl) (by kernel_rfl) (by kernel_rfl) (fun _ _ _ h => h) (Or.inl ⟨by rfl, ?hy3⟩) (by assumption) ?hr3
      case hy3 => (intro w hSw; (try dsimp only at hSw); go_simp; (try with_reducible rfl))
      try simp only [Act.put, List.setIfInBounds_toArray, List.set_cons_zero, List.set_cons_succ]
      refine wpAnyH_take (i := 3) (oi := ({ dst := some 20, op := Op.fieldAddr 56 (Operand.tmp 19) 0, type := 0, pos := "ref.go:66", after := #[{ on := 2, ground := Ground.data }], guard := none } : Oper)) (v := ?hv4) rfl (by kernel_rfl) (by kernel_rfl) (by kernel_rfl) (fun _ _ _ h => h) (Or.inl ⟨by rfl, ?hy4⟩) (by assumption) ?hr4
      case hy4 => (intro w hSw; (try dsimp only at hSw); go_simp; (try with_reducible rfl))
      try simp only [Act.put, List.setIfInBounds_toArray, List.set_cons_zero, List.set_cons_succ]
      refine wpAnyH_take (i := 4) (oi := ({ dst := some 21, op := Op.load 22 (Operand.tmp 20), type := 22, pos := "ref.go:66", after := #[{ on := 3, ground := Ground.data }], guard := none } : Oper)) (v := .int .i64 q.k) rfl (by kernel_rfl) (by kernel_rfl) (by kernel_rfl) (fun _ _ _ h => h) (Or.inl ⟨by rfl, fun w0 hw0 => by obtain ⟨q0, q1, q2⟩ := H1Q.out w0 hw0; go_simp⟩) (by assumption) ?_
      try simp only [Act.put, List.setIfInBounds_toArray, List.set_cons_zero, List.set_cons_succ]
      refine wpAnyH_take (i := 5) (oi := ({ dst := some 22, op := Op.move (Operand.tmp 1), type := 40, pos := "ref.go:66", after := #[], guard := none } : Oper)) (v := ?hv5) rfl (by kernel_rfl) (by kernel_rfl) (by kernel_rfl) (fun _ _ _ h => h) (Or.inl ⟨by rfl, ?hy5⟩) (by assumption) ?hr5
      case hy5 => (intro w hSw; (try dsimp only at hSw); go_simp; (try with_reducible rfl))
      try simp only [Act.put, List.setIfInBounds_toArray, List.set_cons_zero, List.set_cons_succ]
      refine wpAnyH_take (i := 6) (oi := ({ dst := some 23, op := Op.move (Operand.tmp 5), type := 3, pos := "ref.go:66", after := #[], guard := none } : Oper)) (v := ?hv6) rfl (by kernel_rfl) (by kernel_rfl) (by kernel_rfl) (fun _ _ _ h => h) (Or.inl ⟨by rfl, ?hy6⟩) (by assumption) ?hr6
      case hy6 => (intro w hSw; (try dsimp only at hSw); go_simp; (try with_reducible rfl))
      try simp only [Act.put, List.setIfInBounds_toArray, List.set_cons_zero, List.set_cons_succ]
      refine wpAnyH_take (i := 7) (oi := ({ dst := some 24, op := Op.indexAddr 40 (Operand.tmp 22) (Operand.tmp 23), type := 0, pos := "ref.go:66", after := #[{ on := 5, ground := Ground.data }, { on := 6, ground := Ground.data }], guard := none } : Oper)) (v := ?hv7) rfl (by kernel_rfl) (by kernel_rfl) (by kernel_rfl) (fun _ _ _ h => h) (Or.inl ⟨by rfl, ?hy7⟩) (by assumption) ?hr7
      case hy7 => (intro w hSw; (try dsimp only at hSw); go_simp; (try with_reducible rfl))
      try simp only [Act.put, List.setIfInBounds_toArray, List.set_cons_zero, List.set_cons_succ]
      refine wpAnyH_take (i := 8) (oi := ({ dst := some 25, op := Op.fieldAddr 56 (Operand.tmp 24) 0, type := 0, pos := "ref.go:66", after := #[{ on := 7, ground := Ground.data }], guard := none } : Oper)) (v := ?hv8) rfl (by kernel_rfl) (by kernel_rfl) (by kernel_rfl) (fun _ _ _ h => h) (Or.inl ⟨by rfl, ?hy8⟩) (by assumption) ?hr8
      case hy8 => (intro w hSw; (try dsimp only at hSw); go_simp; (try with_reducible rfl))
      try simp only [Act.put, List.setIfInBounds_toArray, List.set_cons_zero, List.set_cons_succ]
      refine wpAnyH_take (i := 9) (oi := ({ dst := some 26, op := Op.load 22 (Operand.tmp 25), type := 22, pos := "ref.go:66", after := #[{ on := 8, ground := Ground.data }], guard := none } : Oper)) (v := .int .i64 q.k) rfl (by kernel_rfl) (by kernel_rfl) (by kernel_rfl) (fun _ _ _ h => h) (Or.inl ⟨by rfl, fun w0 hw0 => by obtain ⟨q0, q1, q2⟩ := H2Q.out w0 hw0; go_simp⟩) (by assumption) ?_
      try simp only [Act.put, List.setIfInBounds_toArray, List.set_cons_zero, List.set_cons_succ]
      refine wpAnyH_take (i := 10) (oi := ({ dst := some 27, op := Op.binOp BinOp.neq 22 (Operand.tmp 21) (Operand.tmp 26) 22, type := 4, pos := "ref.go:66", after := #[{ on := 4, ground := Ground.data }, { on := 9, ground := Ground.data }], guard := none } : Oper)) (v := ?hv9) rfl (by kernel_rfl) (by kernel_rfl) (by kernel_rfl) (fun _ _ _ h => h) (Or.inl ⟨by rfl, ?hy9⟩) (by assumption) ?hr9
      case hy9 => (intro w hSw; (try dsimp only at hSw); go_simp; (try with_reducible rfl))
      try simp only [Act.put, List.setIfInBounds_toArray, List.set_cons_zero, List.set_cons_succ]
      refine wpAnyH_take (i := 11) (oi := ({ dst := some 28, op := Op.move (Operand.tmp 27), type := 4, pos := "ref.go:66", after := #[{ on := 10, ground := Ground.data }], guard := none } : Oper)) (v := ?hv10) rfl (by kernel_rfl) (by kernel_rfl) (by kernel_rfl) (fun _ _ _ h => h) (Or.inl ⟨by rfl, ?hy10⟩) (by assumption) ?hr10
      case hy10 => (intro w hSw; (try dsimp only at hSw); go_simp; (try with_reducible rfl))
      try simp only [Act.put, List.setIfInBounds_toArray, List.set_cons_zero, List.set_cons_succ]
      refine wpAnyH_take (i := 12) (oi := ({ dst := some 29, op := Op.move (Operand.tmp 0), type := 40, pos := "ref.go:66", after := #[{ on := 11, ground := Ground.guard }], guard := some (11, false) } : Oper)) (v := ?hv11) rfl (by kernel_rfl) (by kernel_rfl) (by kernel_rfl) (fun _ _ _ h => h) (Or.inl ⟨by rfl, ?hy11⟩) (by assumption) ?hr11
      case hy11 => (intro w hSw; (try dsimp only at hSw); go_simp; (try with_reducible rfl))
      try simp only [Act.put, List.setIfInBounds_toArray, List.set_cons_zero, List.set_cons_succ]
      refine wpAnyH_take (i := 13) (oi := ({ dst := some 30, op := Op.move (Operand.tmp 5), type := 3, pos := "ref.go:66", after := #[{ on := 11, ground := Ground.guard }], guard := some (11, false) } : Oper)) (v := ?hv12) rfl (by kernel_rfl) (by kernel_rfl) (by kernel_rfl) (fun _ _ _ h => h) (Or.inl ⟨by rfl, ?hy12⟩) (by assumption) ?hr12
      case hy12 => (intro w hSw; (try dsimp only at hSw); go_simp; (try with_reducible rfl))
      try simp only [Act.put, List.setIfInBounds_toArray, List.set_cons_zero, List.set_cons_succ]
      refine wpAnyH_take (i := 14) (oi := ({ dst := some 31, op := Op.indexAddr 40 (Operand.tmp 29) (Operand.tmp 30), type := 0, pos := "ref.go:66", after := #[{ on := 12, ground := Ground.data }, { on := 13, ground := Ground.data }, { on := 11, ground := Ground.guard }], guard := some (11, false) } : Oper)) (v := ?hv13) rfl (by kernel_rfl) (by kernel_rfl) (by kernel_rfl) (fun _ _ _ h => h) (Or.inl ⟨by rfl, ?hy13⟩) (by assumption) ?hr13
      case hy13 => (intro w hSw; (try dsimp only at hSw); go_simp; (try with_reducible rfl))
      try simp only [Act.put, List.setIfInBounds_toArray, List.set_cons_zero, List.set_cons_succ]
      refine wpAnyH_take (i := 15) (oi := ({ dst := some 32, op := Op.fieldAddr 56 (Operand.tmp 31) 1, type := 0, pos := "ref.go:66", after := #[{ on := 14, ground := Ground.data }, { on := 11, ground := Ground.guard }], guard := some (11, false) } : Oper)) (v := ?hv14) rfl (by kernel_rfl) (by kernel_rfl) (by kernel_rfl) (fun _ _ _ h => h) (Or.inl ⟨by rfl, ?hy14⟩) (by assumption) ?hr14
      case hy14 => (intro w hSw; (try dsimp only at hSw); go_simp; (try with_reducible rfl))
      try simp only [Act.put, List.setIfInBounds_toArray, List.set_cons_zero, List.set_cons_succ]
      refine wpAnyH_take (i := 16) (oi := ({ dst := some 33, op := Op.load 9 (Operand.tmp 32), type := 9, pos := "ref.go:66", after := #[{ on := 15, ground := Ground.data }, { on := 11, ground := Ground.guard }], guard := some (11, false) } : Oper)) (v := .string q.key) rfl (by kernel_rfl) (by kernel_rfl) (by kernel_rfl) (fun _ _ _ h => h) (Or.inl ⟨by rfl, fun w0 hw0 => by obtain ⟨q0, q1, q2⟩ := H1Q.out w0 hw0; go_simp⟩) (by assumption) ?_
      try simp only [Act.put, List.setIfInBounds_toArray, List.set_cons_zero, List.set_cons_succ]
      refine wpAnyH_take (i := 17) (oi := ({ dst := some 34, op := Op.move (Operand.tmp 1), type := 40, pos := "ref.go:66", after := #[{ on := 11, ground := Ground.guard }], guard := some (11, false) } : Oper)) (v := ?hv15) rfl (by kernel_rfl) (by kernel_rfl) (by kernel_rfl) (fun _ _ _ h => h) (Or.inl ⟨by rfl, ?hy15⟩) (by assumption) ?hr15
      case hy15 => (intro w hSw; (try dsimp only at hSw); go_simp; (try with_reducible rfl))
      try simp only [Act.put, List.setIfInBounds_toArray, List.set_cons_zero, List.set_cons_succ]
      refine wpAnyH_take (i := 18) (oi := ({ dst := some 35, op := Op.move (Operand.tmp 5), type := 3, pos := "ref.go:66", after := #[{ on := 11, ground := Ground.guard }], guard := some (11, false) } : Oper)) (v := ?hv16) rfl (by kernel_rfl) (by kernel_rfl) (by kernel_rfl) (fun _ _ _ h => h) (Or.inl ⟨by rfl, ?hy16⟩) (by assumption) ?hr16
      case hy16 => (intro w hSw; (try dsimp only at hSw); go_simp; (try with_reducible rfl))
      try simp only [Act.put, List.setIfInBounds_toArray, List.set_cons_zero, List.set_cons_succ]
      refine wpAnyH_take (i := 19) (oi := ({ dst := some 36, op := Op.indexAddr 40 (Operand.tmp 34) (Operand.tmp 35), type := 0, pos := "ref.go:66", after := #[{ on := 17, ground := Ground.data }, { on := 18, ground := Ground.data }, { on := 11, ground := Ground.guard }], guard := some (11, false) } : Oper)) (v := ?hv17) rfl (by kernel_rfl) (by kernel_rfl) (by kernel_rfl) (fun _ _ _ h => h) (Or.inl ⟨by rfl, ?hy17⟩) (by assumption) ?hr17
      case hy17 => (intro w hSw; (try dsimp only at hSw); go_simp; (try with_reducible rfl))
      try simp only [Act.put, List.setIfInBounds_toArray, List.set_cons_zero, List.set_cons_succ]
      refine wpAnyH_take (i := 20) (oi := ({ dst := some 37, op := Op.fieldAddr 56 (Operand.tmp 36) 1, type := 0, pos := "ref.go:66", after := #[{ on := 19, ground := Ground.data }, { on := 11, ground := Ground.guard }], guard := some (11, false) } : Oper)) (v := ?hv18) rfl (by kernel_rfl) (by kernel_rfl) (by kernel_rfl) (fun _ _ _ h => h) (Or.inl ⟨by rfl, ?hy18⟩) (by assumption) ?hr18
      case hy18 => (intro w hSw; (try dsimp only at hSw); go_simp; (try with_reducible rfl))
      try simp only [Act.put, List.setIfInBounds_toArray, List.set_cons_zero, List.set_cons_succ]
      refine wpAnyH_take (i := 21) (oi := ({ dst := some 38, op := Op.load 9 (Operand.tmp 37), type := 9, pos := "ref.go:66", after := #[{ on := 20, ground := Ground.data }, { on := 11, ground := Ground.guard }], guard := some (11, false) } : Oper)) (v := .string q.key) rfl (by kernel_rfl) (by kernel_rfl) (by kernel_rfl) (fun _ _ _ h => h) (Or.inl ⟨by rfl, fun w0 hw0 => by obtain ⟨q0, q1, q2⟩ := H2Q.out w0 hw0; go_simp⟩) (by assumption) ?_
      try simp only [Act.put, List.setIfInBounds_toArray, List.set_cons_zero, List.set_cons_succ]
      refine wpAnyH_take (i := 22) (oi := ({ dst := some 39, op := Op.binOp BinOp.neq 9 (Operand.tmp 33) (Operand.tmp 38) 9, type := 4, pos := "ref.go:66", after := #[{ on := 16, ground := Ground.data }, { on := 21, ground := Ground.data }, { on := 11, ground := Ground.guard }], guard := some (11, false) } : Oper)) (v := ?hv19) rfl (by kernel_rfl) (by kernel_rfl) (by kernel_rfl) (fun _ _ _ h => h) (Or.inl ⟨by rfl, ?hy19⟩) (by assumption) ?hr19
      case hy19 => (intro w hSw; (try dsimp only at hSw); go_simp; (try with_reducible rfl))
      try simp only [Act.put, List.setIfInBounds_toArray, List.set_cons_zero, List.set_cons_succ]
      refine wpAnyH_take (i := 23) (oi := ({ dst := some 40, op := Op.pick (Operand.tmp 28) (Operand.const (Value.bool true)) (Operand.tmp 39), type := 4, pos := "ref.go:66", after := #[{ on := 11, ground := Ground.data }, { on := 22, ground := Ground.data }], guard := none } : Oper)) (v := ?hv20) rfl (by kernel_rfl) (by kernel_rfl) (by kernel_rfl) (fun _ _ _ h => h) (Or.inl ⟨by rfl, ?hy20⟩) (by assumption) ?hr20
      case hy20 => (intro w hSw; (try dsimp only at hSw); go_simp; (try with_reducible rfl))
      try simp only [Act.put, List.setIfInBounds_toArray, List.set_cons_zero, List.set_cons_succ]
      refine wpAnyH_take (i := 24) (oi := ({ dst := some 41, op := Op.move (Operand.tmp 40), type := 4, pos := "ref.go:66", after := #[{ on := 23, ground := Ground.data }, { on := 11, ground := Ground.chain }], guard := none } : Oper)) (v := ?hv21) rfl (by kernel_rfl) (by kernel_rfl) (by kernel_rfl) (fun _ _ _ h => h) (Or.inl ⟨by rfl, ?hy21⟩) (by assumption) ?hr21
      case hy21 => (intro w hSw; (try dsimp only at hSw); go_simp; (try with_reducible rfl))
      try simp only [Act.put, List.setIfInBounds_toArray, List.set_cons_zero, List.set_cons_succ]
      refine wpAnyH_take (i := 25) (oi := ({ dst := some 42, op := Op.move (Operand.tmp 0), type := 40, pos := "ref.go:66", after := #[{ on := 24, ground := Ground.guard }], guard := some (24, false) } : Oper)) (v := ?hv22) rfl (by kernel_rfl) (by kernel_rfl) (by kernel_rfl) (fun _ _ _ h => h) (Or.inl ⟨by rfl, ?hy22⟩) (by assumption) ?hr22
      case hy22 => (intro w hSw; (try dsimp only at hSw); go_simp; (try with_reducible rfl))
      try simp only [Act.put, List.setIfInBounds_toArray, List.set_cons_zero, List.set_cons_succ]
      refine wpAnyH_take (i := 26) (oi := ({ dst := some 43, op := Op.move (Operand.tmp 5), type := 3, pos := "ref.go:66", after := #[{ on := 24, ground := Ground.guard }], guard := some (24, false) } : Oper)) (v := ?hv23) rfl (by kernel_rfl) (by kernel_rfl) (by kernel_rfl) (fun _ _ _ h => h) (Or.inl ⟨by rfl, ?hy23⟩) (by assumption) ?hr23
      case hy23 => (intro w hSw; (try dsimp only at hSw); go_simp; (try with_reducible rfl))
      try simp only [Act.put, List.setIfInBounds_toArray, List.set_cons_zero, List.set_cons_succ]
      refine wpAnyH_take (i := 27) (oi := ({ dst := some 44, op := Op.indexAddr 40 (Operand.tmp 42) (Operand.tmp 43), type := 0, pos := "ref.go:66", after := #[{ on := 25, ground := Ground.data }, { on := 26, ground := Ground.data }, { on := 24, ground := Ground.guard }], guard := some (24, false) } : Oper)) (v := ?hv24) rfl (by kernel_rfl) (by kernel_rfl) (by kernel_rfl) (fun _ _ _ h => h) (Or.inl ⟨by rfl, ?hy24⟩) (by assumption) ?hr24
      case hy24 => (intro w hSw; (try dsimp only at hSw); go_simp; (try with_reducible rfl))
      try simp only [Act.put, List.setIfInBounds_toArray, List.set_cons_zero, List.set_cons_succ]
      refine wpAnyH_take (i := 28) (oi := ({ dst := some 45, op := Op.fieldAddr 56 (Operand.tmp 44) 2, type := 0, pos := "ref.go:66", after := #[{ on := 27, ground := Ground.data }, { on := 24, ground := Ground.guard }], guard := some (24, false) } : Oper)) (v := ?hv25) rfl (by kernel_rfl) (by kernel_rfl) (by kernel_rfl) (fun _ _ _ h => h) (Or.inl ⟨by rfl, ?hy25⟩) (by assumption) ?hr25
      case hy25 => (intro w hSw; (try dsimp only at hSw); go_simp; (try with_reducible rfl))
      try simp only [Act.put, List.setIfInBounds_toArray, List.set_cons_zero, List.set_cons_succ]
      refine wpAnyH_take (i := 29) (oi := ({ dst := some 46, op := Op.load 3 (Operand.tmp 45), type := 3, pos := "ref.go:66", after := #[{ on := 28, ground := Ground.data }, { on := 24, ground := Ground.guard }], guard := some (24, false) } : Oper)) (v := .int .i64 q.id) rfl (by kernel_rfl) (by kernel_rfl) (by kernel_rfl) (fun _ _ _ h => h) (Or.inl ⟨by rfl, fun w0 hw0 => by obtain ⟨q0, q1, q2⟩ := H1Q.out w0 hw0; go_simp⟩) (by assumption) ?_
      try simp only [Act.put, List.setIfInBounds_toArray, List.set_cons_zero, List.set_cons_succ]
      refine wpAnyH_take (i := 30) (oi := ({ dst := some 47, op := Op.move (Operand.tmp 1), type := 40, pos := "ref.go:66", after := #[{ on := 24, ground := Ground.guard }], guard := some (24, false) } : Oper)) (v := ?hv26) rfl (by kernel_rfl) (by kernel_rfl) (by kernel_rfl) (fun _ _ _ h => h) (Or.inl ⟨by rfl, ?hy26⟩) (by assumption) ?hr26
      case hy26 => (intro w hSw; (try dsimp only at hSw); go_simp; (try with_reducible rfl))
      try simp only [Act.put, List.setIfInBounds_toArray, List.set_cons_zero, List.set_cons_succ]
      refine wpAnyH_take (i := 31) (oi := ({ dst := some 48, op := Op.move (Operand.tmp 5), type := 3, pos := "ref.go:66", after := #[{ on := 24, ground := Ground.guard }], guard := some (24, false) } : Oper)) (v := ?hv27) rfl (by kernel_rfl) (by kernel_rfl) (by kernel_rfl) (fun _ _ _ h => h) (Or.inl ⟨by rfl, ?hy27⟩) (by assumption) ?hr27
      case hy27 => (intro w hSw; (try dsimp only at hSw); go_simp; (try with_reducible rfl))
      try simp only [Act.put, List.setIfInBounds_toArray, List.set_cons_zero, List.set_cons_succ]
      refine wpAnyH_take (i := 32) (oi := ({ dst := some 49, op := Op.indexAddr 40 (Operand.tmp 47) (Operand.tmp 48), type := 0, pos := "ref.go:66", after := #[{ on := 30, ground := Ground.data }, { on := 31, ground := Ground.data }, { on := 24, ground := Ground.guard }], guard := some (24, false) } : Oper)) (v := ?hv28) rfl (by kernel_rfl) (by kernel_rfl) (by kernel_rfl) (fun _ _ _ h => h) (Or.inl ⟨by rfl, ?hy28⟩) (by assumption) ?hr28
      case hy28 => (intro w hSw; (try dsimp only at hSw); go_simp; (try with_reducible rfl))
      try simp only [Act.put, List.setIfInBounds_toArray, List.set_cons_zero, List.set_cons_succ]
      refine wpAnyH_take (i := 33) (oi := ({ dst := some 50, op := Op.fieldAddr 56 (Operand.tmp 49) 2, type := 0, pos := "ref.go:66", after := #[{ on := 32, ground := Ground.data }, { on := 24, ground := Ground.guard }], guard := some (24, false) } : Oper)) (v := ?hv29) rfl (by kernel_rfl) (by kernel_rfl) (by kernel_rfl) (fun _ _ _ h => h) (Or.inl ⟨by rfl, ?hy29⟩) (by assumption) ?hr29
      case hy29 => (intro w hSw; (try dsimp only at hSw); go_simp; (try with_reducible rfl))
      try simp only [Act.put, List.setIfInBounds_toArray, List.set_cons_zero, List.set_cons_succ]
      refine wpAnyH_take (i := 34) (oi := ({ dst := some 51, op := Op.load 3 (Operand.tmp 50), type := 3, pos := "ref.go:66", after := #[{ on := 33, ground := Ground.data }, { on := 24, ground := Ground.guard }], guard := some (24, false) } : Oper)) (v := .int .i64 q.id) rfl (by kernel_rfl) (by kernel_rfl) (by kernel_rfl) (fun _ _ _ h => h) (Or.inl ⟨by rfl, fun w0 hw0 => by obtain ⟨q0, q1, q2⟩ := H2Q.out w0 hw0; go_simp⟩) (by assumption) ?_
      try simp only [Act.put, List.setIfInBounds_toArray, List.set_cons_zero, List.set_cons_succ]
      refine wpAnyH_take (i := 35) (oi := ({ dst := some 52, op := Op.binOp BinOp.neq 3 (Operand.tmp 46) (Operand.tmp 51) 3, type := 4, pos := "ref.go:66", after := #[{ on := 29, ground := Ground.data }, { on := 34, ground := Ground.data }, { on := 24, ground := Ground.guard }], guard := some (24, false) } : Oper)) (v := ?hv30) rfl (by kernel_rfl) (by kernel_rfl) (by kernel_rfl) (fun _ _ _ h => h) (Or.inl ⟨by rfl, ?hy30⟩) (by assumption) ?hr30
      case hy30 => (intro w hSw; (try dsimp only at hSw); go_simp; (try with_reducible rfl))
      try simp only [Act.put, List.setIfInBounds_toArray, List.set_cons_zero, List.set_cons_succ]
      refine wpAnyH_take (i := 36) (oi := ({ dst := some 53, op := Op.pick (Operand.tmp 41) (Operand.const (Value.bool true)) (Operand.tmp 52), type := 4, pos := "ref.go:66", after := #[{ on := 24, ground := Ground.data }, { on := 35, ground := Ground.data }], guard := none } : Oper)) (v := ?hv31) rfl (by kernel_rfl) (by kernel_rfl) (by kernel_rfl) (fun _ _ _ h => h) (Or.inl ⟨by rfl, ?hy31⟩) (by assumption) ?hr31
      case hy31 => (intro w hSw; (try dsimp only at hSw); go_simp; (try with_reducible rfl))
      try simp only [Act.put, List.setIfInBounds_toArray, List.set_cons_zero, List.set_cons_succ]
      refine wpAnyH_done (by kernel_rfl) ?_ _
      go_wp2
      go_roundg (n - (kk + 1))
      case measure => omega
      case rel => exact ⟨kk + 1, by omega, by omega, by go_num, Lib.hid (BW.out.trans (RB0.out.mono BW.out.size))⟩
    · have hltz : ¬ (kk : Int) < (n : Int) := by omega
      go_wp2
      go_ret
      exact ⟨rfl, BW.out⟩
/-- An entry of this kind and key. -/
def isK (k : Int) (ks : ByteArray) (p : Ky.Rc) : Bool := decide (p.k = k ∧ p.key.toList = ks.toList)
theorem any_yes {l : List Ky.Rc} {f : Ky.Rc → Bool} {k : Nat} (hk : k < l.length) (h : f (l.getD k Ky.t0) = true) : l.any f = true := by
  rw [List.any_eq_true]
  exact ⟨_, by rw [Ky.getD_at hk]; exact List.getElem_mem _, h⟩
theorem any_no {l : List Ky.Rc} {f : Ky.Rc → Bool} (h : ∀ j, j < l.length → f (l.getD j Ky.t0) = false) : l.any f = false := by
  rw [List.any_eq_false]
  intro x hx
  obtain ⟨j, hj, rfl⟩ := List.getElem_of_mem hx
  have := h j hj
  rw [Ky.getD_at hj] at this
  rw [this]; decide
set_option maxHeartbeats 4000000 in
theorem is28 (A : Option Addr) (n c : Nat) (l : List Ky.Rc) (k : Int) (ks : ByteArray) (w : World) (h : EnR w A n c l) (hn : n ≤ 1000000) : Calls Try.prog 28 #[.slice A n c, .int .i64 k, .string ks] w fun e w' => e = .returned (.bool (l.any (isK k ks))) ∧ w' = w := by
  have H := Lib.hid h
  have HL := Lib.hid (show l.length = n by have := h.len; rwa [List.length_map] at this)
  clear h
  go_enter Try.func28, Try.ntmps28
  go_wp2
  go_loopg [7] n (fun gg s7 wr => ∃ kk : Nat, kk ≤ n ∧ n - kk ≤ gg ∧ s7 = .int .i64 (kk : Int) ∧ Hid (∀ j, j < kk → isK k ks (l.getD j Ky.t0) = false) ∧ wr = w)
  case atStart => exact ⟨0, Nat.zero_le _, by omega, rfl, Lib.hid (fun j hj => absurd hj (Nat.not_lt_zero _)), rfl⟩
  case round =>
    obtain ⟨kk, hkk, hg, rfl, HJ, rfl⟩ := hrel
    by_cases hlt : kk < n
    · have hltz : (kk : Int) < (n : Int) := by omega
      have hk0 : (0 : Int) ≤ (kk : Int) := by omega
      obtain ⟨b, off, rfl, _, h1⟩ := EnR.three H.out hlt
      obtain ⟨q0, q1, q2⟩ := h1 wr (Below.refl _ _)
      have HY := Lib.hid (fun h => any_yes (l := l) (f := isK k ks) (k := kk) (by rw [HL.out]; exact hlt) h)
      have HN : Hid (isK k ks (l.getD kk Ky.t0) = false → ∀ j, j < kk + 1 → isK k ks (l.getD j Ky.t0) = false) := Lib.hid (fun h j hj => by
        by_cases e : j = kk
        · subst e; exact h
        · exact HJ.out j (by omega))
      clear h1
      generalize l.getD kk Ky.t0 = q at q0 q1 q2 HY HN
      by_cases z1 : q.k = k
      · have z1' : (q.k == k) = true := beq_iff_eq.2 z1
        by_cases z2 : q.key.toList = ks.toList
        · have HE := Lib.hid (HY.out (decide_eq_true ⟨z1, z2⟩))
          have z2' : (q.key.toList == ks.toList) = true := beq_iff_eq.2 z2
          generalize q.k = x at q0 z1'
          generalize q.key = y at q1 z2'
          clear HY HN z1 z2
          go_wp2
          go_ret
          exact ⟨ret_bl HE.out.symm, rfl⟩
        · have HE := Lib.hid (HN.out (decide_eq_false (fun h => z2 h.2)))
          have z2' : (q.key.toList == ks.toList) = false := beq_eq_false_iff_ne.2 z2
          generalize q.k = x at q0 z1'
          generalize q.key = y at q1 z2'
          clear HY HN z1 z2
          go_wp2
          go_roundg (n - (kk + 1))
          case measure => omega
          case rel => exact ⟨kk + 1, by omega, by omega, by go_num, HE, rfl⟩
      · have HE := Lib.hid (HN.out (decide_eq_false (fun h => z1 h.1)))
        have z1' : (q.k == k) = false := beq_eq_false_iff_ne.2 z1
        generalize q.k = x at q0 z1'
        clear HY HN z1
        go_wp2
        go_roundg (n - (kk + 1))
        case measure => omega
        case rel => exact ⟨kk + 1, by omega, by omega, by go_num, HE, rfl⟩
    · have hltz : ¬ (kk : Int) < (n : Int) := by omega
      have HE := Lib.hid (any_no (l := l) (f := isK k ks) (fun j hj => HJ.out j (by rw [HL.out] at hj; omega)))
      go_wp2
      go_ret
      exact ⟨ret_bl HE.out.symm, rfl⟩
theorem ahead27 (p q : Ky.Rc) (w : World) : Calls Try.prog 27 #[.int .i64 p.k, .string p.key, .int .i64 q.k, .string q.key] w fun e w' => e = .returned (.bool (decide (Ky.ltK p q))) ∧ w' = w := by
  have HD := Lib.hid (show decide (Ky.ltK p q) = decide (p.k < q.k ∨ (p.k = q.k ∧ p.key.toList < q.key.toList)) from decide_eq_decide.2 Iff.rfl)
  generalize decide (Ky.ltK p q) = r at HD ⊢
  rcases Int.lt_trichotomy p.k q.k with h | h | h
  · have HE := Lib.hid (show r = true by rw [HD.out]; exact decide_eq_true (.inl h))
    generalize p.k = x at h ⊢
    go_enter Try.func27, Try.ntmps27
    go_wp2
    go_ret
    exact ⟨ret_bl HE.out.symm, rfl⟩
  · have z1 : ¬ p.k < q.k := by omega
    have z2 : (p.k == q.k) = true := beq_iff_eq.2 h
    by_cases hy : p.key.toList < q.key.toList
    · have HE := Lib.hid (show r = true by rw [HD.out]; exact decide_eq_true (.inr ⟨h, hy⟩))
      have z3 : Op.bytesLess p.key.toList q.key.toList = true := by rw [bytesLess_eq]; exact decide_eq_true hy
      generalize p.k = x at z1 z2 ⊢
      generalize q.k = x2 at z1 z2 ⊢
      clear h hy HD
      go_enter Try.func27, Try.ntmps27
      go_wp2
      go_ret
      exact ⟨ret_bl HE.out.symm, rfl⟩
    · have HE := Lib.hid (show r = false by rw [HD.out]; exact decide_eq_false (by rintro (a | ⟨_, a⟩); exact z1 a; exact hy a))
      have z3 : Op.bytesLess p.key.toList q.key.toList = false := by rw [bytesLess_eq]; exact decide_eq_false hy
      generalize p.k = x at z1 z2 ⊢
      generalize q.k = x2 at z1 z2 ⊢
      clear h hy HD
      go_enter Try.func27, Try.ntmps27
      go_wp2
      go_ret
      exact ⟨ret_bl HE.out.symm, rfl⟩
  · have HE := Lib.hid (show r = false by rw [HD.out]; exact decide_eq_false (by rintro (a | ⟨a, _⟩) <;> omega))
    have z1 : ¬ p.k < q.k := by omega
    have z2 : (p.k == q.k) = false := beq_eq_false_iff_ne.2 (by omega)
    generalize p.k = x at z1 z2 ⊢
    generalize q.k = x2 at z1 z2 ⊢
    clear h HD
    go_enter Try.func27, Try.ntmps27
    go_wp2
    go_ret
    exact ⟨ret_bl HE.out.symm, rfl⟩
set_option maxHeartbeats 4000000 in
theorem sel32 (p : Ky.Rc) (kb : Nat) (q : Ky.Rc) (w : World) (h : Blk w kb (Ky.enc q) 64) : Calls Try.prog 32 #[.agg #[.int .i64 p.k, .string p.key, .int .i64 p.id], .pointer (some ⟨kb, 0, none⟩)] w fun e w' => e = .returned (.bool (isK q.k q.key p)) ∧ Below w.heap.size w w' := by
  have hlt := h.lt
  have q0 := h.cell (i := 0) (v := .int .i64 q.k) rfl
  have q1 := h.cell (i := 1) (v := .string q.key) rfl
  have BA := Lib.hid ((Below.refl w.heap.size w).alloc (Nat.le_refl _) (.cells #[.int .i64 p.k, .string p.key, .int .i64 p.id] 56))
  clear h
  by_cases z1 : p.k = q.k
  · have z1' : (p.k == q.k) = true := beq_iff_eq.2 z1
    by_cases z2 : p.key.toList = q.key.toList
    · have HE := Lib.hid (show isK q.k q.key p = true from decide_eq_true ⟨z1, z2⟩)
      have z2' : (p.key.toList == q.key.toList) = true := beq_iff_eq.2 z2
      generalize isK q.k q.key p = r at HE ⊢
      generalize p.k = x at BA z1' ⊢
      generalize q.k = x2 at q0 z1' ⊢
      clear z1 z2
      go_enter Try.func32, Try.ntmps32
      go_wp2
      go_ret
      exact ⟨ret_bl HE.out.symm, BA.out⟩
    · have HE := Lib.hid (show isK q.k q.key p = false from decide_eq_false (fun h => z2 h.2))
      have z2' : (p.key.toList == q.key.toList) = false := beq_eq_false_iff_ne.2 z2
      generalize isK q.k q.key p = r at HE ⊢
      generalize p.k = x at BA z1' ⊢
      generalize q.k = x2 at q0 z1' ⊢
      clear z1 z2
      go_enter Try.func32, Try.ntmps32
      go_wp2
      go_ret
      exact ⟨ret_bl HE.out.symm, BA.out⟩
  · have HE := Lib.hid (show isK q.k q.key p = false from decide_eq_false (fun h => z1 h.1))
    have z1' : (p.k == q.k) = false := beq_eq_false_iff_ne.2 z1
    generalize isK q.k q.key p = r at HE ⊢
    generalize p.k = x at BA z1' ⊢
    generalize q.k = x2 at q0 z1' ⊢
    clear z1
    go_enter Try.func32, Try.ntmps32
    go_wp2
    go_ret
    exact ⟨ret_bl HE.out.symm, BA.out⟩
/-- The place of the first entry of a kind and key, or -1. -/
def fstI (l : List Ky.Rc) (f : Ky.Rc → Bool) : Int := match (List.range l.length).find? (fun j => f (l.getD j Ky.t0)) with
  | some j => (j : Int)
  | none => -1
theorem fst_at {l : List Ky.Rc} {f : Ky.Rc → Bool} {k : Nat} (hk : k < l.length) (h : f (l.getD k Ky.t0) = true) (hn : ∀ j, j < k → f (l.getD j Ky.t0) = false) : fstI l f = k := by
  unfold fstI
  have : (List.range l.length).find? (fun j => f (l.getD j Ky.t0)) = some k := by
    rw [List.find?_eq_some_iff_getElem]
    refine ⟨h, k, by simpa using hk, by simp, fun j hj => ?_⟩
    have := hn j hj
    simp only [List.getElem_range]
    rw [this]; rfl
  rw [this]
theorem fst_no {l : List Ky.Rc} {f : Ky.Rc → Bool} (hn : ∀ j, j < l.length → f (l.getD j Ky.t0) = false) : fstI l f = -1 := by
  unfold fstI
  have : (List.range l.length).find? (fun j => f (l.getD j Ky.t0)) = none := by
    rw [List.find?_eq_none]
    intro j hj
    rw [hn j (by simpa using hj)]; decide
  rw [this]
theorem ret_i6 {a b : Int} (h : a = b) : Ending.returned (.int .i64 a) = .returned (.int .i64 b) := by rw [h]
set_option maxRecDepth 100000 in
set_option maxHeartbeats 4000000 in
theorem index31 (A : Option Addr) (n c : Nat) (l : List Ky.Rc) (kb : Nat) (q : Ky.Rc) (w : World) (h : EnR w A n c l) (hn : n ≤ 1000000) (hk : Blk w kb (Ky.enc q) 64) : Calls Try.prog 31 #[.slice A n c, .func (.func 32) #[] #[.pointer (some ⟨kb, 0, none⟩)]] w fun e w' => e = .returned (.int .i64 (fstI l (isK q.k q.key))) ∧ Below w.heap.size w w' := by
  have H := Lib.hid h
  have HL := Lib.hid (show l.length = n by have := h.len; rwa [List.length_map] at this)
  have HP := Lib.hid (fun p v (hb : Below w.heap.size w v) => sel32 p kb q v (hk.below hb))
  clear h hk
  go_enter Try.func31, Try.ntmps31
  go_wp2
  go_loopg [5, 8] n (fun gg _ s8 wr => ∃ kk : Nat, kk ≤ n ∧ n - kk ≤ gg ∧ s8 = .int .i64 (kk : Int) ∧ Hid (∀ j, j < kk → isK q.k q.key (l.getD j Ky.t0) = false) ∧ Hid (Below w.heap.size w wr))
  case atStart => exact ⟨0, Nat.zero_le _, by omega, rfl, Lib.hid (fun j hj => absurd hj (Nat.not_lt_zero _)), Lib.hid (Below.refl _ _)⟩
  case round =>
    obtain ⟨kk, hkk, hg, rfl, HJ, BW⟩ := hrel
    by_cases hlt : kk < n
    · have hltz : (kk : Int) < (n : Int) := by omega
      have hk0 : (0 : Int) ≤ (kk : Int) := by omega
      obtain ⟨b, off, rfl, _, h1⟩ := EnR.three (H.out.below BW.out) hlt
      obtain ⟨q0, q1, q2⟩ := h1 wr (Below.refl _ _)
      have HY := Lib.hid (fun h => fst_at (l := l) (f := isK q.k q.key) (k := kk) (by rw [HL.out]; exact hlt) h HJ.out)
      have HN : Hid (isK q.k q.key (l.getD kk Ky.t0) = false → ∀ j, j < kk + 1 → isK q.k q.key (l.getD j Ky.t0) = false) := Lib.hid (fun h j hj => by
        by_cases e : j = kk
        · subst e; exact h
        · exact HJ.out j (by omega))
      clear h1
      generalize l.getD kk Ky.t0 = p at q0 q1 q2 HY HN
      have HC := Lib.hid (HP.out p wr BW.out)
      cases hb : isK q.k q.key p with
      | true =>
        rw [hb] at HC
        have HE := Lib.hid (HY.out hb)
        clear HY HN hb
        go_wp2_with (first
          | (go_at_call 32; (with_reducible refine HC.out.mono ?_); rintro e w3 ⟨rfl, hb⟩; have B3 := Lib.hid (BW.out.trans (hb.mono BW.out.size)); clear hb)
          | go_in)
        go_ret
        exact ⟨ret_i6 HE.out.symm, B3.out⟩
      | false =>
        rw [hb] at HC
        have HE := Lib.hid (HN.out hb)
        clear HY HN hb
        go_wp2_with (first
          | (go_at_call 32; (with_reducible refine HC.out.mono ?_); rintro e w3 ⟨rfl, hb⟩; have B3 := Lib.hid (BW.out.trans (hb.mono BW.out.size)); clear hb)
          | go_in)
        go_roundg (n - (kk + 1))
        case measure => omega
        case rel => exact ⟨kk + 1, by omega, by omega, by go_num, HE, B3⟩
    · have hltz : ¬ (kk : Int) < (n : Int) := by omega
      have HE := Lib.hid (fst_no (l := l) (f := isK q.k q.key) (fun j hj => HJ.out j (by rw [HL.out] at hj; omega)))
      go_wp2
      go_ret
      exact ⟨ret_i6 HE.out.symm, BW.out⟩
end Go.Proofs.Ytbedibiodlgegaa
