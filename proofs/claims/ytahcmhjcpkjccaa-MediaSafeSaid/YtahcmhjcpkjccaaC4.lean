/- Media: Check of both. Bound: at most 900000 files. -/
import Derived.Test.YtahcmhjcpkjccaaC3
import Derived.Deep.QuietTactic
import Derived.BigQuiet
namespace Go.Proofs.Ytahcmhjcpkjccaa
open Go.RowKit
set_option linter.unusedVariables false
set_option linter.unusedSimpArgs false

theorem bytesLess_eq : ∀ (x y : List UInt8), Op.bytesLess x y = decide (x < y)
  | [], [] => by simp [Op.bytesLess]
  | _ :: _, [] => by simp [Op.bytesLess]
  | [], _ :: _ => by simp [Op.bytesLess]
  | a :: x, b :: y => by
    rw [Op.bytesLess, bytesLess_eq x y]
    simp only [List.cons_lt_cons_iff]
    by_cases h1 : a < b <;> by_cases h2 : a = b <;> by_cases h3 : x < y <;> simp [h1, h2, h3]
theorem tri {a b : List UInt8} (h : ¬ a < b) (hne : a ≠ b) : b < a := by
  by_cases h2 : b < a
  · exact h2
  · exact absurd (List.le_antisymm (List.not_lt.1 h2) (List.not_lt.1 h)) hne
/-- Both say the same of the order. -/
theorem ord_eq (p q : Rc) : decide (cmpR p q ≤ 0) = !bef q p.sv p.nm := by
  unfold cmpR bef cmpS orI
  rw [bytesLess_eq, bytesLess_eq, bytesLess_eq, bytesLess_eq]
  by_cases h1 : p.sv.toList < q.sv.toList
  · have h2 : ¬ q.sv.toList < p.sv.toList := List.lt_asymm h1
    have h3 : (q.sv.toList == p.sv.toList) = false := beq_eq_false_iff_ne.2 (fun e => by rw [e] at h1; exact List.lt_irrefl _ h1)
    simp [h1, h2, h3]
  · by_cases h2 : p.sv.toList = q.sv.toList
    · rw [h2]
      have h0 : ¬ q.sv.toList < q.sv.toList := List.lt_irrefl _
      by_cases h3 : p.nm.toList < q.nm.toList
      · have h4 : ¬ q.nm.toList < p.nm.toList := List.lt_asymm h3
        simp [h0, h3, h4]
      · by_cases h4 : p.nm.toList = q.nm.toList
        · rw [h4]
          have h5 : ¬ q.nm.toList < q.nm.toList := List.lt_irrefl _
          simp [h0, h5]
        · have h5 : q.nm.toList < p.nm.toList := tri h3 h4
          simp [h0, h3, h4, h5]
    · have h3 : q.sv.toList < p.sv.toList := tri h1 h2
      simp [h1, h2, h3]
/-- What is wrong at a place. -/
def stepM (zs : List Rc) (i : Nat) : Int := if fileE (zs.getD i t0) = 0 then (if 0 < i ∧ bef (zs.getD (i - 1) t0) (zs.getD i t0).sv (zs.getD i t0).nm = false then 8 else 0) else fileE (zs.getD i t0)
def chk (zs : List Rc) (n : Nat) : Int := (((List.range n).map (stepM zs)).find? (fun r => r != 0)).getD 0
theorem chk_at {zs : List Rc} {n k : Nat} {r : Int} (hk : k < n) (h : stepM zs k = r) (hr : r ≠ 0) (hn : ∀ j, j < k → stepM zs j = 0) : chk zs n = r := by
  unfold chk
  have : ((List.range n).map (stepM zs)).find? (fun r => r != 0) = some r := by
    rw [List.find?_map, List.find?_range_eq_some.2 ⟨(by simp [h, hr] : ((fun r => r != 0) ∘ stepM zs) k = true), by simpa using hk, fun j hj => by simp [hn j hj]⟩, Option.map_some, h]
  rw [this]; rfl
theorem chk_no {zs : List Rc} {n : Nat} (hn : ∀ j, j < n → stepM zs j = 0) : chk zs n = 0 := by
  unfold chk
  have : ((List.range n).map (stepM zs)).find? (fun r => r != 0) = none := by
    rw [List.find?_eq_none]
    intro x hx
    obtain ⟨j, hj, rfl⟩ := List.mem_map.1 hx
    rw [hn j (by simpa using hj)]
    decide
  rw [this]; rfl
set_option maxRecDepth 100000 in
set_option maxHeartbeats 4000000 in
theorem check13 (A : Option Addr) (n c : Nat) (zs : List Rc) (w : World) (h : Rcs w A n c zs) (hn : n ≤ 900000) : Calls Try.prog 13 #[.slice A n c] w fun e w' => e = .returned (.int .i64 (chk zs n)) ∧ Below w.heap.size w w' := by
  have H := Lib.hid h
  clear h
  go_enter Try.func13, Try.ntmps13
  go_wp2
  go_loopg [3, 4, 5, 8] n (fun gg _ _ _ s8 wr => ∃ kk : Nat, kk ≤ n ∧ n - kk ≤ gg ∧ s8 = .int .i64 kk ∧ Hid (∀ j, j < kk → stepM zs j = 0) ∧ Hid (Below w.heap.size w wr))
  case atStart => exact ⟨0, Nat.zero_le _, by omega, rfl, Lib.hid (fun j hj => absurd hj (Nat.not_lt_zero _)), Lib.hid (Below.refl _ _)⟩
  case round =>
    obtain ⟨kk, hkk, hg, rfl, HO, BW⟩ := hrel
    by_cases hlt : kk < n
    · have hltz : (kk : Int) < (n : Int) := by omega
      obtain ⟨b, off, eA, hbl, k0, k1, k2, k3, k4, hfit⟩ := (H.out.below BW.out).at_ hlt
      have HS := Lib.hid (show stepM zs kk = if fileE (zs.getD kk t0) = 0 then (if 0 < kk ∧ bef (zs.getD (kk - 1) t0) (zs.getD kk t0).sv (zs.getD kk t0).nm = false then 8 else 0) else fileE (zs.getD kk t0) from rfl)
      have HP := Lib.hid (fun (h : 0 < kk) u (hb : Below w.heap.size w u) => (H.out.below hb).get (k := kk - 1) (by omega))
      have HC := Lib.hid (fun u (hb : Below w.heap.size w u) => (H.out.below hb).at_ hlt)
      subst eA
      generalize zs.getD kk t0 = p at k0 k1 k2 k3 k4 hfit HS HC
      generalize zs.getD (kk - 1) t0 = pp at HS HP
      have BA := Lib.hid (BW.out.alloc BW.out.size (.cells #[.string p.sv, .string p.nm, .int .i64 p.sz, .int .i64 p.tt, .int .i64 p.st] 26))
      have XN := Lib.hid (blk_new wr [.string p.sv, .string p.nm, .int .i64 p.sz, .int .i64 p.tt, .int .i64 p.st] 26)
      have UC := Lib.hid (checkFile29 p hfit (wr.alloc (.cells #[.string p.sv, .string p.nm, .int .i64 p.sz, .int .i64 p.tt, .int .i64 p.st] 26)))
      generalize fileE p = r at UC HS
      by_cases hr : r = 0
      · subst hr
        by_cases hk0 : 0 < kk
        · have hgz : (0 : Int) < (kk : Int) := by omega
          have e1 : IntKind.i64.wrap ((kk : Int) - 1) = (kk : Int) - 1 := IntWalk.i64_in _ (by omega)
          have e2 : ((kk : Int) - 1).toNat = kk - 1 := by omega
          have e3 : (0 : Int) ≤ (kk : Int) - 1 := by omega
          have e4 : (kk : Int) - 1 < (n : Int) := by omega
          have e5 : (1 : Int) ≤ (kk : Int) := by omega
          cases ho : bef pp p.sv p.nm
          · have HF := Lib.hid (show stepM zs kk = 8 by rw [HS.out, if_pos rfl, if_pos ⟨hk0, ho⟩])
            go_upto_region 7 with (go_at_call 29; (with_reducible refine UC.out.mono ?_); rintro e w3 ⟨rfl, hb3⟩; have B3 := Lib.hid (BA.out.trans (hb3.mono BA.out.size)); have X3 := Lib.hid (XN.out.below hb3); clear hb3)
            have PR : Hid (∀ u, Below w3.heap.size w3 u → World.rangeAt u b (off + (kk - 1) * 5) (enc pp)) := Lib.hid (fun u hb => by
              obtain ⟨b2, off2, e5, _, hr2, _⟩ := HP.out hk0 u (B3.out.trans (hb.mono B3.out.size))
              simp only [Option.some.injEq, Addr.mk.injEq, and_true] at e5
              obtain ⟨rfl, rfl⟩ := e5
              exact hr2)
            have hol := ord_eq p pp
            rw [ho] at hol
            have hol2 := (show cmpR p pp ≤ 0 by simpa using hol)
            clear hol
            generalize hbx : wr.heap.size = bx at X3 ⊢
            clear hbx
            refine wp_region_held_drew (S := (fun w0 => Below w3.heap.size w3 w0)) (by kernel_rfl) ((Below.refl _ _).drew) (fun hH0 => ?_)
            generalize w3.drew = y0 at hH0 ⊢
            have RB0 : Hid (Below w3.heap.size w3 y0) := Lib.hid hH0
            refine wpAnyH_take (i := 0) (oi := ({ dst := some 18, op := Op.move (Operand.tmp 3), type := 3, pos := "media.go:50", after := #[], guard := none } : Oper)) (v := ?hv1) rfl (by kernel_rfl) (by kernel_rfl) (by kernel_rfl) (fun _ _ _ h => h) (Or.inl ⟨by rfl, ?hy1⟩) (by assumption) ?hr1
            case hy1 => (intro w hSw; (try dsimp only at hSw); go_simp; (try with_reducible rfl))
            try simp only [Act.put, List.setIfInBounds_toArray, List.set_cons_zero, List.set_cons_succ]
            refine wpAnyH_take (i := 1) (oi := ({ dst := some 19, op := Op.binOp BinOp.gtr 3 (Operand.tmp 18) (Operand.const (Value.int IntKind.i64 0)) 3, type := 4, pos := "media.go:50", after := #[{ on := 0, ground := Ground.data }], guard := none } : Oper)) (v := ?hv2) rfl (by kernel_rfl) (by kernel_rfl) (by kernel_rfl) (fun _ _ _ h => h) (Or.inl ⟨by rfl, ?hy2⟩) (by assumption) ?hr2
            case hy2 => (intro w hSw; (try dsimp only at hSw); go_simp; (try with_reducible rfl))
            try simp only [Act.put, List.setIfInBounds_toArray, List.set_cons_zero, List.set_cons_succ]
            refine wpAnyH_take (i := 2) (oi := ({ dst := some 20, op := Op.move (Operand.tmp 19), type := 4, pos := "media.go:50", after := #[{ on := 1, ground := Ground.data }], guard := none } : Oper)) (v := ?hv3) rfl (by kernel_rfl) (by kernel_rfl) (by kernel_rfl) (fun _ _ _ h => h) (Or.inl ⟨by rfl, ?hy3⟩) (by assumption) ?hr3
            case hy3 => (intro w hSw; (try dsimp only at hSw); go_simp; (try with_reducible rfl))
            try simp only [Act.put, List.setIfInBounds_toArray, List.set_cons_zero, List.set_cons_succ]
            refine wpAnyH_take (i := 3) (oi := ({ dst := some 21, op := Op.load 26 (Operand.tmp 4), type := 26, pos := "media.go:50", after := #[{ on := 2, ground := Ground.guard }], guard := some (2, true) } : Oper)) (v := .agg #[.string p.sv, .string p.nm, .int .i64 p.sz, .int .i64 p.tt, .int .i64 p.st]) rfl (by kernel_rfl) (by kernel_rfl) (by kernel_rfl) (fun _ _ _ h => h) (yieldsIf_load_mid (by rfl) 26 _ rfl bx 0 rfl [.string p.sv, .string p.nm, .int .i64 p.sz, .int .i64 p.tt, .int .i64 p.st] _ (fun w0 hw0 => (X3.out.below hw0).range) Try.underlying26 rfl size44) (by assumption) ?_
            try simp only [Act.put, List.setIfInBounds_toArray, List.set_cons_zero, List.set_cons_succ]
            refine wpAnyH_take (i := 4) (oi := ({ dst := some 22, op := Op.move (Operand.tmp 0), type := 22, pos := "media.go:50", after := #[{ on := 2, ground := Ground.guard }], guard := some (2, true) } : Oper)) (v := ?hv4) rfl (by kernel_rfl) (by kernel_rfl) (by kernel_rfl) (fun _ _ _ h => h) (Or.inl ⟨by rfl, ?hy4⟩) (by assumption) ?hr4
            case hy4 => (intro w hSw; (try dsimp only at hSw); go_simp; (try with_reducible rfl))
            try simp only [Act.put, List.setIfInBounds_toArray, List.set_cons_zero, List.set_cons_succ]
            refine wpAnyH_take (i := 5) (oi := ({ dst := some 23, op := Op.move (Operand.tmp 3), type := 3, pos := "media.go:50", after := #[{ on := 2, ground := Ground.guard }], guard := some (2, true) } : Oper)) (v := ?hv5) rfl (by kernel_rfl) (by kernel_rfl) (by kernel_rfl) (fun _ _ _ h => h) (Or.inl ⟨by rfl, ?hy5⟩) (by assumption) ?hr5
            case hy5 => (intro w hSw; (try dsimp only at hSw); go_simp; (try with_reducible rfl))
            try simp only [Act.put, List.setIfInBounds_toArray, List.set_cons_zero, List.set_cons_succ]
            refine wpAnyH_take (i := 6) (oi := ({ dst := some 24, op := Op.binOp BinOp.sub 3 (Operand.tmp 23) (Operand.const (Value.int IntKind.i64 1)) 3, type := 3, pos := "media.go:50", after := #[{ on := 5, ground := Ground.data }, { on := 2, ground := Ground.guard }], guard := some (2, true) } : Oper)) (v := ?hv6) rfl (by kernel_rfl) (by kernel_rfl) (by kernel_rfl) (fun _ _ _ h => h) (Or.inl ⟨by rfl, ?hy6⟩) (by assumption) ?hr6
            case hy6 => (intro w hSw; (try dsimp only at hSw); go_simp; (try with_reducible rfl))
            try simp only [Act.put, List.setIfInBounds_toArray, List.set_cons_zero, List.set_cons_succ]
            refine wpAnyH_take (i := 7) (oi := ({ dst := some 25, op := Op.indexAddr 22 (Operand.tmp 22) (Operand.tmp 24), type := 0, pos := "media.go:50", after := #[{ on := 4, ground := Ground.data }, { on := 6, ground := Ground.data }, { on := 2, ground := Ground.guard }], guard := some (2, true) } : Oper)) (v := ?hv7) rfl (by kernel_rfl) (by kernel_rfl) (by kernel_rfl) (fun _ _ _ h => h) (Or.inl ⟨by rfl, ?hy7⟩) (by assumption) ?hr7
            case hy7 => (intro w hSw; (try dsimp only at hSw); go_simp; (try with_reducible rfl))
            try simp only [Act.put, List.setIfInBounds_toArray, List.set_cons_zero, List.set_cons_succ]
            refine wpAnyH_take (i := 8) (oi := ({ dst := some 26, op := Op.load 26 (Operand.tmp 25), type := 26, pos := "media.go:50", after := #[{ on := 7, ground := Ground.data }, { on := 2, ground := Ground.guard }], guard := some (2, true) } : Oper)) (v := .agg #[.string pp.sv, .string pp.nm, .int .i64 pp.sz, .int .i64 pp.tt, .int .i64 pp.st]) rfl (by kernel_rfl) (by kernel_rfl) (by kernel_rfl) (fun _ _ _ h => h) (yieldsIf_load_mid (by rfl) 26 _ rfl b (off + (kk - 1) * 5) rfl [.string pp.sv, .string pp.nm, .int .i64 pp.sz, .int .i64 pp.tt, .int .i64 pp.st] _ (fun w0 hw0 => PR.out w0 hw0) Try.underlying26 rfl size44) (by assumption) ?_
            try simp only [Act.put, List.setIfInBounds_toArray, List.set_cons_zero, List.set_cons_succ]
            refine wpAnyH_ready (rs := [9]) (by kernel_rfl) (by simp) ?_
            refine AllReadyH.cons (o := ({ dst := some 27, op := Op.call { callee := Callee.value (Operand.func 30), args := #[Operand.tmp 21, Operand.tmp 26], argTypes := #[26, 26] }, type := 3, pos := "media.go:50", after := #[{ on := 3, ground := Ground.data }, { on := 8, ground := Ground.data }, { on := 2, ground := Ground.chain }, { on := 2, ground := Ground.guard }], guard := some (2, true) } : Oper)) rfl (fun KK hKK => ?_) AllReadyH.nil
            go_simp
            (with_reducible refine (compare30 p pp _).mono ?_)
            rintro e0 y1 ⟨rfl, hb⟩
            have RB1 := Lib.hid (RB0.out.trans (hb.mono RB0.out.size))
            clear hb
            refine hKK.out _ _ (RB1.out) (fun hH1 => ?_)
            clear hKK KK
            try simp only [Act.put, List.setIfInBounds_toArray, List.set_cons_zero, List.set_cons_succ]
            refine wpAnyH_take (i := 10) (oi := ({ dst := some 28, op := Op.binOp BinOp.leq 3 (Operand.tmp 27) (Operand.const (Value.int IntKind.i64 0)) 3, type := 4, pos := "media.go:50", after := #[{ on := 9, ground := Ground.data }, { on := 2, ground := Ground.guard }], guard := some (2, true) } : Oper)) (v := ?hv8) rfl (by kernel_rfl) (by kernel_rfl) (by kernel_rfl) (fun _ _ _ h => h) (Or.inl ⟨by rfl, ?hy8⟩) (by assumption) ?hr8
            case hy8 => (intro w hSw; (try dsimp only at hSw); go_simp; (try with_reducible rfl))
            try simp only [Act.put, List.setIfInBounds_toArray, List.set_cons_zero, List.set_cons_succ]
            refine wpAnyH_take (i := 11) (oi := ({ dst := some 29, op := Op.pick (Operand.tmp 20) (Operand.tmp 28) (Operand.const (Value.bool false)), type := 4, pos := "media.go:50", after := #[{ on := 2, ground := Ground.data }, { on := 10, ground := Ground.data }], guard := none } : Oper)) (v := ?hv9) rfl (by kernel_rfl) (by kernel_rfl) (by kernel_rfl) (fun _ _ _ h => h) (Or.inl ⟨by rfl, ?hy9⟩) (by assumption) ?hr9
            case hy9 => (intro w hSw; (try dsimp only at hSw); go_simp; (try with_reducible rfl))
            try simp only [Act.put, List.setIfInBounds_toArray, List.set_cons_zero, List.set_cons_succ]
            refine wpAnyH_done (by kernel_rfl) ?_ _
            go_wp2
            go_ret
            exact ⟨ret_i64 (chk_at hlt HF.out (by decide) HO.out).symm, B3.out.trans (RB1.out.mono B3.out.size)⟩
          · have HF := Lib.hid (show stepM zs kk = 0 by rw [HS.out, if_pos rfl, if_neg (by rw [ho]; rintro ⟨_, h⟩; cases h)])
            go_upto_region 7 with (go_at_call 29; (with_reducible refine UC.out.mono ?_); rintro e w3 ⟨rfl, hb3⟩; have B3 := Lib.hid (BA.out.trans (hb3.mono BA.out.size)); have X3 := Lib.hid (XN.out.below hb3); clear hb3)
            have PR : Hid (∀ u, Below w3.heap.size w3 u → World.rangeAt u b (off + (kk - 1) * 5) (enc pp)) := Lib.hid (fun u hb => by
              obtain ⟨b2, off2, e5, _, hr2, _⟩ := HP.out hk0 u (B3.out.trans (hb.mono B3.out.size))
              simp only [Option.some.injEq, Addr.mk.injEq, and_true] at e5
              obtain ⟨rfl, rfl⟩ := e5
              exact hr2)
            have hol := ord_eq p pp
            rw [ho] at hol
            have hol2 := (show 0 < cmpR p pp by simpa using hol)
            clear hol
            generalize hbx : wr.heap.size = bx at X3 ⊢
            clear hbx
            refine wp_region_held_drew (S := (fun w0 => Below w3.heap.size w3 w0)) (by kernel_rfl) ((Below.refl _ _).drew) (fun hH0 => ?_)
            generalize w3.drew = y0 at hH0 ⊢
            have RB0 : Hid (Below w3.heap.size w3 y0) := Lib.hid hH0
            refine wpAnyH_take (i := 0) (oi := ({ dst := some 18, op := Op.move (Operand.tmp 3), type := 3, pos := "media.go:50", after := #[], guard := none } : Oper)) (v := ?hv10) rfl (by kernel_rfl) (by kernel_rfl) (by kernel_rfl) (fun _ _ _ h => h) (Or.inl ⟨by rfl, ?hy10⟩) (by assumption) ?hr10
            case hy10 => (intro w hSw; (try dsimp only at hSw); go_simp; (try with_reducible rfl))
            try simp only [Act.put, List.setIfInBounds_toArray, List.set_cons_zero, List.set_cons_succ]
            refine wpAnyH_take (i := 1) (oi := ({ dst := some 19, op := Op.binOp BinOp.gtr 3 (Operand.tmp 18) (Operand.const (Value.int IntKind.i64 0)) 3, type := 4, pos := "media.go:50", after := #[{ on := 0, ground := Ground.data }], guard := none } : Oper)) (v := ?hv11) rfl (by kernel_rfl) (by kernel_rfl) (by kernel_rfl) (fun _ _ _ h => h) (Or.inl ⟨by rfl, ?hy11⟩) (by assumption) ?hr11
            case hy11 => (intro w hSw; (try dsimp only at hSw); go_simp; (try with_reducible rfl))
            try simp only [Act.put, List.setIfInBounds_toArray, List.set_cons_zero, List.set_cons_succ]
            refine wpAnyH_take (i := 2) (oi := ({ dst := some 20, op := Op.move (Operand.tmp 19), type := 4, pos := "media.go:50", after := #[{ on := 1, ground := Ground.data }], guard := none } : Oper)) (v := ?hv12) rfl (by kernel_rfl) (by kernel_rfl) (by kernel_rfl) (fun _ _ _ h => h) (Or.inl ⟨by rfl, ?hy12⟩) (by assumption) ?hr12
            case hy12 => (intro w hSw; (try dsimp only at hSw); go_simp; (try with_reducible rfl))
            try simp only [Act.put, List.setIfInBounds_toArray, List.set_cons_zero, List.set_cons_succ]
            refine wpAnyH_take (i := 3) (oi := ({ dst := some 21, op := Op.load 26 (Operand.tmp 4), type := 26, pos := "media.go:50", after := #[{ on := 2, ground := Ground.guard }], guard := some (2, true) } : Oper)) (v := .agg #[.string p.sv, .string p.nm, .int .i64 p.sz, .int .i64 p.tt, .int .i64 p.st]) rfl (by kernel_rfl) (by kernel_rfl) (by kernel_rfl) (fun _ _ _ h => h) (yieldsIf_load_mid (by rfl) 26 _ rfl bx 0 rfl [.string p.sv, .string p.nm, .int .i64 p.sz, .int .i64 p.tt, .int .i64 p.st] _ (fun w0 hw0 => (X3.out.below hw0).range) Try.underlying26 rfl size44) (by assumption) ?_
            try simp only [Act.put, List.setIfInBounds_toArray, List.set_cons_zero, List.set_cons_succ]
            refine wpAnyH_take (i := 4) (oi := ({ dst := some 22, op := Op.move (Operand.tmp 0), type := 22, pos := "media.go:50", after := #[{ on := 2, ground := Ground.guard }], guard := some (2, true) } : Oper)) (v := ?hv13) rfl (by kernel_rfl) (by kernel_rfl) (by kernel_rfl) (fun _ _ _ h => h) (Or.inl ⟨by rfl, ?hy13⟩) (by assumption) ?hr13
            case hy13 => (intro w hSw; (try dsimp only at hSw); go_simp; (try with_reducible rfl))
            try simp only [Act.put, List.setIfInBounds_toArray, List.set_cons_zero, List.set_cons_succ]
            refine wpAnyH_take (i := 5) (oi := ({ dst := some 23, op := Op.move (Operand.tmp 3), type := 3, pos := "media.go:50", after := #[{ on := 2, ground := Ground.guard }], guard := some (2, true) } : Oper)) (v := ?hv14) rfl (by kernel_rfl) (by kernel_rfl) (by kernel_rfl) (fun _ _ _ h => h) (Or.inl ⟨by rfl, ?hy14⟩) (by assumption) ?hr14
            case hy14 => (intro w hSw; (try dsimp only at hSw); go_simp; (try with_reducible rfl))
            try simp only [Act.put, List.setIfInBounds_toArray, List.set_cons_zero, List.set_cons_succ]
            refine wpAnyH_take (i := 6) (oi := ({ dst := some 24, op := Op.binOp BinOp.sub 3 (Operand.tmp 23) (Operand.const (Value.int IntKind.i64 1)) 3, type := 3, pos := "media.go:50", after := #[{ on := 5, ground := Ground.data }, { on := 2, ground := Ground.guard }], guard := some (2, true) } : Oper)) (v := ?hv15) rfl (by kernel_rfl) (by kernel_rfl) (by kernel_rfl) (fun _ _ _ h => h) (Or.inl ⟨by rfl, ?hy15⟩) (by assumption) ?hr15
            case hy15 => (intro w hSw; (try dsimp only at hSw); go_simp; (try with_reducible rfl))
            try simp only [Act.put, List.setIfInBounds_toArray, List.set_cons_zero, List.set_cons_succ]
            refine wpAnyH_take (i := 7) (oi := ({ dst := some 25, op := Op.indexAddr 22 (Operand.tmp 22) (Operand.tmp 24), type := 0, pos := "media.go:50", after := #[{ on := 4, ground := Ground.data }, { on := 6, ground := Ground.data }, { on := 2, ground := Ground.guard }], guard := some (2, true) } : Oper)) (v := ?hv16) rfl (by kernel_rfl) (by kernel_rfl) (by kernel_rfl) (fun _ _ _ h => h) (Or.inl ⟨by rfl, ?hy16⟩) (by assumption) ?hr16
            case hy16 => (intro w hSw; (try dsimp only at hSw); go_simp; (try with_reducible rfl))
            try simp only [Act.put, List.setIfInBounds_toArray, List.set_cons_zero, List.set_cons_succ]
            refine wpAnyH_take (i := 8) (oi := ({ dst := some 26, op := Op.load 26 (Operand.tmp 25), type := 26, pos := "media.go:50", after := #[{ on := 7, ground := Ground.data }, { on := 2, ground := Ground.guard }], guard := some (2, true) } : Oper)) (v := .agg #[.string pp.sv, .string pp.nm, .int .i64 pp.sz, .int .i64 pp.tt, .int .i64 pp.st]) rfl (by kernel_rfl) (by kernel_rfl) (by kernel_rfl) (fun _ _ _ h => h) (yieldsIf_load_mid (by rfl) 26 _ rfl b (off + (kk - 1) * 5) rfl [.string pp.sv, .string pp.nm, .int .i64 pp.sz, .int .i64 pp.tt, .int .i64 pp.st] _ (fun w0 hw0 => PR.out w0 hw0) Try.underlying26 rfl size44) (by assumption) ?_
            try simp only [Act.put, List.setIfInBounds_toArray, List.set_cons_zero, List.set_cons_succ]
            refine wpAnyH_ready (rs := [9]) (by kernel_rfl) (by simp) ?_
            refine AllReadyH.cons (o := ({ dst := some 27, op := Op.call { callee := Callee.value (Operand.func 30), args := #[Operand.tmp 21, Operand.tmp 26], argTypes := #[26, 26] }, type := 3, pos := "media.go:50", after := #[{ on := 3, ground := Ground.data }, { on := 8, ground := Ground.data }, { on := 2, ground := Ground.chain }, { on := 2, ground := Ground.guard }], guard := some (2, true) } : Oper)) rfl (fun KK hKK => ?_) AllReadyH.nil
            go_simp
            (with_reducible refine (compare30 p pp _).mono ?_)
            rintro e0 y1 ⟨rfl, hb⟩
            have RB1 := Lib.hid (RB0.out.trans (hb.mono RB0.out.size))
            clear hb
            refine hKK.out _ _ (RB1.out) (fun hH1 => ?_)
            clear hKK KK
            try simp only [Act.put, List.setIfInBounds_toArray, List.set_cons_zero, List.set_cons_succ]
            refine wpAnyH_take (i := 10) (oi := ({ dst := some 28, op := Op.binOp BinOp.leq 3 (Operand.tmp 27) (Operand.const (Value.int IntKind.i64 0)) 3, type := 4, pos := "media.go:50", after := #[{ on := 9, ground := Ground.data }, { on := 2, ground := Ground.guard }], guard := some (2, true) } : Oper)) (v := ?hv17) rfl (by kernel_rfl) (by kernel_rfl) (by kernel_rfl) (fun _ _ _ h => h) (Or.inl ⟨by rfl, ?hy17⟩) (by assumption) ?hr17
            case hy17 => (intro w hSw; (try dsimp only at hSw); go_simp; (try with_reducible rfl))
            try simp only [Act.put, List.setIfInBounds_toArray, List.set_cons_zero, List.set_cons_succ]
            refine wpAnyH_take (i := 11) (oi := ({ dst := some 29, op := Op.pick (Operand.tmp 20) (Operand.tmp 28) (Operand.const (Value.bool false)), type := 4, pos := "media.go:50", after := #[{ on := 2, ground := Ground.data }, { on := 10, ground := Ground.data }], guard := none } : Oper)) (v := ?hv18) rfl (by kernel_rfl) (by kernel_rfl) (by kernel_rfl) (fun _ _ _ h => h) (Or.inl ⟨by rfl, ?hy18⟩) (by assumption) ?hr18
            case hy18 => (intro w hSw; (try dsimp only at hSw); go_simp; (try with_reducible rfl))
            try simp only [Act.put, List.setIfInBounds_toArray, List.set_cons_zero, List.set_cons_succ]
            refine wpAnyH_done (by kernel_rfl) ?_ _
            go_wp2
            go_roundg (n - (kk + 1))
            case measure => omega
            case rel =>
              refine ⟨kk + 1, by omega, by omega, by go_num, Lib.hid (fun j hj => ?_), Lib.hid (B3.out.trans (RB1.out.mono B3.out.size))⟩
              by_cases e : j = kk
              · subst e; exact HF.out
              · exact HO.out j (by omega)
        · have hgz : ¬ (0 : Int) < (kk : Int) := by omega
          have HF := Lib.hid (show stepM zs kk = 0 by rw [HS.out, if_pos rfl, if_neg (by rintro ⟨h, _⟩; exact hk0 h)])
          go_upto_region 7 with (go_at_call 29; (with_reducible refine UC.out.mono ?_); rintro e w3 ⟨rfl, hb3⟩; have B3 := Lib.hid (BA.out.trans (hb3.mono BA.out.size)); have X3 := Lib.hid (XN.out.below hb3); clear hb3)
          refine wp_region_held_drew (S := (fun w0 => Below w3.heap.size w3 w0)) (by kernel_rfl) ((Below.refl _ _).drew) (fun hH0 => ?_)
          generalize w3.drew = y0 at hH0 ⊢
          have RB0 : Hid (Below w3.heap.size w3 y0) := Lib.hid hH0
          refine wpAnyH_take (i := 0) (oi := ({ dst := some 18, op := Op.move (Operand.tmp 3), type := 3, pos := "media.go:50", after := #[], guard := none } : Oper)) (v := ?hv19) rfl (by kernel_rfl) (by kernel_rfl) (by kernel_rfl) (fun _ _ _ h => h) (Or.inl ⟨by rfl, ?hy19⟩) (by assumption) ?hr19
          case hy19 => (intro w hSw; (try dsimp only at hSw); go_simp; (try with_reducible rfl))
          try simp only [Act.put, List.setIfInBounds_toArray, List.set_cons_zero, List.set_cons_succ]
          refine wpAnyH_take (i := 1) (oi := ({ dst := some 19, op := Op.binOp BinOp.gtr 3 (Operand.tmp 18) (Operand.const (Value.int IntKind.i64 0)) 3, type := 4, pos := "media.go:50", after := #[{ on := 0, ground := Ground.data }], guard := none } : Oper)) (v := ?hv20) rfl (by kernel_rfl) (by kernel_rfl) (by kernel_rfl) (fun _ _ _ h => h) (Or.inl ⟨by rfl, ?hy20⟩) (by assumption) ?hr20
          case hy20 => (intro w hSw; (try dsimp only at hSw); go_simp; (try with_reducible rfl))
          try simp only [Act.put, List.setIfInBounds_toArray, List.set_cons_zero, List.set_cons_succ]
          refine wpAnyH_take (i := 2) (oi := ({ dst := some 20, op := Op.move (Operand.tmp 19), type := 4, pos := "media.go:50", after := #[{ on := 1, ground := Ground.data }], guard := none } : Oper)) (v := ?hv21) rfl (by kernel_rfl) (by kernel_rfl) (by kernel_rfl) (fun _ _ _ h => h) (Or.inl ⟨by rfl, ?hy21⟩) (by assumption) ?hr21
          case hy21 => (intro w hSw; (try dsimp only at hSw); go_simp; (try with_reducible rfl))
          try simp only [Act.put, List.setIfInBounds_toArray, List.set_cons_zero, List.set_cons_succ]
          refine wpAnyH_take (i := 3) (oi := ({ dst := some 21, op := Op.load 26 (Operand.tmp 4), type := 26, pos := "media.go:50", after := #[{ on := 2, ground := Ground.guard }], guard := some (2, true) } : Oper)) (v := undef) rfl (by kernel_rfl) (by kernel_rfl) (by kernel_rfl) (fun _ _ _ h => h) (Or.inr ⟨by rfl, rfl⟩) (by assumption) ?_
          try simp only [Act.put, List.setIfInBounds_toArray, List.set_cons_zero, List.set_cons_succ]
          refine wpAnyH_take (i := 4) (oi := ({ dst := some 22, op := Op.move (Operand.tmp 0), type := 22, pos := "media.go:50", after := #[{ on := 2, ground := Ground.guard }], guard := some (2, true) } : Oper)) (v := undef) rfl (by kernel_rfl) (by kernel_rfl) (by kernel_rfl) (fun _ _ _ h => h) (Or.inr ⟨by rfl, rfl⟩) (by assumption) ?_
          try simp only [Act.put, List.setIfInBounds_toArray, List.set_cons_zero, List.set_cons_succ]
          refine wpAnyH_take (i := 5) (oi := ({ dst := some 23, op := Op.move (Operand.tmp 3), type := 3, pos := "media.go:50", after := #[{ on := 2, ground := Ground.guard }], guard := some (2, true) } : Oper)) (v := undef) rfl (by kernel_rfl) (by kernel_rfl) (by kernel_rfl) (fun _ _ _ h => h) (Or.inr ⟨by rfl, rfl⟩) (by assumption) ?_
          try simp only [Act.put, List.setIfInBounds_toArray, List.set_cons_zero, List.set_cons_succ]
          refine wpAnyH_take (i := 6) (oi := ({ dst := some 24, op := Op.binOp BinOp.sub 3 (Operand.tmp 23) (Operand.const (Value.int IntKind.i64 1)) 3, type := 3, pos := "media.go:50", after := #[{ on := 5, ground := Ground.data }, { on := 2, ground := Ground.guard }], guard := some (2, true) } : Oper)) (v := undef) rfl (by kernel_rfl) (by kernel_rfl) (by kernel_rfl) (fun _ _ _ h => h) (Or.inr ⟨by rfl, rfl⟩) (by assumption) ?_
          try simp only [Act.put, List.setIfInBounds_toArray, List.set_cons_zero, List.set_cons_succ]
          refine wpAnyH_take (i := 7) (oi := ({ dst := some 25, op := Op.indexAddr 22 (Operand.tmp 22) (Operand.tmp 24), type := 0, pos := "media.go:50", after := #[{ on := 4, ground := Ground.data }, { on := 6, ground := Ground.data }, { on := 2, ground := Ground.guard }], guard := some (2, true) } : Oper)) (v := undef) rfl (by kernel_rfl) (by kernel_rfl) (by kernel_rfl) (fun _ _ _ h => h) (Or.inr ⟨by rfl, rfl⟩) (by assumption) ?_
          try simp only [Act.put, List.setIfInBounds_toArray, List.set_cons_zero, List.set_cons_succ]
          refine wpAnyH_take (i := 8) (oi := ({ dst := some 26, op := Op.load 26 (Operand.tmp 25), type := 26, pos := "media.go:50", after := #[{ on := 7, ground := Ground.data }, { on := 2, ground := Ground.guard }], guard := some (2, true) } : Oper)) (v := undef) rfl (by kernel_rfl) (by kernel_rfl) (by kernel_rfl) (fun _ _ _ h => h) (Or.inr ⟨by rfl, rfl⟩) (by assumption) ?_
          try simp only [Act.put, List.setIfInBounds_toArray, List.set_cons_zero, List.set_cons_succ]
          refine wpAnyH_ready (rs := [9]) (by kernel_rfl) (by simp) ?_
          refine AllReadyH.cons (o := ({ dst := some 27, op := Op.call { callee := Callee.value (Operand.func 30), args := #[Operand.tmp 21, Operand.tmp 26], argTypes := #[26, 26] }, type := 3, pos := "media.go:50", after := #[{ on := 3, ground := Ground.data }, { on := 8, ground := Ground.data }, { on := 2, ground := Ground.chain }, { on := 2, ground := Ground.guard }], guard := some (2, true) } : Oper)) rfl (fun KK hKK => ?_) AllReadyH.nil
          go_simp
          refine hKK.out _ _ (hH0) (fun hH1 => ?_)
          clear hKK KK
          try simp only [Act.put, List.setIfInBounds_toArray, List.set_cons_zero, List.set_cons_succ]
          refine wpAnyH_take (i := 10) (oi := ({ dst := some 28, op := Op.binOp BinOp.leq 3 (Operand.tmp 27) (Operand.const (Value.int IntKind.i64 0)) 3, type := 4, pos := "media.go:50", after := #[{ on := 9, ground := Ground.data }, { on := 2, ground := Ground.guard }], guard := some (2, true) } : Oper)) (v := undef) rfl (by kernel_rfl) (by kernel_rfl) (by kernel_rfl) (fun _ _ _ h => h) (Or.inr ⟨by rfl, rfl⟩) (by assumption) ?_
          try simp only [Act.put, List.setIfInBounds_toArray, List.set_cons_zero, List.set_cons_succ]
          refine wpAnyH_take (i := 11) (oi := ({ dst := some 29, op := Op.pick (Operand.tmp 20) (Operand.tmp 28) (Operand.const (Value.bool false)), type := 4, pos := "media.go:50", after := #[{ on := 2, ground := Ground.data }, { on := 10, ground := Ground.data }], guard := none } : Oper)) (v := ?hv22) rfl (by kernel_rfl) (by kernel_rfl) (by kernel_rfl) (fun _ _ _ h => h) (Or.inl ⟨by rfl, ?hy22⟩) (by assumption) ?hr22
          case hy22 => (intro w hSw; (try dsimp only at hSw); go_simp; (try with_reducible rfl))
          try simp only [Act.put, List.setIfInBounds_toArray, List.set_cons_zero, List.set_cons_succ]
          refine wpAnyH_done (by kernel_rfl) ?_ _
          go_wp2
          go_roundg (n - (kk + 1))
          case measure => omega
          case rel =>
            refine ⟨kk + 1, by omega, by omega, by go_num, Lib.hid (fun j hj => ?_), Lib.hid (B3.out.trans (RB0.out.mono B3.out.size))⟩
            by_cases e : j = kk
            · subst e; exact HF.out
            · exact HO.out j (by omega)
      · have hrb : (r != 0) = true := by simpa using hr
        have hrc : (r == 0) = false := by simpa using hr
        have HF := Lib.hid (show stepM zs kk = r by rw [HS.out, if_neg hr])
        have HR := Lib.hid hr
        clear hr HS HP HC
        go_wp2_with (go_at_call 29; (with_reducible refine UC.out.mono ?_); rintro e w3 ⟨rfl, hb3⟩; have B3 := Lib.hid (BA.out.trans (hb3.mono BA.out.size)); have X3 := Lib.hid (XN.out.below hb3); clear hb3)
        go_ret
        exact ⟨ret_i64 (chk_at hlt HF.out HR.out HO.out).symm, B3.out⟩
    · have hltz : ¬ (kk : Int) < (n : Int) := by omega
      obtain rfl : kk = n := by omega
      have HF := Lib.hid (chk_no HO.out)
      go_wp2
      go_ret
      exact ⟨ret_i64 HF.out.symm, BW.out⟩
set_option maxRecDepth 100000 in
set_option maxHeartbeats 4000000 in
theorem check14 (A : Option Addr) (n c : Nat) (zs : List Rc) (w : World) (h : Rcs w A n c zs) (hn : n ≤ 900000) : Calls Try.prog 14 #[.slice A n c] w fun e w' => e = .returned (.int .i64 (chk zs n)) ∧ Below w.heap.size w w' := by
  have H := Lib.hid h
  clear h
  go_enter Try.func14, Try.ntmps14
  go_wp2
  go_loopg [3, 4] n (fun gg s3 _ wr => ∃ kk : Nat, kk ≤ n ∧ n - kk ≤ gg ∧ s3 = .int .i64 kk ∧ Hid (∀ j, j < kk → stepM zs j = 0) ∧ Hid (Below w.heap.size w wr))
  case atStart => exact ⟨0, Nat.zero_le _, by omega, rfl, Lib.hid (fun j hj => absurd hj (Nat.not_lt_zero _)), Lib.hid (Below.refl _ _)⟩
  case round =>
    obtain ⟨kk, hkk, hg, rfl, HO, BW⟩ := hrel
    by_cases hlt : kk < n
    · have hltz : (kk : Int) < (n : Int) := by omega
      obtain ⟨b, off, eA, hbl, k0, k1, k2, k3, k4, hfit⟩ := (H.out.below BW.out).at_ hlt
      have HS := Lib.hid (show stepM zs kk = if fileE (zs.getD kk t0) = 0 then (if 0 < kk ∧ bef (zs.getD (kk - 1) t0) (zs.getD kk t0).sv (zs.getD kk t0).nm = false then 8 else 0) else fileE (zs.getD kk t0) from rfl)
      have HP := Lib.hid (fun (h : 0 < kk) u (hb : Below w.heap.size w u) => (H.out.below hb).get (k := kk - 1) (by omega))
      have HC := Lib.hid (fun u (hb : Below w.heap.size w u) => (H.out.below hb).at_ hlt)
      subst eA
      generalize zs.getD kk t0 = p at k0 k1 k2 k3 k4 hfit HS HC
      generalize zs.getD (kk - 1) t0 = pp at HS HP
      have BA := Lib.hid (BW.out)
      have UC := Lib.hid (one31 p hfit (wr))
      generalize fileE p = r at UC HS
      by_cases hr : r = 0
      · subst hr
        by_cases hk0 : 0 < kk
        · have hgz : (0 : Int) < (kk : Int) := by omega
          have e1 : IntKind.i64.wrap ((kk : Int) - 1) = (kk : Int) - 1 := IntWalk.i64_in _ (by omega)
          have e2 : ((kk : Int) - 1).toNat = kk - 1 := by omega
          have e3 : (0 : Int) ≤ (kk : Int) - 1 := by omega
          have e4 : (kk : Int) - 1 < (n : Int) := by omega
          have e5 : (1 : Int) ≤ (kk : Int) := by omega
          cases ho : bef pp p.sv p.nm
          · have HF := Lib.hid (show stepM zs kk = 8 by rw [HS.out, if_pos rfl, if_pos ⟨hk0, ho⟩])
            go_upto_region 7 with (go_at_call 31; (with_reducible refine UC.out.mono ?_); rintro e w3 ⟨rfl, hb3⟩; have B3 := Lib.hid (BA.out.trans (hb3.mono BA.out.size)); clear hb3)
            have PR : Hid (∀ u, Below w3.heap.size w3 u → World.rangeAt u b (off + (kk - 1) * 5) (enc pp)) := Lib.hid (fun u hb => by
              obtain ⟨b2, off2, e5, _, hr2, _⟩ := HP.out hk0 u (B3.out.trans (hb.mono B3.out.size))
              simp only [Option.some.injEq, Addr.mk.injEq, and_true] at e5
              obtain ⟨rfl, rfl⟩ := e5
              exact hr2)
            have Q0 : Hid (∀ u, Below w3.heap.size w3 u → u.cell? ⟨b, off + kk * 5, none⟩ = some (.string p.sv)) := Lib.hid (fun u hb => by
              obtain ⟨b2, off2, e5, _, q0, _⟩ := HC.out u (B3.out.trans (hb.mono B3.out.size))
              simp only [Option.some.injEq, Addr.mk.injEq, and_true] at e5
              obtain ⟨rfl, rfl⟩ := e5
              exact q0)
            have Q1 : Hid (∀ u, Below w3.heap.size w3 u → u.cell? ⟨b, off + kk * 5 + 1, none⟩ = some (.string p.nm)) := Lib.hid (fun u hb => by
              obtain ⟨b2, off2, e5, _, _, q1, _⟩ := HC.out u (B3.out.trans (hb.mono B3.out.size))
              simp only [Option.some.injEq, Addr.mk.injEq, and_true] at e5
              obtain ⟨rfl, rfl⟩ := e5
              exact q1)
            refine wp_region_held_drew (S := (fun w0 => Below w3.heap.size w3 w0)) (by kernel_rfl) ((Below.refl _ _).drew) (fun hH0 => ?_)
            generalize w3.drew = y0 at hH0 ⊢
            have RB0 : Hid (Below w3.heap.size w3 y0) := Lib.hid hH0
            refine wpAnyH_take (i := 0) (oi := ({ dst := some 19, op := Op.move (Operand.tmp 3), type := 3, pos := "ref.go:39", after := #[], guard := none } : Oper)) (v := ?hv23) rfl (by kernel_rfl) (by kernel_rfl) (by kernel_rfl) (fun _ _ _ h => h) (Or.inl ⟨by rfl, ?hy23⟩) (by assumption) ?hr23
            case hy23 => (intro w hSw; (try dsimp only at hSw); go_simp; (try with_reducible rfl))
            try simp only [Act.put, List.setIfInBounds_toArray, List.set_cons_zero, List.set_cons_succ]
            refine wpAnyH_take (i := 1) (oi := ({ dst := some 20, op := Op.binOp BinOp.gtr 3 (Operand.tmp 19) (Operand.const (Value.int IntKind.i64 0)) 3, type := 4, pos := "ref.go:39", after := #[{ on := 0, ground := Ground.data }], guard := none } : Oper)) (v := ?hv24) rfl (by kernel_rfl) (by kernel_rfl) (by kernel_rfl) (fun _ _ _ h => h) (Or.inl ⟨by rfl, ?hy24⟩) (by assumption) ?hr24
            case hy24 => (intro w hSw; (try dsimp only at hSw); go_simp; (try with_reducible rfl))
            try simp only [Act.put, List.setIfInBounds_toArray, List.set_cons_zero, List.set_cons_succ]
            refine wpAnyH_take (i := 2) (oi := ({ dst := some 21, op := Op.move (Operand.tmp 20), type := 4, pos := "ref.go:39", after := #[{ on := 1, ground := Ground.data }], guard := none } : Oper)) (v := ?hv25) rfl (by kernel_rfl) (by kernel_rfl) (by kernel_rfl) (fun _ _ _ h => h) (Or.inl ⟨by rfl, ?hy25⟩) (by assumption) ?hr25
            case hy25 => (intro w hSw; (try dsimp only at hSw); go_simp; (try with_reducible rfl))
            try simp only [Act.put, List.setIfInBounds_toArray, List.set_cons_zero, List.set_cons_succ]
            refine wpAnyH_take (i := 3) (oi := ({ dst := some 22, op := Op.move (Operand.tmp 0), type := 22, pos := "ref.go:39", after := #[{ on := 2, ground := Ground.guard }], guard := some (2, true) } : Oper)) (v := ?hv26) rfl (by kernel_rfl) (by kernel_rfl) (by kernel_rfl) (fun _ _ _ h => h) (Or.inl ⟨by rfl, ?hy26⟩) (by assumption) ?hr26
            case hy26 => (intro w hSw; (try dsimp only at hSw); go_simp; (try with_reducible rfl))
            try simp only [Act.put, List.setIfInBounds_toArray, List.set_cons_zero, List.set_cons_succ]
            refine wpAnyH_take (i := 4) (oi := ({ dst := some 23, op := Op.move (Operand.tmp 3), type := 3, pos := "ref.go:39", after := #[{ on := 2, ground := Ground.guard }], guard := some (2, true) } : Oper)) (v := ?hv27) rfl (by kernel_rfl) (by kernel_rfl) (by kernel_rfl) (fun _ _ _ h => h) (Or.inl ⟨by rfl, ?hy27⟩) (by assumption) ?hr27
            case hy27 => (intro w hSw; (try dsimp only at hSw); go_simp; (try with_reducible rfl))
            try simp only [Act.put, List.setIfInBounds_toArray, List.set_cons_zero, List.set_cons_succ]
            refine wpAnyH_take (i := 5) (oi := ({ dst := some 24, op := Op.binOp BinOp.sub 3 (Operand.tmp 23) (Operand.const (Value.int IntKind.i64 1)) 3, type := 3, pos := "ref.go:39", after := #[{ on := 4, ground := Ground.data }, { on := 2, ground := Ground.guard }], guard := some (2, true) } : Oper)) (v := ?hv28) rfl (by kernel_rfl) (by kernel_rfl) (by kernel_rfl) (fun _ _ _ h => h) (Or.inl ⟨by rfl, ?hy28⟩) (by assumption) ?hr28
            case hy28 => (intro w hSw; (try dsimp only at hSw); go_simp; (try with_reducible rfl))
            try simp only [Act.put, List.setIfInBounds_toArray, List.set_cons_zero, List.set_cons_succ]
            refine wpAnyH_take (i := 6) (oi := ({ dst := some 25, op := Op.indexAddr 22 (Operand.tmp 22) (Operand.tmp 24), type := 0, pos := "ref.go:39", after := #[{ on := 3, ground := Ground.data }, { on := 5, ground := Ground.data }, { on := 2, ground := Ground.guard }], guard := some (2, true) } : Oper)) (v := ?hv29) rfl (by kernel_rfl) (by kernel_rfl) (by kernel_rfl) (fun _ _ _ h => h) (Or.inl ⟨by rfl, ?hy29⟩) (by assumption) ?hr29
            case hy29 => (intro w hSw; (try dsimp only at hSw); go_simp; (try with_reducible rfl))
            try simp only [Act.put, List.setIfInBounds_toArray, List.set_cons_zero, List.set_cons_succ]
            refine wpAnyH_take (i := 7) (oi := ({ dst := some 26, op := Op.load 26 (Operand.tmp 25), type := 26, pos := "ref.go:39", after := #[{ on := 6, ground := Ground.data }, { on := 2, ground := Ground.guard }], guard := some (2, true) } : Oper)) (v := .agg #[.string pp.sv, .string pp.nm, .int .i64 pp.sz, .int .i64 pp.tt, .int .i64 pp.st]) rfl (by kernel_rfl) (by kernel_rfl) (by kernel_rfl) (fun _ _ _ h => h) (yieldsIf_load_mid (by rfl) 26 _ rfl b (off + (kk - 1) * 5) rfl [.string pp.sv, .string pp.nm, .int .i64 pp.sz, .int .i64 pp.tt, .int .i64 pp.st] _ (fun w0 hw0 => PR.out w0 hw0) Try.underlying26 rfl size44) (by assumption) ?_
            try simp only [Act.put, List.setIfInBounds_toArray, List.set_cons_zero, List.set_cons_succ]
            refine wpAnyH_take (i := 8) (oi := ({ dst := some 27, op := Op.move (Operand.tmp 0), type := 22, pos := "ref.go:39", after := #[{ on := 2, ground := Ground.guard }], guard := some (2, true) } : Oper)) (v := ?hv30) rfl (by kernel_rfl) (by kernel_rfl) (by kernel_rfl) (fun _ _ _ h => h) (Or.inl ⟨by rfl, ?hy30⟩) (by assumption) ?hr30
            case hy30 => (intro w hSw; (try dsimp only at hSw); go_simp; (try with_reducible rfl))
            try simp only [Act.put, List.setIfInBounds_toArray, List.set_cons_zero, List.set_cons_succ]
            refine wpAnyH_take (i := 9) (oi := ({ dst := some 28, op := Op.move (Operand.tmp 3), type := 3, pos := "ref.go:39", after := #[{ on := 2, ground := Ground.guard }], guard := some (2, true) } : Oper)) (v := ?hv31) rfl (by kernel_rfl) (by kernel_rfl) (by kernel_rfl) (fun _ _ _ h => h) (Or.inl ⟨by rfl, ?hy31⟩) (by assumption) ?hr31
            case hy31 => (intro w hSw; (try dsimp only at hSw); go_simp; (try with_reducible rfl))
            try simp only [Act.put, List.setIfInBounds_toArray, List.set_cons_zero, List.set_cons_succ]
            refine wpAnyH_take (i := 10) (oi := ({ dst := some 29, op := Op.indexAddr 22 (Operand.tmp 27) (Operand.tmp 28), type := 0, pos := "ref.go:39", after := #[{ on := 8, ground := Ground.data }, { on := 9, ground := Ground.data }, { on := 2, ground := Ground.guard }], guard := some (2, true) } : Oper)) (v := ?hv32) rfl (by kernel_rfl) (by kernel_rfl) (by kernel_rfl) (fun _ _ _ h => h) (Or.inl ⟨by rfl, ?hy32⟩) (by assumption) ?hr32
            case hy32 => (intro w hSw; (try dsimp only at hSw); go_simp; (try with_reducible rfl))
            try simp only [Act.put, List.setIfInBounds_toArray, List.set_cons_zero, List.set_cons_succ]
            refine wpAnyH_take (i := 11) (oi := ({ dst := some 30, op := Op.fieldAddr 26 (Operand.tmp 29) 0, type := 0, pos := "ref.go:39", after := #[{ on := 10, ground := Ground.data }, { on := 2, ground := Ground.guard }], guard := some (2, true) } : Oper)) (v := ?hv33) rfl (by kernel_rfl) (by kernel_rfl) (by kernel_rfl) (fun _ _ _ h => h) (Or.inl ⟨by rfl, ?hy33⟩) (by assumption) ?hr33
            case hy33 => (intro w hSw; (try dsimp only at hSw); go_simp; (try with_reducible rfl))
            try simp only [Act.put, List.setIfInBounds_toArray, List.set_cons_zero, List.set_cons_succ]
            refine wpAnyH_take (i := 12) (oi := ({ dst := some 31, op := Op.load 9 (Operand.tmp 30), type := 9, pos := "ref.go:39", after := #[{ on := 11, ground := Ground.data }, { on := 2, ground := Ground.guard }], guard := some (2, true) } : Oper)) (v := .string p.sv) rfl (by kernel_rfl) (by kernel_rfl) (by kernel_rfl) (fun _ _ _ h => h) (Or.inl ⟨by rfl, fun w0 hw0 => by have q0 := Q0.out w0 hw0; go_simp⟩) (by assumption) ?_
            try simp only [Act.put, List.setIfInBounds_toArray, List.set_cons_zero, List.set_cons_succ]
            refine wpAnyH_take (i := 13) (oi := ({ dst := some 32, op := Op.move (Operand.tmp 0), type := 22, pos := "ref.go:39", after := #[{ on := 2, ground := Ground.guard }], guard := some (2, true) } : Oper)) (v := ?hv34) rfl (by kernel_rfl) (by kernel_rfl) (by kernel_rfl) (fun _ _ _ h => h) (Or.inl ⟨by rfl, ?hy34⟩) (by assumption) ?hr34
            case hy34 => (intro w hSw; (try dsimp only at hSw); go_simp; (try with_reducible rfl))
            try simp only [Act.put, List.setIfInBounds_toArray, List.set_cons_zero, List.set_cons_succ]
            refine wpAnyH_take (i := 14) (oi := ({ dst := some 33, op := Op.move (Operand.tmp 3), type := 3, pos := "ref.go:39", after := #[{ on := 2, ground := Ground.guard }], guard := some (2, true) } : Oper)) (v := ?hv35) rfl (by kernel_rfl) (by kernel_rfl) (by kernel_rfl) (fun _ _ _ h => h) (Or.inl ⟨by rfl, ?hy35⟩) (by assumption) ?hr35
            case hy35 => (intro w hSw; (try dsimp only at hSw); go_simp; (try with_reducible rfl))
            try simp only [Act.put, List.setIfInBounds_toArray, List.set_cons_zero, List.set_cons_succ]
            refine wpAnyH_take (i := 15) (oi := ({ dst := some 34, op := Op.indexAddr 22 (Operand.tmp 32) (Operand.tmp 33), type := 0, pos := "ref.go:39", after := #[{ on := 13, ground := Ground.data }, { on := 14, ground := Ground.data }, { on := 2, ground := Ground.guard }], guard := some (2, true) } : Oper)) (v := ?hv36) rfl (by kernel_rfl) (by kernel_rfl) (by kernel_rfl) (fun _ _ _ h => h) (Or.inl ⟨by rfl, ?hy36⟩) (by assumption) ?hr36
            case hy36 => (intro w hSw; (try dsimp only at hSw); go_simp; (try with_reducible rfl))
            try simp only [Act.put, List.setIfInBounds_toArray, List.set_cons_zero, List.set_cons_succ]
            refine wpAnyH_take (i := 16) (oi := ({ dst := some 35, op := Op.fieldAddr 26 (Operand.tmp 34) 1, type := 0, pos := "ref.go:39", after := #[{ on := 15, ground := Ground.data }, { on := 2, ground := Ground.guard }], guard := some (2, true) } : Oper)) (v := ?hv37) rfl (by kernel_rfl) (by kernel_rfl) (by kernel_rfl) (fun _ _ _ h => h) (Or.inl ⟨by rfl, ?hy37⟩) (by assumption) ?hr37
            case hy37 => (intro w hSw; (try dsimp only at hSw); go_simp; (try with_reducible rfl))
            try simp only [Act.put, List.setIfInBounds_toArray, List.set_cons_zero, List.set_cons_succ]
            refine wpAnyH_take (i := 17) (oi := ({ dst := some 36, op := Op.load 9 (Operand.tmp 35), type := 9, pos := "ref.go:39", after := #[{ on := 16, ground := Ground.data }, { on := 2, ground := Ground.guard }], guard := some (2, true) } : Oper)) (v := .string p.nm) rfl (by kernel_rfl) (by kernel_rfl) (by kernel_rfl) (fun _ _ _ h => h) (Or.inl ⟨by rfl, fun w0 hw0 => by have q0 := Q1.out w0 hw0; go_simp⟩) (by assumption) ?_
            try simp only [Act.put, List.setIfInBounds_toArray, List.set_cons_zero, List.set_cons_succ]
            refine wpAnyH_ready (rs := [18]) (by kernel_rfl) (by simp) ?_
            refine AllReadyH.cons (o := ({ dst := some 37, op := Op.call { callee := Callee.value (Operand.func 32), args := #[Operand.tmp 26, Operand.tmp 31, Operand.tmp 36], argTypes := #[26, 9, 9] }, type := 4, pos := "ref.go:39", after := #[{ on := 7, ground := Ground.data }, { on := 12, ground := Ground.data }, { on := 17, ground := Ground.data }, { on := 2, ground := Ground.chain }, { on := 2, ground := Ground.guard }], guard := some (2, true) } : Oper)) rfl (fun KK hKK => ?_) AllReadyH.nil
            go_simp
            (with_reducible refine (before32 pp p.sv p.nm _).mono ?_)
            rintro e0 y1 ⟨rfl, hb⟩
            have RB1 := Lib.hid (RB0.out.trans (hb.mono RB0.out.size))
            clear hb
            refine hKK.out _ _ (RB1.out) (fun hH1 => ?_)
            clear hKK KK
            try simp only [Act.put, List.setIfInBounds_toArray, List.set_cons_zero, List.set_cons_succ]
            refine wpAnyH_take (i := 19) (oi := ({ dst := some 38, op := Op.unOp UnOp.not 4 (Operand.tmp 37), type := 4, pos := "ref.go:39", after := #[{ on := 18, ground := Ground.data }, { on := 2, ground := Ground.guard }], guard := some (2, true) } : Oper)) (v := ?hv38) rfl (by kernel_rfl) (by kernel_rfl) (by kernel_rfl) (fun _ _ _ h => h) (Or.inl ⟨by rfl, ?hy38⟩) (by assumption) ?hr38
            case hy38 => (intro w hSw; (try dsimp only at hSw); go_simp; (try with_reducible rfl))
            try simp only [Act.put, List.setIfInBounds_toArray, List.set_cons_zero, List.set_cons_succ]
            refine wpAnyH_take (i := 20) (oi := ({ dst := some 39, op := Op.pick (Operand.tmp 21) (Operand.tmp 38) (Operand.const (Value.bool false)), type := 4, pos := "ref.go:39", after := #[{ on := 2, ground := Ground.data }, { on := 19, ground := Ground.data }], guard := none } : Oper)) (v := ?hv39) rfl (by kernel_rfl) (by kernel_rfl) (by kernel_rfl) (fun _ _ _ h => h) (Or.inl ⟨by rfl, ?hy39⟩) (by assumption) ?hr39
            case hy39 => (intro w hSw; (try dsimp only at hSw); go_simp; (try with_reducible rfl))
            try simp only [Act.put, List.setIfInBounds_toArray, List.set_cons_zero, List.set_cons_succ]
            refine wpAnyH_done (by kernel_rfl) ?_ _
            go_wp2
            go_ret
            exact ⟨ret_i64 (chk_at hlt HF.out (by decide) HO.out).symm, B3.out.trans (RB1.out.mono B3.out.size)⟩
          · have HF := Lib.hid (show stepM zs kk = 0 by rw [HS.out, if_pos rfl, if_neg (by rw [ho]; rintro ⟨_, h⟩; cases h)])
            go_upto_region 7 with (go_at_call 31; (with_reducible refine UC.out.mono ?_); rintro e w3 ⟨rfl, hb3⟩; have B3 := Lib.hid (BA.out.trans (hb3.mono BA.out.size)); clear hb3)
            have PR : Hid (∀ u, Below w3.heap.size w3 u → World.rangeAt u b (off + (kk - 1) * 5) (enc pp)) := Lib.hid (fun u hb => by
              obtain ⟨b2, off2, e5, _, hr2, _⟩ := HP.out hk0 u (B3.out.trans (hb.mono B3.out.size))
              simp only [Option.some.injEq, Addr.mk.injEq, and_true] at e5
              obtain ⟨rfl, rfl⟩ := e5
              exact hr2)
            have Q0 : Hid (∀ u, Below w3.heap.size w3 u → u.cell? ⟨b, off + kk * 5, none⟩ = some (.string p.sv)) := Lib.hid (fun u hb => by
              obtain ⟨b2, off2, e5, _, q0, _⟩ := HC.out u (B3.out.trans (hb.mono B3.out.size))
              simp only [Option.some.injEq, Addr.mk.injEq, and_true] at e5
              obtain ⟨rfl, rfl⟩ := e5
              exact q0)
            have Q1 : Hid (∀ u, Below w3.heap.size w3 u → u.cell? ⟨b, off + kk * 5 + 1, none⟩ = some (.string p.nm)) := Lib.hid (fun u hb => by
              obtain ⟨b2, off2, e5, _, _, q1, _⟩ := HC.out u (B3.out.trans (hb.mono B3.out.size))
              simp only [Option.some.injEq, Addr.mk.injEq, and_true] at e5
              obtain ⟨rfl, rfl⟩ := e5
              exact q1)
            refine wp_region_held_drew (S := (fun w0 => Below w3.heap.size w3 w0)) (by kernel_rfl) ((Below.refl _ _).drew) (fun hH0 => ?_)
            generalize w3.drew = y0 at hH0 ⊢
            have RB0 : Hid (Below w3.heap.size w3 y0) := Lib.hid hH0
            refine wpAnyH_take (i := 0) (oi := ({ dst := some 19, op := Op.move (Operand.tmp 3), type := 3, pos := "ref.go:39", after := #[], guard := none } : Oper)) (v := ?hv40) rfl (by kernel_rfl) (by kernel_rfl) (by kernel_rfl) (fun _ _ _ h => h) (Or.inl ⟨by rfl, ?hy40⟩) (by assumption) ?hr40
            case hy40 => (intro w hSw; (try dsimp only at hSw); go_simp; (try with_reducible rfl))
            try simp only [Act.put, List.setIfInBounds_toArray, List.set_cons_zero, List.set_cons_succ]
            refine wpAnyH_take (i := 1) (oi := ({ dst := some 20, op := Op.binOp BinOp.gtr 3 (Operand.tmp 19) (Operand.const (Value.int IntKind.i64 0)) 3, type := 4, pos := "ref.go:39", after := #[{ on := 0, ground := Ground.data }], guard := none } : Oper)) (v := ?hv41) rfl (by kernel_rfl) (by kernel_rfl) (by kernel_rfl) (fun _ _ _ h => h) (Or.inl ⟨by rfl, ?hy41⟩) (by assumption) ?hr41
            case hy41 => (intro w hSw; (try dsimp only at hSw); go_simp; (try with_reducible rfl))
            try simp only [Act.put, List.setIfInBounds_toArray, List.set_cons_zero, List.set_cons_succ]
            refine wpAnyH_take (i := 2) (oi := ({ dst := some 21, op := Op.move (Operand.tmp 20), type := 4, pos := "ref.go:39", after := #[{ on := 1, ground := Ground.data }], guard := none } : Oper)) (v := ?hv42) rfl (by kernel_rfl) (by kernel_rfl) (by kernel_rfl) (fun _ _ _ h => h) (Or.inl ⟨by rfl, ?hy42⟩) (by assumption) ?hr42
            case hy42 => (intro w hSw; (try dsimp only at hSw); go_simp; (try with_reducible rfl))
            try simp only [Act.put, List.setIfInBounds_toArray, List.set_cons_zero, List.set_cons_succ]
            refine wpAnyH_take (i := 3) (oi := ({ dst := some 22, op := Op.move (Operand.tmp 0), type := 22, pos := "ref.go:39", after := #[{ on := 2, ground := Ground.guard }], guard := some (2, true) } : Oper)) (v := ?hv43) rfl (by kernel_rfl) (by kernel_rfl) (by kernel_rfl) (fun _ _ _ h => h) (Or.inl ⟨by rfl, ?hy43⟩) (by assumption) ?hr43
            case hy43 => (intro w hSw; (try dsimp only at hSw); go_simp; (try with_reducible rfl))
            try simp only [Act.put, List.setIfInBounds_toArray, List.set_cons_zero, List.set_cons_succ]
            refine wpAnyH_take (i := 4) (oi := ({ dst := some 23, op := Op.move (Operand.tmp 3), type := 3, pos := "ref.go:39", after := #[{ on := 2, ground := Ground.guard }], guard := some (2, true) } : Oper)) (v := ?hv44) rfl (by kernel_rfl) (by kernel_rfl) (by kernel_rfl) (fun _ _ _ h => h) (Or.inl ⟨by rfl, ?hy44⟩) (by assumption) ?hr44
            case hy44 => (intro w hSw; (try dsimp only at hSw); go_simp; (try with_reducible rfl))
            try simp only [Act.put, List.setIfInBounds_toArray, List.set_cons_zero, List.set_cons_succ]
            refine wpAnyH_take (i := 5) (oi := ({ dst := some 24, op := Op.binOp BinOp.sub 3 (Operand.tmp 23) (Operand.const (Value.int IntKind.i64 1)) 3, type := 3, pos := "ref.go:39", after := #[{ on := 4, ground := Ground.data }, { on := 2, ground := Ground.guard }], guard := some (2, true) } : Oper)) (v := ?hv45) rfl (by kernel_rfl) (by kernel_rfl) (by kernel_rfl) (fun _ _ _ h => h) (Or.inl ⟨by rfl, ?hy45⟩) (by assumption) ?hr45
            case hy45 => (intro w hSw; (try dsimp only at hSw); go_simp; (try with_reducible rfl))
            try simp only [Act.put, List.setIfInBounds_toArray, List.set_cons_zero, List.set_cons_succ]
            refine wpAnyH_take (i := 6) (oi := ({ dst := some 25, op := Op.indexAddr 22 (Operand.tmp 22) (Operand.tmp 24), type := 0, pos := "ref.go:39", after := #[{ on := 3, ground := Ground.data }, { on := 5, ground := Ground.data }, { on := 2, ground := Ground.guard }], guard := some (2, true) } : Oper)) (v := ?hv46) rfl (by kernel_rfl) (by kernel_rfl) (by kernel_rfl) (fun _ _ _ h => h) (Or.inl ⟨by rfl, ?hy46⟩) (by assumption) ?hr46
            case hy46 => (intro w hSw; (try dsimp only at hSw); go_simp; (try with_reducible rfl))
            try simp only [Act.put, List.setIfInBounds_toArray, List.set_cons_zero, List.set_cons_succ]
            refine wpAnyH_take (i := 7) (oi := ({ dst := some 26, op := Op.load 26 (Operand.tmp 25), type := 26, pos := "ref.go:39", after := #[{ on := 6, ground := Ground.data }, { on := 2, ground := Ground.guard }], guard := some (2, true) } : Oper)) (v := .agg #[.string pp.sv, .string pp.nm, .int .i64 pp.sz, .int .i64 pp.tt, .int .i64 pp.st]) rfl (by kernel_rfl) (by kernel_rfl) (by kernel_rfl) (fun _ _ _ h => h) (yieldsIf_load_mid (by rfl) 26 _ rfl b (off + (kk - 1) * 5) rfl [.string pp.sv, .string pp.nm, .int .i64 pp.sz, .int .i64 pp.tt, .int .i64 pp.st] _ (fun w0 hw0 => PR.out w0 hw0) Try.underlying26 rfl size44) (by assumption) ?_
            try simp only [Act.put, List.setIfInBounds_toArray, List.set_cons_zero, List.set_cons_succ]
            refine wpAnyH_take (i := 8) (oi := ({ dst := some 27, op := Op.move (Operand.tmp 0), type := 22, pos := "ref.go:39", after := #[{ on := 2, ground := Ground.guard }], guard := some (2, true) } : Oper)) (v := ?hv47) rfl (by kernel_rfl) (by kernel_rfl) (by kernel_rfl) (fun _ _ _ h => h) (Or.inl ⟨by rfl, ?hy47⟩) (by assumption) ?hr47
            case hy47 => (intro w hSw; (try dsimp only at hSw); go_simp; (try with_reducible rfl))
            try simp only [Act.put, List.setIfInBounds_toArray, List.set_cons_zero, List.set_cons_succ]
            refine wpAnyH_take (i := 9) (oi := ({ dst := some 28, op := Op.move (Operand.tmp 3), type := 3, pos := "ref.go:39", after := #[{ on := 2, ground := Ground.guard }], guard := some (2, true) } : Oper)) (v := ?hv48) rfl (by kernel_rfl) (by kernel_rfl) (by kernel_rfl) (fun _ _ _ h => h) (Or.inl ⟨by rfl, ?hy48⟩) (by assumption) ?hr48
            case hy48 => (intro w hSw; (try dsimp only at hSw); go_simp; (try with_reducible rfl))
            try simp only [Act.put, List.setIfInBounds_toArray, List.set_cons_zero, List.set_cons_succ]
            refine wpAnyH_take (i := 10) (oi := ({ dst := some 29, op := Op.indexAddr 22 (Operand.tmp 27) (Operand.tmp 28), type := 0, pos := "ref.go:39", after := #[{ on := 8, ground := Ground.data }, { on := 9, ground := Ground.data }, { on := 2, ground := Ground.guard }], guard := some (2, true) } : Oper)) (v := ?hv49) rfl (by kernel_rfl) (by kernel_rfl) (by kernel_rfl) (fun _ _ _ h => h) (Or.inl ⟨by rfl, ?hy49⟩) (by assumption) ?hr49
            case hy49 => (intro w hSw; (try dsimp only at hSw); go_simp; (try with_reducible rfl))
            try simp only [Act.put, List.setIfInBounds_toArray, List.set_cons_zero, List.set_cons_succ]
            refine wpAnyH_take (i := 11) (oi := ({ dst := some 30, op := Op.fieldAddr 26 (Operand.tmp 29) 0, type := 0, pos := "ref.go:39", after := #[{ on := 10, ground := Ground.data }, { on := 2, ground := Ground.guard }], guard := some (2, true) } : Oper)) (v := ?hv50) rfl (by kernel_rfl) (by kernel_rfl) (by kernel_rfl) (fun _ _ _ h => h) (Or.inl ⟨by rfl, ?hy50⟩) (by assumption) ?hr50
            case hy50 => (intro w hSw; (try dsimp only at hSw); go_simp; (try with_reducible rfl))
            try simp only [Act.put, List.setIfInBounds_toArray, List.set_cons_zero, List.set_cons_succ]
            refine wpAnyH_take (i := 12) (oi := ({ dst := some 31, op := Op.load 9 (Operand.tmp 30), type := 9, pos := "ref.go:39", after := #[{ on := 11, ground := Ground.data }, { on := 2, ground := Ground.guard }], guard := some (2, true) } : Oper)) (v := .string p.sv) rfl (by kernel_rfl) (by kernel_rfl) (by kernel_rfl) (fun _ _ _ h => h) (Or.inl ⟨by rfl, fun w0 hw0 => by have q0 := Q0.out w0 hw0; go_simp⟩) (by assumption) ?_
            try simp only [Act.put, List.setIfInBounds_toArray, List.set_cons_zero, List.set_cons_succ]
            refine wpAnyH_take (i := 13) (oi := ({ dst := some 32, op := Op.move (Operand.tmp 0), type := 22, pos := "ref.go:39", after := #[{ on := 2, ground := Ground.guard }], guard := some (2, true) } : Oper)) (v := ?hv51) rfl (by kernel_rfl) (by kernel_rfl) (by kernel_rfl) (fun _ _ _ h => h) (Or.inl ⟨by rfl, ?hy51⟩) (by assumption) ?hr51
            case hy51 => (intro w hSw; (try dsimp only at hSw); go_simp; (try with_reducible rfl))
            try simp only [Act.put, List.setIfInBounds_toArray, List.set_cons_zero, List.set_cons_succ]
            refine wpAnyH_take (i := 14) (oi := ({ dst := some 33, op := Op.move (Operand.tmp 3), type := 3, pos := "ref.go:39", after := #[{ on := 2, ground := Ground.guard }], guard := some (2, true) } : Oper)) (v := ?hv52) rfl (by kernel_rfl) (by kernel_rfl) (by kernel_rfl) (fun _ _ _ h => h) (Or.inl ⟨by rfl, ?hy52⟩) (by assumption) ?hr52
            case hy52 => (intro w hSw; (try dsimp only at hSw); go_simp; (try with_reducible rfl))
            try simp only [Act.put, List.setIfInBounds_toArray, List.set_cons_zero, List.set_cons_succ]
            refine wpAnyH_take (i := 15) (oi := ({ dst := some 34, op := Op.indexAddr 22 (Operand.tmp 32) (Operand.tmp 33), type := 0, pos := "ref.go:39", after := #[{ on := 13, ground := Ground.data }, { on := 14, ground := Ground.data }, { on := 2, ground := Ground.guard }], guard := some (2, true) } : Oper)) (v := ?hv53) rfl (by kernel_rfl) (by kernel_rfl) (by kernel_rfl) (fun _ _ _ h => h) (Or.inl ⟨by rfl, ?hy53⟩) (by assumption) ?hr53
            case hy53 => (intro w hSw; (try dsimp only at hSw); go_simp; (try with_reducible rfl))
            try simp only [Act.put, List.setIfInBounds_toArray, List.set_cons_zero, List.set_cons_succ]
            refine wpAnyH_take (i := 16) (oi := ({ dst := some 35, op := Op.fieldAddr 26 (Operand.tmp 34) 1, type := 0, pos := "ref.go:39", after := #[{ on := 15, ground := Ground.data }, { on := 2, ground := Ground.guard }], guard := some (2, true) } : Oper)) (v := ?hv54) rfl (by kernel_rfl) (by kernel_rfl) (by kernel_rfl) (fun _ _ _ h => h) (Or.inl ⟨by rfl, ?hy54⟩) (by assumption) ?hr54
            case hy54 => (intro w hSw; (try dsimp only at hSw); go_simp; (try with_reducible rfl))
            try simp only [Act.put, List.setIfInBounds_toArray, List.set_cons_zero, List.set_cons_succ]
            refine wpAnyH_take (i := 17) (oi := ({ dst := some 36, op := Op.load 9 (Operand.tmp 35), type := 9, pos := "ref.go:39", after := #[{ on := 16, ground := Ground.data }, { on := 2, ground := Ground.guard }], guard := some (2, true) } : Oper)) (v := .string p.nm) rfl (by kernel_rfl) (by kernel_rfl) (by kernel_rfl) (fun _ _ _ h => h) (Or.inl ⟨by rfl, fun w0 hw0 => by have q0 := Q1.out w0 hw0; go_simp⟩) (by assumption) ?_
            try simp only [Act.put, List.setIfInBounds_toArray, List.set_cons_zero, List.set_cons_succ]
            refine wpAnyH_ready (rs := [18]) (by kernel_rfl) (by simp) ?_
            refine AllReadyH.cons (o := ({ dst := some 37, op := Op.call { callee := Callee.value (Operand.func 32), args := #[Operand.tmp 26, Operand.tmp 31, Operand.tmp 36], argTypes := #[26, 9, 9] }, type := 4, pos := "ref.go:39", after := #[{ on := 7, ground := Ground.data }, { on := 12, ground := Ground.data }, { on := 17, ground := Ground.data }, { on := 2, ground := Ground.chain }, { on := 2, ground := Ground.guard }], guard := some (2, true) } : Oper)) rfl (fun KK hKK => ?_) AllReadyH.nil
            go_simp
            (with_reducible refine (before32 pp p.sv p.nm _).mono ?_)
            rintro e0 y1 ⟨rfl, hb⟩
            have RB1 := Lib.hid (RB0.out.trans (hb.mono RB0.out.size))
            clear hb
            refine hKK.out _ _ (RB1.out) (fun hH1 => ?_)
            clear hKK KK
            try simp only [Act.put, List.setIfInBounds_toArray, List.set_cons_zero, List.set_cons_succ]
            refine wpAnyH_take (i := 19) (oi := ({ dst := some 38, op := Op.unOp UnOp.not 4 (Operand.tmp 37), type := 4, pos := "ref.go:39", after := #[{ on := 18, ground := Ground.data }, { on := 2, ground := Ground.guard }], guard := some (2, true) } : Oper)) (v := ?hv55) rfl (by kernel_rfl) (by kernel_rfl) (by kernel_rfl) (fun _ _ _ h => h) (Or.inl ⟨by rfl, ?hy55⟩) (by assumption) ?hr55
            case hy55 => (intro w hSw; (try dsimp only at hSw); go_simp; (try with_reducible rfl))
            try simp only [Act.put, List.setIfInBounds_toArray, List.set_cons_zero, List.set_cons_succ]
            refine wpAnyH_take (i := 20) (oi := ({ dst := some 39, op := Op.pick (Operand.tmp 21) (Operand.tmp 38) (Operand.const (Value.bool false)), type := 4, pos := "ref.go:39", after := #[{ on := 2, ground := Ground.data }, { on := 19, ground := Ground.data }], guard := none } : Oper)) (v := ?hv56) rfl (by kernel_rfl) (by kernel_rfl) (by kernel_rfl) (fun _ _ _ h => h) (Or.inl ⟨by rfl, ?hy56⟩) (by assumption) ?hr56
            case hy56 => (intro w hSw; (try dsimp only at hSw); go_simp; (try with_reducible rfl))
            try simp only [Act.put, List.setIfInBounds_toArray, List.set_cons_zero, List.set_cons_succ]
            refine wpAnyH_done (by kernel_rfl) ?_ _
            go_wp2
            go_roundg (n - (kk + 1))
            case measure => omega
            case rel =>
              refine ⟨kk + 1, by omega, by omega, by go_num, Lib.hid (fun j hj => ?_), Lib.hid (B3.out.trans (RB1.out.mono B3.out.size))⟩
              by_cases e : j = kk
              · subst e; exact HF.out
              · exact HO.out j (by omega)
        · have hgz : ¬ (0 : Int) < (kk : Int) := by omega
          have HF := Lib.hid (show stepM zs kk = 0 by rw [HS.out, if_pos rfl, if_neg (by rintro ⟨h, _⟩; exact hk0 h)])
          go_upto_region 7 with (go_at_call 31; (with_reducible refine UC.out.mono ?_); rintro e w3 ⟨rfl, hb3⟩; have B3 := Lib.hid (BA.out.trans (hb3.mono BA.out.size)); clear hb3)
          refine wp_region_held_drew (S := (fun w0 => Below w3.heap.size w3 w0)) (by kernel_rfl) ((Below.refl _ _).drew) (fun hH0 => ?_)
          generalize w3.drew = y0 at hH0 ⊢
          have RB0 : Hid (Below w3.heap.size w3 y0) := Lib.hid hH0
          refine wpAnyH_take (i := 0) (oi := ({ dst := some 19, op := Op.move (Operand.tmp 3), type := 3, pos := "ref.go:39", after := #[], guard := none } : Oper)) (v := ?hv57) rfl (by kernel_rfl) (by kernel_rfl) (by kernel_rfl) (fun _ _ _ h => h) (Or.inl ⟨by rfl, ?hy57⟩) (by assumption) ?hr57
          case hy57 => (intro w hSw; (try dsimp only at hSw); go_simp; (try with_reducible rfl))
          try simp only [Act.put, List.setIfInBounds_toArray, List.set_cons_zero, List.set_cons_succ]
          refine wpAnyH_take (i := 1) (oi := ({ dst := some 20, op := Op.binOp BinOp.gtr 3 (Operand.tmp 19) (Operand.const (Value.int IntKind.i64 0)) 3, type := 4, pos := "ref.go:39", after := #[{ on := 0, ground := Ground.data }], guard := none } : Oper)) (v := ?hv58) rfl (by kernel_rfl) (by kernel_rfl) (by kernel_rfl) (fun _ _ _ h => h) (Or.inl ⟨by rfl, ?hy58⟩) (by assumption) ?hr58
          case hy58 => (intro w hSw; (try dsimp only at hSw); go_simp; (try with_reducible rfl))
          try simp only [Act.put, List.setIfInBounds_toArray, List.set_cons_zero, List.set_cons_succ]
          refine wpAnyH_take (i := 2) (oi := ({ dst := some 21, op := Op.move (Operand.tmp 20), type := 4, pos := "ref.go:39", after := #[{ on := 1, ground := Ground.data }], guard := none } : Oper)) (v := ?hv59) rfl (by kernel_rfl) (by kernel_rfl) (by kernel_rfl) (fun _ _ _ h => h) (Or.inl ⟨by rfl, ?hy59⟩) (by assumption) ?hr59
          case hy59 => (intro w hSw; (try dsimp only at hSw); go_simp; (try with_reducible rfl))
          try simp only [Act.put, List.setIfInBounds_toArray, List.set_cons_zero, List.set_cons_succ]
          refine wpAnyH_take (i := 3) (oi := ({ dst := some 22, op := Op.move (Operand.tmp 0), type := 22, pos := "ref.go:39", after := #[{ on := 2, ground := Ground.guard }], guard := some (2, true) } : Oper)) (v := undef) rfl (by kernel_rfl) (by kernel_rfl) (by kernel_rfl) (fun _ _ _ h => h) (Or.inr ⟨by rfl, rfl⟩) (by assumption) ?_
          try simp only [Act.put, List.setIfInBounds_toArray, List.set_cons_zero, List.set_cons_succ]
          refine wpAnyH_take (i := 4) (oi := ({ dst := some 23, op := Op.move (Operand.tmp 3), type := 3, pos := "ref.go:39", after := #[{ on := 2, ground := Ground.guard }], guard := some (2, true) } : Oper)) (v := undef) rfl (by kernel_rfl) (by kernel_rfl) (by kernel_rfl) (fun _ _ _ h => h) (Or.inr ⟨by rfl, rfl⟩) (by assumption) ?_
          try simp only [Act.put, List.setIfInBounds_toArray, List.set_cons_zero, List.set_cons_succ]
          refine wpAnyH_take (i := 5) (oi := ({ dst := some 24, op := Op.binOp BinOp.sub 3 (Operand.tmp 23) (Operand.const (Value.int IntKind.i64 1)) 3, type := 3, pos := "ref.go:39", after := #[{ on := 4, ground := Ground.data }, { on := 2, ground := Ground.guard }], guard := some (2, true) } : Oper)) (v := undef) rfl (by kernel_rfl) (by kernel_rfl) (by kernel_rfl) (fun _ _ _ h => h) (Or.inr ⟨by rfl, rfl⟩) (by assumption) ?_
          try simp only [Act.put, List.setIfInBounds_toArray, List.set_cons_zero, List.set_cons_succ]
          refine wpAnyH_take (i := 6) (oi := ({ dst := some 25, op := Op.indexAddr 22 (Operand.tmp 22) (Operand.tmp 24), type := 0, pos := "ref.go:39", after := #[{ on := 3, ground := Ground.data }, { on := 5, ground := Ground.data }, { on := 2, ground := Ground.guard }], guard := some (2, true) } : Oper)) (v := undef) rfl (by kernel_rfl) (by kernel_rfl) (by kernel_rfl) (fun _ _ _ h => h) (Or.inr ⟨by rfl, rfl⟩) (by assumption) ?_
          try simp only [Act.put, List.setIfInBounds_toArray, List.set_cons_zero, List.set_cons_succ]
          refine wpAnyH_take (i := 7) (oi := ({ dst := some 26, op := Op.load 26 (Operand.tmp 25), type := 26, pos := "ref.go:39", after := #[{ on := 6, ground := Ground.data }, { on := 2, ground := Ground.guard }], guard := some (2, true) } : Oper)) (v := undef) rfl (by kernel_rfl) (by kernel_rfl) (by kernel_rfl) (fun _ _ _ h => h) (Or.inr ⟨by rfl, rfl⟩) (by assumption) ?_
          try simp only [Act.put, List.setIfInBounds_toArray, List.set_cons_zero, List.set_cons_succ]
          refine wpAnyH_take (i := 8) (oi := ({ dst := some 27, op := Op.move (Operand.tmp 0), type := 22, pos := "ref.go:39", after := #[{ on := 2, ground := Ground.guard }], guard := some (2, true) } : Oper)) (v := undef) rfl (by kernel_rfl) (by kernel_rfl) (by kernel_rfl) (fun _ _ _ h => h) (Or.inr ⟨by rfl, rfl⟩) (by assumption) ?_
          try simp only [Act.put, List.setIfInBounds_toArray, List.set_cons_zero, List.set_cons_succ]
          refine wpAnyH_take (i := 9) (oi := ({ dst := some 28, op := Op.move (Operand.tmp 3), type := 3, pos := "ref.go:39", after := #[{ on := 2, ground := Ground.guard }], guard := some (2, true) } : Oper)) (v := undef) rfl (by kernel_rfl) (by kernel_rfl) (by kernel_rfl) (fun _ _ _ h => h) (Or.inr ⟨by rfl, rfl⟩) (by assumption) ?_
          try simp only [Act.put, List.setIfInBounds_toArray, List.set_cons_zero, List.set_cons_succ]
          refine wpAnyH_take (i := 10) (oi := ({ dst := some 29, op := Op.indexAddr 22 (Operand.tmp 27) (Operand.tmp 28), type := 0, pos := "ref.go:39", after := #[{ on := 8, ground := Ground.data }, { on := 9, ground := Ground.data }, { on := 2, ground := Ground.guard }], guard := some (2, true) } : Oper)) (v := undef) rfl (by kernel_rfl) (by kernel_rfl) (by kernel_rfl) (fun _ _ _ h => h) (Or.inr ⟨by rfl, rfl⟩) (by assumption) ?_
          try simp only [Act.put, List.setIfInBounds_toArray, List.set_cons_zero, List.set_cons_succ]
          refine wpAnyH_take (i := 11) (oi := ({ dst := some 30, op := Op.fieldAddr 26 (Operand.tmp 29) 0, type := 0, pos := "ref.go:39", after := #[{ on := 10, ground := Ground.data }, { on := 2, ground := Ground.guard }], guard := some (2, true) } : Oper)) (v := undef) rfl (by kernel_rfl) (by kernel_rfl) (by kernel_rfl) (fun _ _ _ h => h) (Or.inr ⟨by rfl, rfl⟩) (by assumption) ?_
          try simp only [Act.put, List.setIfInBounds_toArray, List.set_cons_zero, List.set_cons_succ]
          refine wpAnyH_take (i := 12) (oi := ({ dst := some 31, op := Op.load 9 (Operand.tmp 30), type := 9, pos := "ref.go:39", after := #[{ on := 11, ground := Ground.data }, { on := 2, ground := Ground.guard }], guard := some (2, true) } : Oper)) (v := undef) rfl (by kernel_rfl) (by kernel_rfl) (by kernel_rfl) (fun _ _ _ h => h) (Or.inr ⟨by rfl, rfl⟩) (by assumption) ?_
          try simp only [Act.put, List.setIfInBounds_toArray, List.set_cons_zero, List.set_cons_succ]
          refine wpAnyH_take (i := 13) (oi := ({ dst := some 32, op := Op.move (Operand.tmp 0), type := 22, pos := "ref.go:39", after := #[{ on := 2, ground := Ground.guard }], guard := some (2, true) } : Oper)) (v := undef) rfl (by kernel_rfl) (by kernel_rfl) (by kernel_rfl) (fun _ _ _ h => h) (Or.inr ⟨by rfl, rfl⟩) (by assumption) ?_
          try simp only [Act.put, List.setIfInBounds_toArray, List.set_cons_zero, List.set_cons_succ]
          refine wpAnyH_take (i := 14) (oi := ({ dst := some 33, op := Op.move (Operand.tmp 3), type := 3, pos := "ref.go:39", after := #[{ on := 2, ground := Ground.guard }], guard := some (2, true) } : Oper)) (v := undef) rfl (by kernel_rfl) (by kernel_rfl) (by kernel_rfl) (fun _ _ _ h => h) (Or.inr ⟨by rfl, rfl⟩) (by assumption) ?_
          try simp only [Act.put, List.setIfInBounds_toArray, List.set_cons_zero, List.set_cons_succ]
          refine wpAnyH_take (i := 15) (oi := ({ dst := some 34, op := Op.indexAddr 22 (Operand.tmp 32) (Operand.tmp 33), type := 0, pos := "ref.go:39", after := #[{ on := 13, ground := Ground.data }, { on := 14, ground := Ground.data }, { on := 2, ground := Ground.guard }], guard := some (2, true) } : Oper)) (v := undef) rfl (by kernel_rfl) (by kernel_rfl) (by kernel_rfl) (fun _ _ _ h => h) (Or.inr ⟨by rfl, rfl⟩) (by assumption) ?_
          try simp only [Act.put, List.setIfInBounds_toArray, List.set_cons_zero, List.set_cons_succ]
          refine wpAnyH_take (i := 16) (oi := ({ dst := some 35, op := Op.fieldAddr 26 (Operand.tmp 34) 1, type := 0, pos := "ref.go:39", after := #[{ on := 15, ground := Ground.data }, { on := 2, ground := Ground.guard }], guard := some (2, true) } : Oper)) (v := undef) rfl (by kernel_rfl) (by kernel_rfl) (by kernel_rfl) (fun _ _ _ h => h) (Or.inr ⟨by rfl, rfl⟩) (by assumption) ?_
          try simp only [Act.put, List.setIfInBounds_toArray, List.set_cons_zero, List.set_cons_succ]
          refine wpAnyH_take (i := 17) (oi := ({ dst := some 36, op := Op.load 9 (Operand.tmp 35), type := 9, pos := "ref.go:39", after := #[{ on := 16, ground := Ground.data }, { on := 2, ground := Ground.guard }], guard := some (2, true) } : Oper)) (v := undef) rfl (by kernel_rfl) (by kernel_rfl) (by kernel_rfl) (fun _ _ _ h => h) (Or.inr ⟨by rfl, rfl⟩) (by assumption) ?_
          try simp only [Act.put, List.setIfInBounds_toArray, List.set_cons_zero, List.set_cons_succ]
          refine wpAnyH_ready (rs := [18]) (by kernel_rfl) (by simp) ?_
          refine AllReadyH.cons (o := ({ dst := some 37, op := Op.call { callee := Callee.value (Operand.func 32), args := #[Operand.tmp 26, Operand.tmp 31, Operand.tmp 36], argTypes := #[26, 9, 9] }, type := 4, pos := "ref.go:39", after := #[{ on := 7, ground := Ground.data }, { on := 12, ground := Ground.data }, { on := 17, ground := Ground.data }, { on := 2, ground := Ground.chain }, { on := 2, ground := Ground.guard }], guard := some (2, true) } : Oper)) rfl (fun KK hKK => ?_) AllReadyH.nil
          go_simp
          refine hKK.out _ _ (hH0) (fun hH1 => ?_)
          clear hKK KK
          try simp only [Act.put, List.setIfInBounds_toArray, List.set_cons_zero, List.set_cons_succ]
          refine wpAnyH_take (i := 19) (oi := ({ dst := some 38, op := Op.unOp UnOp.not 4 (Operand.tmp 37), type := 4, pos := "ref.go:39", after := #[{ on := 18, ground := Ground.data }, { on := 2, ground := Ground.guard }], guard := some (2, true) } : Oper)) (v := undef) rfl (by kernel_rfl) (by kernel_rfl) (by kernel_rfl) (fun _ _ _ h => h) (Or.inr ⟨by rfl, rfl⟩) (by assumption) ?_
          try simp only [Act.put, List.setIfInBounds_toArray, List.set_cons_zero, List.set_cons_succ]
          refine wpAnyH_take (i := 20) (oi := ({ dst := some 39, op := Op.pick (Operand.tmp 21) (Operand.tmp 38) (Operand.const (Value.bool false)), type := 4, pos := "ref.go:39", after := #[{ on := 2, ground := Ground.data }, { on := 19, ground := Ground.data }], guard := none } : Oper)) (v := ?hv60) rfl (by kernel_rfl) (by kernel_rfl) (by kernel_rfl) (fun _ _ _ h => h) (Or.inl ⟨by rfl, ?hy60⟩) (by assumption) ?hr60
          case hy60 => (intro w hSw; (try dsimp only at hSw); go_simp; (try with_reducible rfl))
          try simp only [Act.put, List.setIfInBounds_toArray, List.set_cons_zero, List.set_cons_succ]
          refine wpAnyH_done (by kernel_rfl) ?_ _
          go_wp2
          go_roundg (n - (kk + 1))
          case measure => omega
          case rel =>
            refine ⟨kk + 1, by omega, by omega, by go_num, Lib.hid (fun j hj => ?_), Lib.hid (B3.out.trans (RB0.out.mono B3.out.size))⟩
            by_cases e : j = kk
            · subst e; exact HF.out
            · exact HO.out j (by omega)
      · have hrb : (r != 0) = true := by simpa using hr
        have hrc : (r == 0) = false := by simpa using hr
        have HF := Lib.hid (show stepM zs kk = r by rw [HS.out, if_neg hr])
        have HR := Lib.hid hr
        clear hr HS HP HC
        go_wp2_with (go_at_call 31; (with_reducible refine UC.out.mono ?_); rintro e w3 ⟨rfl, hb3⟩; have B3 := Lib.hid (BA.out.trans (hb3.mono BA.out.size)); clear hb3)
        go_ret
        exact ⟨ret_i64 (chk_at hlt HF.out HR.out HO.out).symm, B3.out⟩
    · have hltz : ¬ (kk : Int) < (n : Int) := by omega
      obtain rfl : kk = n := by omega
      have HF := Lib.hid (chk_no HO.out)
      go_wp2
      go_ret
      exact ⟨ret_i64 HF.out.symm, BW.out⟩
end Go.Proofs.Ytahcmhjcpkjccaa
