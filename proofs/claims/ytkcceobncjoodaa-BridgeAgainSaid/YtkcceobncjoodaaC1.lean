/- Identities of other networks: precedes; Check of both; find. Bound: at most 900000 ghosts with texts of at most 100000 bytes. -/
import Derived.Test.YtkcceobncjoodaaM2
import Derived.Deep.CutRange
namespace Go.Proofs.Ytkcceobncjoodaa
open Go.RowKit
set_option linter.unusedVariables false
set_option linter.unusedSimpArgs false

theorem bytesLess_eq : ∀ (x y : List UInt8), Op.bytesLess x y = decide (x < y)
  | [], [] => by simp [Op.bytesLess]
  | _ :: _, [] => by simp [Op.bytesLess]
  | [], _ :: _ => by simp [Op.bytesLess]
  | a :: x, b :: y => by
    rw [Op.bytesLess, bytesLess_eq x y]
    simp only [List.cons_lt_cons_iff]
    by_cases h1 : a < b <;> by_cases h2 : a = b <;> by_cases h3 : x < y <;> simp [h1, h2, h3]
theorem tri3 (x y : List UInt8) : (Op.bytesLess x y = true ∧ (x == y) = false ∧ (y == x) = false ∧ Op.bytesLess y x = false) ∨ (x = y ∧ (x == y) = true ∧ (y == x) = true ∧ Op.bytesLess x y = false ∧ Op.bytesLess y x = false) ∨ (Op.bytesLess y x = true ∧ (x == y) = false ∧ (y == x) = false ∧ Op.bytesLess x y = false) := by
  rw [bytesLess_eq, bytesLess_eq]
  by_cases h1 : x < y
  · have h2 : ¬ y < x := List.lt_asymm h1
    have h3 : x ≠ y := by intro e; rw [e] at h1; exact List.lt_irrefl _ h1
    exact .inl ⟨by simpa using h1, by simpa using h3, by simpa using h3.symm, by simpa using h2⟩
  · by_cases h2 : x = y
    · exact .inr (.inl ⟨h2, by simpa using h2, by simpa using h2.symm, by simpa using h1, by rw [← h2]; simp [List.lt_irrefl]⟩)
    · have h3 : y < x := by
        by_cases h4 : y < x
        · exact h4
        · exact absurd (List.le_antisymm (List.not_lt.1 h4) (List.not_lt.1 h1)) h2
      exact .inr (.inr ⟨by simpa using h3, by simpa using h2, by simpa using (fun e => h2 e.symm), by simpa using h1⟩)
/-- a stands before b. -/
def prec (a b : Rc) : Bool := Op.bytesLess a.nt.toList b.nt.toList || ((a.nt.toList == b.nt.toList) && Op.bytesLess a.na.toList b.na.toList)
set_option maxHeartbeats 2000000 in
theorem precedes42 (a b : Rc) (w : World) : Calls Try.prog 42 #[.agg #[.string a.nt, .string a.na, .string a.us], .agg #[.string b.nt, .string b.na, .string b.us]] w fun e w' => e = .returned (.bool (prec a b)) ∧ Below w.heap.size w w' := by
  have BA := Lib.hid (((Below.refl w.heap.size w).alloc (Nat.le_refl _) (.cells #[.string a.nt, .string a.na, .string a.us] 59)).alloc (by simp) (.cells #[.string b.nt, .string b.na, .string b.us] 59))
  have HP := Lib.hid (show prec a b = (Op.bytesLess a.nt.toList b.nt.toList || ((a.nt.toList == b.nt.toList) && Op.bytesLess a.na.toList b.na.toList)) from rfl)
  cases h1 : Op.bytesLess a.nt.toList b.nt.toList
  · cases h2 : (a.nt.toList == b.nt.toList)
    · rw [h1, h2] at HP
      go_enter Try.func42, Try.ntmps42
      go_wp2
      go_ret
      exact ⟨ret_bool (by rw [HP.out]; rfl), BA.out⟩
    · rw [h1, h2] at HP
      go_enter Try.func42, Try.ntmps42
      go_wp2
      go_ret
      exact ⟨ret_bool (by rw [HP.out]; rfl), BA.out⟩
  · rw [h1] at HP
    go_enter Try.func42, Try.ntmps42
    go_wp2
    go_ret
    exact ⟨ret_bool (by rw [HP.out]; rfl), BA.out⟩
def stepC (zs : List Rc) (i : Nat) : Int := if bkE (zs.getD i t0).us = 0 then (if bkN (zs.getD i t0).us = (zs.getD i t0).nt ∧ bkM (zs.getD i t0).us = (zs.getD i t0).na then (if 0 < i ∧ prec (zs.getD (i - 1) t0) (zs.getD i t0) = false then 8 else 0) else 6) else bkE (zs.getD i t0).us
theorem stepC_eq (zs : List Rc) (i : Nat) : stepC zs i = if bkE (zs.getD i t0).us = 0 then (if bkN (zs.getD i t0).us = (zs.getD i t0).nt ∧ bkM (zs.getD i t0).us = (zs.getD i t0).na then (if 0 < i ∧ prec (zs.getD (i - 1) t0) (zs.getD i t0) = false then 8 else 0) else 6) else bkE (zs.getD i t0).us := rfl
def chk0 (zs : List Rc) (n : Nat) : Int := (((List.range n).map (stepC zs)).find? (fun r => r != 0)).getD 0
theorem chk_at {zs : List Rc} {n k : Nat} {r : Int} (hk : k < n) (h : stepC zs k = r) (hr : r ≠ 0) (hn : ∀ j, j < k → stepC zs j = 0) : chk0 zs n = r := by
  unfold chk0
  have : ((List.range n).map (stepC zs)).find? (fun r => r != 0) = some r := by
    rw [List.find?_map, List.find?_range_eq_some.2 ⟨(by simp [h, hr] : ((fun r => r != 0) ∘ stepC zs) k = true), by simpa using hk, fun j hj => by simp [hn j hj]⟩, Option.map_some, h]
  rw [this]; rfl
theorem chk_no {zs : List Rc} {n : Nat} (hn : ∀ j, j < n → stepC zs j = 0) : chk0 zs n = 0 := by
  unfold chk0
  have : ((List.range n).map (stepC zs)).find? (fun r => r != 0) = none := by
    rw [List.find?_eq_none]
    intro x hx
    obtain ⟨j, hj, rfl⟩ := List.mem_map.1 hx
    rw [hn j (by simpa using hj)]
    decide
  rw [this]; rfl
theorem chk_zero {zs : List Rc} {n : Nat} (h : chk0 zs n = 0) : ∀ i, i < n → stepC zs i = 0 := by
  intro i hi
  refine Classical.byContradiction fun hne => ?_
  unfold chk0 at h
  cases hf : ((List.range n).map (stepC zs)).find? (fun r => r != 0) with
  | none =>
    have := List.find?_eq_none.1 hf (stepC zs i) (List.mem_map.2 ⟨i, by simpa using hi, rfl⟩)
    simp at this
    exact hne this
  | some r =>
    have h1 := List.find?_some hf
    rw [hf] at h
    simp at h h1
    exact h1 h
def chkC (zs : List Rc) (n : Nat) : Int := if 200 < n then 29 else chk0 zs n
theorem str_beq (a b : ByteArray) : (a.toList == b.toList) = decide (a = b) := by
  rw [Lib.toList_data, Lib.toList_data]
  by_cases h : a = b
  · rw [h]; simp
  · rw [decide_eq_false h, beq_eq_false_iff_ne]
    exact fun e => h (ByteArray.ext (Array.ext' e))
/-- All texts are short. -/
def Sh (m : Nat) (zs : List Rc) : Prop := ∀ p ∈ zs, p.nt.size ≤ m ∧ p.na.size ≤ m ∧ p.us.size ≤ m
theorem Sh.at {m : Nat} {zs : List Rc} (h : Sh m zs) {k : Nat} (hk : k < zs.length) : (zs.getD k t0).nt.size ≤ m ∧ (zs.getD k t0).na.size ≤ m ∧ (zs.getD k t0).us.size ≤ m := h _ (by rw [getD_at hk]; exact List.getElem_mem _)
theorem below_dn {B : Nat} {w w' : World} (h : Below B w w') (n : Nat) : Below B w (w'.drewN n) := ⟨h.os, h.tape, h.output, h.size, h.block⟩
set_option maxRecDepth 100000 in
set_option maxHeartbeats 8000000 in
theorem check19 (A : Option Addr) (n c : Nat) (zs : List Rc) (w : World) (h : Rcs w A n c zs) (hs : Sh 100000 zs) (hn : n ≤ 900000) : Calls Try.prog 19 #[.slice A n c] w fun e w' => e = .returned (.int .i64 (chkC zs n)) ∧ Below w.heap.size w w' := by
  by_cases hbig : 200 < n
  · have HF := Lib.hid (show chkC zs n = 29 by unfold chkC; rw [if_pos hbig])
    have hbz : (200 : Int) < (n : Int) := by omega
    clear h hs
    go_enter Try.func19, Try.ntmps19
    go_wp2
    go_ret
    exact ⟨ret_i64 HF.out.symm, Below.refl _ _⟩
  have HF0 := Lib.hid (show chkC zs n = chk0 zs n by unfold chkC; rw [if_neg hbig])
  have hbz : ¬ (200 : Int) < (n : Int) := by omega
  have H := Lib.hid h
  have HSh := Lib.hid hs
  clear h hs
  go_enter Try.func19, Try.ntmps19
  go_wp2
  go_loopg [3, 4, 5, 6, 7, 13] n (fun gg _ _ _ _ _ s13 wr => ∃ kk : Nat, kk ≤ n ∧ n - kk ≤ gg ∧ s13 = .int .i64 kk ∧ Hid (∀ j, j < kk → stepC zs j = 0) ∧ Hid (Below w.heap.size w wr))
  case atStart => exact ⟨0, Nat.zero_le _, by omega, rfl, Lib.hid (fun j hj => absurd hj (Nat.not_lt_zero _)), Lib.hid (Below.refl _ _)⟩
  case round =>
    obtain ⟨kk, hkk, hg, rfl, HO, BW⟩ := hrel
    by_cases hlt : kk < n
    · have hltz : (kk : Int) < (n : Int) := by omega
      obtain ⟨b, off, eA, hbl, k0, k1, k2, hfit⟩ := (H.out.below BW.out).at_ hlt
      have hsh := HSh.out.at (k := kk) (by rw [H.out.len]; exact hlt)
      have HS := Lib.hid (stepC_eq zs kk)
      have HP := Lib.hid (fun (h : 0 < kk) u (hb : Below w.heap.size w u) => (H.out.below hb).at_ (k := kk - 1) (by omega))
      have HP2 := Lib.hid (fun (h : 0 < kk) u (hb : Below w.heap.size w u) => (H.out.below hb).get (k := kk - 1) (by omega))
      subst eA
      generalize zs.getD kk t0 = p at k0 k1 k2 hfit HS hsh
      generalize zs.getD (kk - 1) t0 = pp at HS HP HP2
      have HBk := Lib.hid (back13 p.us hsh.2.2)
      unfold BkP at HBk
      have str1 := str_beq (bkN p.us) p.nt
      have str2 := str_beq (bkM p.us) p.na
      obtain ⟨EE, hEE⟩ : ∃ x, bkE p.us = x := ⟨_, rfl⟩
      obtain ⟨NN, hNN⟩ : ∃ x, bkN p.us = x := ⟨_, rfl⟩
      obtain ⟨MM, hMM⟩ : ∃ x, bkM p.us = x := ⟨_, rfl⟩
      rw [hEE, hNN, hMM] at HBk HS
      rw [hNN] at str1
      rw [hMM] at str2
      clear hEE hNN hMM
      have BA := Lib.hid (BW.out.alloc BW.out.size (.cells #[.string p.nt, .string p.na, .string p.us] 59))
      have XN := Lib.hid (blk_new wr [.string p.nt, .string p.na, .string p.us] 59)
      by_cases c0 : EE = 0
      · subst c0
        by_cases c1 : NN = p.nt
        · rw [decide_eq_true c1] at str1
          by_cases c2 : MM = p.na
          · rw [decide_eq_true c2] at str2
            have HSS := Lib.hid (show stepC zs kk = if 0 < kk ∧ prec pp p = false then 8 else 0 by rw [HS.out, if_pos rfl, if_pos ⟨c1, c2⟩])
            clear HS c1 c2
            by_cases hk0 : 0 < kk
            · have hgz : (0 : Int) < (kk : Int) := by omega
              have hgd : decide ((0 : Int) < (kk : Int)) = true := decide_eq_true hgz
              have e1 : IntKind.i64.wrap ((kk : Int) - 1) = (kk : Int) - 1 := IntWalk.i64_in _ (by omega)
              have e2 : ((kk : Int) - 1).toNat = kk - 1 := by omega
              have e3 : (0 : Int) ≤ (kk : Int) - 1 := by omega
              have e4 : (kk : Int) - 1 < (n : Int) := by omega
              have e5 : (1 : Int) ≤ (kk : Int) := by omega
              cases ho : prec pp p
              · have HF := Lib.hid (show stepC zs kk = 8 by rw [HSS.out, if_pos ⟨hk0, ho⟩])
                have hob : Hid (prec pp p = false) := Lib.hid ho
                go_upto_region 11 with (go_at_call 13; (with_reducible refine (HBk.out _).mono ?_); rintro e w3 ⟨rfl, hb3⟩; have B3 := Lib.hid (BA.out.trans (hb3.mono BA.out.size)); have X3 := Lib.hid (XN.out.below hb3); clear hb3; have q0 := X3.out.cell (i := 0) rfl; have q1 := X3.out.cell (i := 1) rfl; have q2 := X3.out.cell (i := 2) rfl)
                have PR : Hid (∀ u, Below w3.heap.size w3 u → World.rangeAt u b (off + (kk - 1) * 3) (enc pp)) := Lib.hid (fun u hb => by
                  obtain ⟨b2, off2, e5, _, hr2, _⟩ := HP2.out hk0 u (B3.out.trans (hb.mono B3.out.size))
                  simp only [Option.some.injEq, Addr.mk.injEq, and_true] at e5
                  obtain ⟨rfl, rfl⟩ := e5
                  exact hr2)
                generalize hbx : wr.heap.size = bx at X3 ⊢
                clear hbx q0 q1 q2 k0 k1 k2
                refine wp_region_held_drew (S := (fun w0 => Below w3.heap.size w3 w0)) (by kernel_rfl) ((Below.refl _ _).drew) (fun hH0 => ?_)
                generalize w3.drew = y0 at hH0 ⊢
                have RB0 : Hid (Below w3.heap.size w3 y0) := Lib.hid hH0
                refine wpAnyH_take (i := 0) (oi := ({ dst := some 38, op := Op.move (Operand.tmp 3), type := 3, pos := "bridge.go:136", after := #[], guard := none } : Oper)) (v := ?hv1) rfl (by kernel_rfl) (by kernel_rfl) (by kernel_rfl) (fun _ _ _ h => h) (Or.inl ⟨by rfl, ?hy1⟩) (by assumption) ?hr1
                case hy1 => (intro w hSw; (try dsimp only at hSw); go_simp; (try with_reducible rfl))
                try simp only [Act.put, List.setIfInBounds_toArray, List.set_cons_zero, List.set_cons_succ]
                refine wpAnyH_take (i := 1) (oi := ({ dst := some 39, op := Op.binOp BinOp.gtr 3 (Operand.tmp 38) (Operand.const (Value.int IntKind.i64 0)) 3, type := 4, pos := "bridge.go:136", after := #[{ on := 0, ground := Ground.data }], guard := none } : Oper)) (v := ?hv2) rfl (by kernel_rfl) (by kernel_rfl) (by kernel_rfl) (fun _ _ _ h => h) (Or.inl ⟨by rfl, ?hy2⟩) (by assumption) ?hr2
                case hy2 => (intro w hSw; (try dsimp only at hSw); go_simp; (try with_reducible rfl))
                try simp only [Act.put, List.setIfInBounds_toArray, List.set_cons_zero, List.set_cons_succ]
                refine wpAnyH_take (i := 2) (oi := ({ dst := some 40, op := Op.move (Operand.tmp 39), type := 4, pos := "bridge.go:136", after := #[{ on := 1, ground := Ground.data }], guard := none } : Oper)) (v := ?hv3) rfl (by kernel_rfl) (by kernel_rfl) (by kernel_rfl) (fun _ _ _ h => h) (Or.inl ⟨by rfl, ?hy3⟩) (by assumption) ?hr3
                case hy3 => (intro w hSw; (try dsimp only at hSw); go_simp; (try with_reducible rfl))
                try simp only [Act.put, List.setIfInBounds_toArray, List.set_cons_zero, List.set_cons_succ]
                refine wpAnyH_take (i := 3) (oi := ({ dst := some 41, op := Op.move (Operand.tmp 0), type := 32, pos := "bridge.go:136", after := #[{ on := 2, ground := Ground.guard }], guard := some (2, true) } : Oper)) (v := ?hv4) rfl (by kernel_rfl) (by kernel_rfl) (by kernel_rfl) (fun _ _ _ h => h) (Or.inl ⟨by rfl, ?hy4⟩) (by assumption) ?hr4
                case hy4 => (intro w hSw; (try dsimp only at hSw); go_simp; (try with_reducible rfl))
                try simp only [Act.put, List.setIfInBounds_toArray, List.set_cons_zero, List.set_cons_succ]
                refine wpAnyH_take (i := 4) (oi := ({ dst := some 42, op := Op.move (Operand.tmp 3), type := 3, pos := "bridge.go:136", after := #[{ on := 2, ground := Ground.guard }], guard := some (2, true) } : Oper)) (v := ?hv5) rfl (by kernel_rfl) (by kernel_rfl) (by kernel_rfl) (fun _ _ _ h => h) (Or.inl ⟨by rfl, ?hy5⟩) (by assumption) ?hr5
                case hy5 => (intro w hSw; (try dsimp only at hSw); go_simp; (try with_reducible rfl))
                try simp only [Act.put, List.setIfInBounds_toArray, List.set_cons_zero, List.set_cons_succ]
                refine wpAnyH_take (i := 5) (oi := ({ dst := some 43, op := Op.binOp BinOp.sub 3 (Operand.tmp 42) (Operand.const (Value.int IntKind.i64 1)) 3, type := 3, pos := "bridge.go:136", after := #[{ on := 4, ground := Ground.data }, { on := 2, ground := Ground.guard }], guard := some (2, true) } : Oper)) (v := ?hv6) rfl (by kernel_rfl) (by kernel_rfl) (by kernel_rfl) (fun _ _ _ h => h) (Or.inl ⟨by rfl, ?hy6⟩) (by assumption) ?hr6
                case hy6 => (intro w hSw; (try dsimp only at hSw); go_simp; (try with_reducible rfl))
                try simp only [Act.put, List.setIfInBounds_toArray, List.set_cons_zero, List.set_cons_succ]
                refine wpAnyH_take (i := 6) (oi := ({ dst := some 44, op := Op.indexAddr 32 (Operand.tmp 41) (Operand.tmp 43), type := 0, pos := "bridge.go:136", after := #[{ on := 3, ground := Ground.data }, { on := 5, ground := Ground.data }, { on := 2, ground := Ground.guard }], guard := some (2, true) } : Oper)) (v := ?hv7) rfl (by kernel_rfl) (by kernel_rfl) (by kernel_rfl) (fun _ _ _ h => h) (Or.inl ⟨by rfl, ?hy7⟩) (by assumption) ?hr7
                case hy7 => (intro w hSw; (try dsimp only at hSw); go_simp; (try with_reducible rfl))
                try simp only [Act.put, List.setIfInBounds_toArray, List.set_cons_zero, List.set_cons_succ]
                refine wpAnyH_take (i := 7) (oi := ({ dst := some 45, op := Op.load 59 (Operand.tmp 44), type := 59, pos := "bridge.go:136", after := #[{ on := 6, ground := Ground.data }, { on := 2, ground := Ground.guard }], guard := some (2, true) } : Oper)) (v := .agg #[.string pp.nt, .string pp.na, .string pp.us]) rfl (by kernel_rfl) (by kernel_rfl) (by kernel_rfl) (fun _ _ _ h => h) (yieldsIf_load_mid (by rfl) 59 _ rfl b (off + (kk - 1) * 3) rfl [.string pp.nt, .string pp.na, .string pp.us] _ (fun w0 hw0 => PR.out w0 hw0) Try.underlying59 rfl size59) (by assumption) ?_
                try simp only [Act.put, List.setIfInBounds_toArray, List.set_cons_zero, List.set_cons_succ]
                refine wpAnyH_take (i := 8) (oi := ({ dst := some 46, op := Op.load 59 (Operand.tmp 4), type := 59, pos := "bridge.go:136", after := #[{ on := 2, ground := Ground.guard }], guard := some (2, true) } : Oper)) (v := .agg #[.string p.nt, .string p.na, .string p.us]) rfl (by kernel_rfl) (by kernel_rfl) (by kernel_rfl) (fun _ _ _ h => h) (yieldsIf_load_mid (by rfl) 59 _ rfl bx 0 rfl [.string p.nt, .string p.na, .string p.us] _ (fun w0 hw0 => (X3.out.below hw0).range) Try.underlying59 rfl size59) (by assumption) ?_
                try simp only [Act.put, List.setIfInBounds_toArray, List.set_cons_zero, List.set_cons_succ]
                refine wpAnyH_ready (rs := [9]) (by kernel_rfl) (by simp) ?_
                refine AllReadyH.cons (o := ({ dst := some 47, op := Op.call { callee := Callee.value (Operand.func 42), args := #[Operand.tmp 45, Operand.tmp 46], argTypes := #[59, 59] }, type := 4, pos := "bridge.go:136", after := #[{ on := 7, ground := Ground.data }, { on := 8, ground := Ground.data }, { on := 2, ground := Ground.chain }, { on := 2, ground := Ground.guard }], guard := some (2, true) } : Oper)) rfl (fun KK hKK => ?_) AllReadyH.nil
                go_simp
                (with_reducible refine (precedes42 pp p _).mono ?_)
                rintro e0 y1 ⟨rfl, hb⟩
                have RB1 := Lib.hid (RB0.out.trans (hb.mono RB0.out.size))
                clear hb
                refine hKK.out _ _ (RB1.out) (fun hH1 => ?_)
                clear hKK KK
                try simp only [Act.put, List.setIfInBounds_toArray, List.set_cons_zero, List.set_cons_succ]
                refine wpAnyH_take (i := 10) (oi := ({ dst := some 48, op := Op.unOp UnOp.not 4 (Operand.tmp 47), type := 4, pos := "bridge.go:136", after := #[{ on := 9, ground := Ground.data }, { on := 2, ground := Ground.guard }], guard := some (2, true) } : Oper)) (v := ?hv8) rfl (by kernel_rfl) (by kernel_rfl) (by kernel_rfl) (fun _ _ _ h => h) (Or.inl ⟨by rfl, ?hy8⟩) (by assumption) ?hr8
                case hy8 => (intro w hSw; (try dsimp only at hSw); go_simp; (try with_reducible rfl))
                try simp only [Act.put, List.setIfInBounds_toArray, List.set_cons_zero, List.set_cons_succ]
                refine wpAnyH_take (i := 11) (oi := ({ dst := some 49, op := Op.pick (Operand.tmp 40) (Operand.tmp 48) (Operand.const (Value.bool false)), type := 4, pos := "bridge.go:136", after := #[{ on := 2, ground := Ground.data }, { on := 10, ground := Ground.data }], guard := none } : Oper)) (v := ?hv9) rfl (by kernel_rfl) (by kernel_rfl) (by kernel_rfl) (fun _ _ _ h => h) (Or.inl ⟨by rfl, ?hy9⟩) (by assumption) ?hr9
                case hy9 => (intro w hSw; (try dsimp only at hSw); go_simp; (try with_reducible rfl))
                try simp only [Act.put, List.setIfInBounds_toArray, List.set_cons_zero, List.set_cons_succ]
                refine wpAnyH_done (by kernel_rfl) ?_ _
                go_wp2
                go_ret
                exact ⟨ret_i64 (by rw [HF0.out]; exact (chk_at hlt HF.out (by decide) HO.out).symm), B3.out.trans (RB1.out.mono B3.out.size)⟩
              · have HF := Lib.hid (show stepC zs kk = 0 by rw [HSS.out, if_neg (by rw [ho]; rintro ⟨_, h⟩; cases h)])
                go_upto_region 11 with (go_at_call 13; (with_reducible refine (HBk.out _).mono ?_); rintro e w3 ⟨rfl, hb3⟩; have B3 := Lib.hid (BA.out.trans (hb3.mono BA.out.size)); have X3 := Lib.hid (XN.out.below hb3); clear hb3; have q0 := X3.out.cell (i := 0) rfl; have q1 := X3.out.cell (i := 1) rfl; have q2 := X3.out.cell (i := 2) rfl)
                have PR : Hid (∀ u, Below w3.heap.size w3 u → World.rangeAt u b (off + (kk - 1) * 3) (enc pp)) := Lib.hid (fun u hb => by
                  obtain ⟨b2, off2, e5, _, hr2, _⟩ := HP2.out hk0 u (B3.out.trans (hb.mono B3.out.size))
                  simp only [Option.some.injEq, Addr.mk.injEq, and_true] at e5
                  obtain ⟨rfl, rfl⟩ := e5
                  exact hr2)
                generalize hbx : wr.heap.size = bx at X3 ⊢
                clear hbx q0 q1 q2 k0 k1 k2
                refine wp_region_held_drew (S := (fun w0 => Below w3.heap.size w3 w0)) (by kernel_rfl) ((Below.refl _ _).drew) (fun hH0 => ?_)
                generalize w3.drew = y0 at hH0 ⊢
                have RB0 : Hid (Below w3.heap.size w3 y0) := Lib.hid hH0
                refine wpAnyH_take (i := 0) (oi := ({ dst := some 38, op := Op.move (Operand.tmp 3), type := 3, pos := "bridge.go:136", after := #[], guard := none } : Oper)) (v := ?hv10) rfl (by kernel_rfl) (by kernel_rfl) (by kernel_rfl) (fun _ _ _ h => h) (Or.inl ⟨by rfl, ?hy10⟩) (by assumption) ?hr10
                case hy10 => (intro w hSw; (try dsimp only at hSw); go_simp; (try with_reducible rfl))
                try simp only [Act.put, List.setIfInBounds_toArray, List.set_cons_zero, List.set_cons_succ]
                refine wpAnyH_take (i := 1) (oi := ({ dst := some 39, op := Op.binOp BinOp.gtr 3 (Operand.tmp 38) (Operand.const (Value.int IntKind.i64 0)) 3, type := 4, pos := "bridge.go:136", after := #[{ on := 0, ground := Ground.data }], guard := none } : Oper)) (v := ?hv11) rfl (by kernel_rfl) (by kernel_rfl) (by kernel_rfl) (fun _ _ _ h => h) (Or.inl ⟨by rfl, ?hy11⟩) (by assumption) ?hr11
                case hy11 => (intro w hSw; (try dsimp only at hSw); go_simp; (try with_reducible rfl))
                try simp only [Act.put, List.setIfInBounds_toArray, List.set_cons_zero, List.set_cons_succ]
                refine wpAnyH_take (i := 2) (oi := ({ dst := some 40, op := Op.move (Operand.tmp 39), type := 4, pos := "bridge.go:136", after := #[{ on := 1, ground := Ground.data }], guard := none } : Oper)) (v := ?hv12) rfl (by kernel_rfl) (by kernel_rfl) (by kernel_rfl) (fun _ _ _ h => h) (Or.inl ⟨by rfl, ?hy12⟩) (by assumption) ?hr12
                case hy12 => (intro w hSw; (try dsimp only at hSw); go_simp; (try with_reducible rfl))
                try simp only [Act.put, List.setIfInBounds_toArray, List.set_cons_zero, List.set_cons_succ]
                refine wpAnyH_take (i := 3) (oi := ({ dst := some 41, op := Op.move (Operand.tmp 0), type := 32, pos := "bridge.go:136", after := #[{ on := 2, ground := Ground.guard }], guard := some (2, true) } : Oper)) (v := ?hv13) rfl (by kernel_rfl) (by kernel_rfl) (by kernel_rfl) (fun _ _ _ h => h) (Or.inl ⟨by rfl, ?hy13⟩) (by assumption) ?hr13
                case hy13 => (intro w hSw; (try dsimp only at hSw); go_simp; (try with_reducible rfl))
                try simp only [Act.put, List.setIfInBounds_toArray, List.set_cons_zero, List.set_cons_succ]
                refine wpAnyH_take (i := 4) (oi := ({ dst := some 42, op := Op.move (Operand.tmp 3), type := 3, pos := "bridge.go:136", after := #[{ on := 2, ground := Ground.guard }], guard := some (2, true) } : Oper)) (v := ?hv14) rfl (by kernel_rfl) (by kernel_rfl) (by kernel_rfl) (fun _ _ _ h => h) (Or.inl ⟨by rfl, ?hy14⟩) (by assumption) ?hr14
                case hy14 => (intro w hSw; (try dsimp only at hSw); go_simp; (try with_reducible rfl))
                try simp only [Act.put, List.setIfInBounds_toArray, List.set_cons_zero, List.set_cons_succ]
                refine wpAnyH_take (i := 5) (oi := ({ dst := some 43, op := Op.binOp BinOp.sub 3 (Operand.tmp 42) (Operand.const (Value.int IntKind.i64 1)) 3, type := 3, pos := "bridge.go:136", after := #[{ on := 4, ground := Ground.data }, { on := 2, ground := Ground.guard }], guard := some (2, true) } : Oper)) (v := ?hv15) rfl (by kernel_rfl) (by kernel_rfl) (by kernel_rfl) (fun _ _ _ h => h) (Or.inl ⟨by rfl, ?hy15⟩) (by assumption) ?hr15
                case hy15 => (intro w hSw; (try dsimp only at hSw); go_simp; (try with_reducible rfl))
                try simp only [Act.put, List.setIfInBounds_toArray, List.set_cons_zero, List.set_cons_succ]
                refine wpAnyH_take (i := 6) (oi := ({ dst := some 44, op := Op.indexAddr 32 (Operand.tmp 41) (Operand.tmp 43), type := 0, pos := "bridge.go:136", after := #[{ on := 3, ground := Ground.data }, { on := 5, ground := Ground.data }, { on := 2, ground := Ground.guard }], guard := some (2, true) } : Oper)) (v := ?hv16) rfl (by kernel_rfl) (by kernel_rfl) (by kernel_rfl) (fun _ _ _ h => h) (Or.inl ⟨by rfl, ?hy16⟩) (by assumption) ?hr16
                case hy16 => (intro w hSw; (try dsimp only at hSw); go_simp; (try with_reducible rfl))
                try simp only [Act.put, List.setIfInBounds_toArray, List.set_cons_zero, List.set_cons_succ]
                refine wpAnyH_take (i := 7) (oi := ({ dst := some 45, op := Op.load 59 (Operand.tmp 44), type := 59, pos := "bridge.go:136", after := #[{ on := 6, ground := Ground.data }, { on := 2, ground := Ground.guard }], guard := some (2, true) } : Oper)) (v := .agg #[.string pp.nt, .string pp.na, .string pp.us]) rfl (by kernel_rfl) (by kernel_rfl) (by kernel_rfl) (fun _ _ _ h => h) (yieldsIf_load_mid (by rfl) 59 _ rfl b (off + (kk - 1) * 3) rfl [.string pp.nt, .string pp.na, .string pp.us] _ (fun w0 hw0 => PR.out w0 hw0) Try.underlying59 rfl size59) (by assumption) ?_
                try simp only [Act.put, List.setIfInBounds_toArray, List.set_cons_zero, List.set_cons_succ]
                refine wpAnyH_take (i := 8) (oi := ({ dst := some 46, op := Op.load 59 (Operand.tmp 4), type := 59, pos := "bridge.go:136", after := #[{ on := 2, ground := Ground.guard }], guard := some (2, true) } : Oper)) (v := .agg #[.string p.nt, .string p.na, .string p.us]) rfl (by kernel_rfl) (by kernel_rfl) (by kernel_rfl) (fun _ _ _ h => h) (yieldsIf_load_mid (by rfl) 59 _ rfl bx 0 rfl [.string p.nt, .string p.na, .string p.us] _ (fun w0 hw0 => (X3.out.below hw0).range) Try.underlying59 rfl size59) (by assumption) ?_
                try simp only [Act.put, List.setIfInBounds_toArray, List.set_cons_zero, List.set_cons_succ]
                refine wpAnyH_ready (rs := [9]) (by kernel_rfl) (by simp) ?_
                refine AllReadyH.cons (o := ({ dst := some 47, op := Op.call { callee := Callee.value (Operand.func 42), args := #[Operand.tmp 45, Operand.tmp 46], argTypes := #[59, 59] }, type := 4, pos := "bridge.go:136", after := #[{ on := 7, ground := Ground.data }, { on := 8, ground := Ground.data }, { on := 2, ground := Ground.chain }, { on := 2, ground := Ground.guard }], guard := some (2, true) } : Oper)) rfl (fun KK hKK => ?_) AllReadyH.nil
                go_simp
                (with_reducible refine (precedes42 pp p _).mono ?_)
                rintro e0 y1 ⟨rfl, hb⟩
                have RB1 := Lib.hid (RB0.out.trans (hb.mono RB0.out.size))
                clear hb
                refine hKK.out _ _ (RB1.out) (fun hH1 => ?_)
                clear hKK KK
                try simp only [Act.put, List.setIfInBounds_toArray, List.set_cons_zero, List.set_cons_succ]
                refine wpAnyH_take (i := 10) (oi := ({ dst := some 48, op := Op.unOp UnOp.not 4 (Operand.tmp 47), type := 4, pos := "bridge.go:136", after := #[{ on := 9, ground := Ground.data }, { on := 2, ground := Ground.guard }], guard := some (2, true) } : Oper)) (v := ?hv17) rfl (by kernel_rfl) (by kernel_rfl) (by kernel_rfl) (fun _ _ _ h => h) (Or.inl ⟨by rfl, ?hy17⟩) (by assumption) ?hr17
                case hy17 => (intro w hSw; (try dsimp only at hSw); go_simp; (try with_reducible rfl))
                try simp only [Act.put, List.setIfInBounds_toArray, List.set_cons_zero, List.set_cons_succ]
                refine wpAnyH_take (i := 11) (oi := ({ dst := some 49, op := Op.pick (Operand.tmp 40) (Operand.tmp 48) (Operand.const (Value.bool false)), type := 4, pos := "bridge.go:136", after := #[{ on := 2, ground := Ground.data }, { on := 10, ground := Ground.data }], guard := none } : Oper)) (v := ?hv18) rfl (by kernel_rfl) (by kernel_rfl) (by kernel_rfl) (fun _ _ _ h => h) (Or.inl ⟨by rfl, ?hy18⟩) (by assumption) ?hr18
                case hy18 => (intro w hSw; (try dsimp only at hSw); go_simp; (try with_reducible rfl))
                try simp only [Act.put, List.setIfInBounds_toArray, List.set_cons_zero, List.set_cons_succ]
                refine wpAnyH_done (by kernel_rfl) ?_ _
                go_wp2
                go_roundg (n - (kk + 1))
                case measure => omega
                case rel =>
                  refine ⟨kk + 1, by omega, by omega, by go_num, Lib.hid (fun j hj => ?_), Lib.hid (B3.out.trans (RB1.out.mono B3.out.size))⟩
                  by_cases e : j = kk
                  · subst e; exact HF.out
                  · exact HO.out j (by omega)
            · have hgz : ¬ (0 : Int) < (kk : Int) := by omega
              have hgd : decide ((0 : Int) < (kk : Int)) = false := decide_eq_false hgz
              have HF := Lib.hid (show stepC zs kk = 0 by rw [HSS.out, if_neg (fun h => hk0 h.1)])
              clear HSS HP HP2
              go_upto_region 11 with (go_at_call 13; (with_reducible refine (HBk.out _).mono ?_); rintro e w3 ⟨rfl, hb3⟩; have B3 := Lib.hid (BA.out.trans (hb3.mono BA.out.size)); have X3 := Lib.hid (XN.out.below hb3); clear hb3; have q0 := X3.out.cell (i := 0) rfl; have q1 := X3.out.cell (i := 1) rfl; have q2 := X3.out.cell (i := 2) rfl)
              go_quiet (fail)
              go_wp2
              go_roundg (n - (kk + 1))
              case measure => omega
              case rel =>
                refine ⟨kk + 1, by omega, by omega, by go_num, Lib.hid (fun j hj => ?_), Lib.hid (below_dn B3.out _)⟩
                by_cases e : j = kk
                · subst e; exact HF.out
                · exact HO.out j (by omega)
          · rw [decide_eq_false c2] at str2
            have HF := Lib.hid (show stepC zs kk = 6 by rw [HS.out, if_pos rfl, if_neg (show ¬ (NN = p.nt ∧ MM = p.na) from fun h => c2 h.2)])
            clear HS HP HP2
            go_wp2_with (go_at_call 13; (with_reducible refine (HBk.out _).mono ?_); rintro e w3 ⟨rfl, hb3⟩; have B3 := Lib.hid (BA.out.trans (hb3.mono BA.out.size)); have X3 := Lib.hid (XN.out.below hb3); clear hb3; have q0 := X3.out.cell (i := 0) rfl; have q1 := X3.out.cell (i := 1) rfl; have q2 := X3.out.cell (i := 2) rfl)
            go_ret
            exact ⟨ret_i64 (by rw [HF0.out]; exact (chk_at hlt HF.out (by decide) HO.out).symm), B3.out⟩
        · rw [decide_eq_false c1] at str1
          have HF := Lib.hid (show stepC zs kk = 6 by rw [HS.out, if_pos rfl, if_neg (show ¬ (NN = p.nt ∧ MM = p.na) from fun h => c1 h.1)])
          clear HS HP HP2
          go_wp2_with (go_at_call 13; (with_reducible refine (HBk.out _).mono ?_); rintro e w3 ⟨rfl, hb3⟩; have B3 := Lib.hid (BA.out.trans (hb3.mono BA.out.size)); have X3 := Lib.hid (XN.out.below hb3); clear hb3; have q0 := X3.out.cell (i := 0) rfl; have q1 := X3.out.cell (i := 1) rfl; have q2 := X3.out.cell (i := 2) rfl)
          go_ret
          exact ⟨ret_i64 (by rw [HF0.out]; exact (chk_at hlt HF.out (by decide) HO.out).symm), B3.out⟩
      · have c0b : (EE != 0) = true := by simpa using c0
        have HC := Lib.hid c0
        have HF := Lib.hid (show stepC zs kk = EE by rw [HS.out, if_neg HC.out])
        clear HS HP HP2
        go_wp2_with (go_at_call 13; (with_reducible refine (HBk.out _).mono ?_); rintro e w3 ⟨rfl, hb3⟩; have B3 := Lib.hid (BA.out.trans (hb3.mono BA.out.size)); have X3 := Lib.hid (XN.out.below hb3); clear hb3; have q0 := X3.out.cell (i := 0) rfl; have q1 := X3.out.cell (i := 1) rfl; have q2 := X3.out.cell (i := 2) rfl)
        go_ret
        exact ⟨ret_i64 (by rw [HF0.out]; exact (chk_at hlt HF.out HC.out HO.out).symm), B3.out⟩
    · have hltz : ¬ (kk : Int) < (n : Int) := by omega
      obtain rfl : kk = n := by omega
      have HF := Lib.hid (chk_no HO.out)
      go_wp2
      go_ret
      exact ⟨ret_i64 (by rw [HF0.out]; exact HF.out.symm), BW.out⟩
set_option maxRecDepth 100000 in
set_option maxHeartbeats 8000000 in
theorem rcheck20 (A : Option Addr) (n c : Nat) (zs : List Rc) (w : World) (h : Rcs w A n c zs) (hs : Sh 100000 zs) (hn : n ≤ 900000) : Calls Try.prog 20 #[.slice A n c] w fun e w' => e = .returned (.int .i64 (chkC zs n)) ∧ Below w.heap.size w w' := by
  by_cases hbig : 200 < n
  · have HF := Lib.hid (show chkC zs n = 29 by unfold chkC; rw [if_pos hbig])
    have hbz : (200 : Int) < (n : Int) := by omega
    clear h hs
    go_enter Try.func20, Try.ntmps20
    go_wp2
    go_ret
    exact ⟨ret_i64 HF.out.symm, Below.refl _ _⟩
  have HF0 := Lib.hid (show chkC zs n = chk0 zs n by unfold chkC; rw [if_neg hbig])
  have hbz : ¬ (200 : Int) < (n : Int) := by omega
  have H := Lib.hid h
  have HSh := Lib.hid hs
  clear h hs
  go_enter Try.func20, Try.ntmps20
  go_wp2
  go_loopg [3, 4, 5, 6] n (fun gg s3 _ _ _ wr => ∃ kk : Nat, kk ≤ n ∧ n - kk ≤ gg ∧ s3 = .int .i64 kk ∧ Hid (∀ j, j < kk → stepC zs j = 0) ∧ Hid (Below w.heap.size w wr))
  case atStart => exact ⟨0, Nat.zero_le _, by omega, rfl, Lib.hid (fun j hj => absurd hj (Nat.not_lt_zero _)), Lib.hid (Below.refl _ _)⟩
  case round =>
    obtain ⟨kk, hkk, hg, rfl, HO, BW⟩ := hrel
    by_cases hlt : kk < n
    · have hltz : (kk : Int) < (n : Int) := by omega
      obtain ⟨b, off, eA, hbl, k0, k1, k2, hfit⟩ := (H.out.below BW.out).at_ hlt
      have hsh := HSh.out.at (k := kk) (by rw [H.out.len]; exact hlt)
      have HS := Lib.hid (stepC_eq zs kk)
      have HP := Lib.hid (fun (h : 0 < kk) u (hb : Below w.heap.size w u) => (H.out.below hb).at_ (k := kk - 1) (by omega))
      have HP2 := Lib.hid (fun (h : 0 < kk) u (hb : Below w.heap.size w u) => (H.out.below hb).get (k := kk - 1) (by omega))
      subst eA
      generalize zs.getD kk t0 = p at k0 k1 k2 hfit HS hsh
      generalize zs.getD (kk - 1) t0 = pp at HS HP HP2
      have HBk := Lib.hid (rback14 p.us hsh.2.2)
      unfold BkP at HBk
      have str1 := str_beq (bkN p.us) p.nt
      have str2 := str_beq (bkM p.us) p.na
      obtain ⟨EE, hEE⟩ : ∃ x, bkE p.us = x := ⟨_, rfl⟩
      obtain ⟨NN, hNN⟩ : ∃ x, bkN p.us = x := ⟨_, rfl⟩
      obtain ⟨MM, hMM⟩ : ∃ x, bkM p.us = x := ⟨_, rfl⟩
      rw [hEE, hNN, hMM] at HBk HS
      rw [hNN] at str1
      rw [hMM] at str2
      clear hEE hNN hMM
      by_cases c0 : EE = 0
      · subst c0
        by_cases c1 : NN = p.nt
        · rw [decide_eq_true c1] at str1
          by_cases c2 : MM = p.na
          · rw [decide_eq_true c2] at str2
            have HSS := Lib.hid (show stepC zs kk = if 0 < kk ∧ prec pp p = false then 8 else 0 by rw [HS.out, if_pos rfl, if_pos ⟨c1, c2⟩])
            clear HS c1 c2
            by_cases hk0 : 0 < kk
            · have hgz : (0 : Int) < (kk : Int) := by omega
              have hgd : decide ((0 : Int) < (kk : Int)) = true := decide_eq_true hgz
              have e1 : IntKind.i64.wrap ((kk : Int) - 1) = (kk : Int) - 1 := IntWalk.i64_in _ (by omega)
              have e2 : ((kk : Int) - 1).toNat = kk - 1 := by omega
              have e3 : (0 : Int) ≤ (kk : Int) - 1 := by omega
              have e4 : (kk : Int) - 1 < (n : Int) := by omega
              have e5 : (1 : Int) ≤ (kk : Int) := by omega
              have HPd := Lib.hid (show prec pp p = (Op.bytesLess pp.nt.toList p.nt.toList || ((pp.nt.toList == p.nt.toList) && Op.bytesLess pp.na.toList p.na.toList)) from rfl)
              rcases tri3 p.nt.toList pp.nt.toList with ⟨a1, a2, a3, a4⟩ | ⟨-, a1, a2, a3, a4⟩ | ⟨a1, a2, a3, a4⟩
              · have HPr := Lib.hid (show prec pp p = false by rw [HPd.out, a4, a3]; rfl)
                clear HPd
                have HF := Lib.hid (show stepC zs kk = 8 by rw [HSS.out, if_pos ⟨hk0, HPr.out⟩])
                go_upto_region 11 with (go_at_call 14; (with_reducible refine (HBk.out _).mono ?_); rintro e w3 ⟨rfl, hb3⟩; have B3 := Lib.hid (BW.out.trans (hb3.mono BW.out.size)); have q0 := (hb3.cell (p := ⟨b, off + kk * 3, none⟩) hbl).trans k0; have q1 := (hb3.cell (p := ⟨b, off + kk * 3 + 1, none⟩) hbl).trans k1; clear hb3 k0 k1 k2)
                obtain ⟨b2, off2, e6, hbl2, j0, j1, _, _⟩ := HP.out hk0 w3 B3.out
                simp only [Option.some.injEq, Addr.mk.injEq, and_true] at e6
                obtain ⟨rfl, rfl⟩ := e6
                go_quiet (fail)
                go_wp2
                go_ret
                exact ⟨ret_i64 (by rw [HF0.out]; exact (chk_at hlt HF.out (by decide) HO.out).symm), below_dn B3.out _⟩
              · rcases tri3 p.na.toList pp.na.toList with ⟨b1, b2, b3, b4⟩ | ⟨-, b1, b2, b3, b4⟩ | ⟨b1, b2, b3, b4⟩
                · have HPr := Lib.hid (show prec pp p = false by rw [HPd.out, a4, a2, b4]; rfl)
                  clear HPd
                  have HF := Lib.hid (show stepC zs kk = 8 by rw [HSS.out, if_pos ⟨hk0, HPr.out⟩])
                  go_upto_region 11 with (go_at_call 14; (with_reducible refine (HBk.out _).mono ?_); rintro e w3 ⟨rfl, hb3⟩; have B3 := Lib.hid (BW.out.trans (hb3.mono BW.out.size)); have q0 := (hb3.cell (p := ⟨b, off + kk * 3, none⟩) hbl).trans k0; have q1 := (hb3.cell (p := ⟨b, off + kk * 3 + 1, none⟩) hbl).trans k1; clear hb3 k0 k1 k2)
                  obtain ⟨b2, off2, e6, hbl2, j0, j1, _, _⟩ := HP.out hk0 w3 B3.out
                  simp only [Option.some.injEq, Addr.mk.injEq, and_true] at e6
                  obtain ⟨rfl, rfl⟩ := e6
                  go_quiet (fail)
                  go_wp2
                  go_ret
                  exact ⟨ret_i64 (by rw [HF0.out]; exact (chk_at hlt HF.out (by decide) HO.out).symm), below_dn B3.out _⟩
                · have HPr := Lib.hid (show prec pp p = false by rw [HPd.out, a4, a2, b4]; rfl)
                  clear HPd
                  have HF := Lib.hid (show stepC zs kk = 8 by rw [HSS.out, if_pos ⟨hk0, HPr.out⟩])
                  go_upto_region 11 with (go_at_call 14; (with_reducible refine (HBk.out _).mono ?_); rintro e w3 ⟨rfl, hb3⟩; have B3 := Lib.hid (BW.out.trans (hb3.mono BW.out.size)); have q0 := (hb3.cell (p := ⟨b, off + kk * 3, none⟩) hbl).trans k0; have q1 := (hb3.cell (p := ⟨b, off + kk * 3 + 1, none⟩) hbl).trans k1; clear hb3 k0 k1 k2)
                  obtain ⟨b2, off2, e6, hbl2, j0, j1, _, _⟩ := HP.out hk0 w3 B3.out
                  simp only [Option.some.injEq, Addr.mk.injEq, and_true] at e6
                  obtain ⟨rfl, rfl⟩ := e6
                  go_quiet (fail)
                  go_wp2
                  go_ret
                  exact ⟨ret_i64 (by rw [HF0.out]; exact (chk_at hlt HF.out (by decide) HO.out).symm), below_dn B3.out _⟩
                · have HPr := Lib.hid (show prec pp p = true by rw [HPd.out, a4, a2, b1]; rfl)
                  clear HPd
                  have HF := Lib.hid (show stepC zs kk = 0 by rw [HSS.out, if_neg (by rw [HPr.out]; rintro ⟨_, h⟩; cases h)])
                  go_upto_region 11 with (go_at_call 14; (with_reducible refine (HBk.out _).mono ?_); rintro e w3 ⟨rfl, hb3⟩; have B3 := Lib.hid (BW.out.trans (hb3.mono BW.out.size)); have q0 := (hb3.cell (p := ⟨b, off + kk * 3, none⟩) hbl).trans k0; have q1 := (hb3.cell (p := ⟨b, off + kk * 3 + 1, none⟩) hbl).trans k1; clear hb3 k0 k1 k2)
                  obtain ⟨b2, off2, e6, hbl2, j0, j1, _, _⟩ := HP.out hk0 w3 B3.out
                  simp only [Option.some.injEq, Addr.mk.injEq, and_true] at e6
                  obtain ⟨rfl, rfl⟩ := e6
                  go_quiet (fail)
                  go_wp2
                  go_roundg (n - (kk + 1))
                  case measure => omega
                  case rel =>
                    refine ⟨kk + 1, by omega, by omega, by go_num, Lib.hid (fun j hj => ?_), Lib.hid (below_dn B3.out _)⟩
                    by_cases e : j = kk
                    · subst e; exact HF.out
                    · exact HO.out j (by omega)
              · have HPr := Lib.hid (show prec pp p = true by rw [HPd.out, a1]; rfl)
                clear HPd
                have HF := Lib.hid (show stepC zs kk = 0 by rw [HSS.out, if_neg (by rw [HPr.out]; rintro ⟨_, h⟩; cases h)])
                go_upto_region 11 with (go_at_call 14; (with_reducible refine (HBk.out _).mono ?_); rintro e w3 ⟨rfl, hb3⟩; have B3 := Lib.hid (BW.out.trans (hb3.mono BW.out.size)); have q0 := (hb3.cell (p := ⟨b, off + kk * 3, none⟩) hbl).trans k0; have q1 := (hb3.cell (p := ⟨b, off + kk * 3 + 1, none⟩) hbl).trans k1; clear hb3 k0 k1 k2)
                obtain ⟨b2, off2, e6, hbl2, j0, j1, _, _⟩ := HP.out hk0 w3 B3.out
                simp only [Option.some.injEq, Addr.mk.injEq, and_true] at e6
                obtain ⟨rfl, rfl⟩ := e6
                go_quiet (fail)
                go_wp2
                go_roundg (n - (kk + 1))
                case measure => omega
                case rel =>
                  refine ⟨kk + 1, by omega, by omega, by go_num, Lib.hid (fun j hj => ?_), Lib.hid (below_dn B3.out _)⟩
                  by_cases e : j = kk
                  · subst e; exact HF.out
                  · exact HO.out j (by omega)
            · have hgz : ¬ (0 : Int) < (kk : Int) := by omega
              have hgd : decide ((0 : Int) < (kk : Int)) = false := decide_eq_false hgz
              have HF := Lib.hid (show stepC zs kk = 0 by rw [HSS.out, if_neg (fun h => hk0 h.1)])
              clear HSS HP HP2
              go_upto_region 11 with (go_at_call 14; (with_reducible refine (HBk.out _).mono ?_); rintro e w3 ⟨rfl, hb3⟩; have B3 := Lib.hid (BW.out.trans (hb3.mono BW.out.size)); have q0 := (hb3.cell (p := ⟨b, off + kk * 3, none⟩) hbl).trans k0; have q1 := (hb3.cell (p := ⟨b, off + kk * 3 + 1, none⟩) hbl).trans k1; clear hb3 k0 k1 k2)
              go_quiet (fail)
              go_wp2
              go_roundg (n - (kk + 1))
              case measure => omega
              case rel =>
                refine ⟨kk + 1, by omega, by omega, by go_num, Lib.hid (fun j hj => ?_), Lib.hid (below_dn B3.out _)⟩
                by_cases e : j = kk
                · subst e; exact HF.out
                · exact HO.out j (by omega)
          · rw [decide_eq_false c2] at str2
            have HF := Lib.hid (show stepC zs kk = 6 by rw [HS.out, if_pos rfl, if_neg (show ¬ (NN = p.nt ∧ MM = p.na) from fun h => c2 h.2)])
            clear HS HP HP2
            go_wp2_with (go_at_call 14; (with_reducible refine (HBk.out _).mono ?_); rintro e w3 ⟨rfl, hb3⟩; have B3 := Lib.hid (BW.out.trans (hb3.mono BW.out.size)); have q0 := (hb3.cell (p := ⟨b, off + kk * 3, none⟩) hbl).trans k0; have q1 := (hb3.cell (p := ⟨b, off + kk * 3 + 1, none⟩) hbl).trans k1; clear hb3 k0 k1 k2)
            go_ret
            exact ⟨ret_i64 (by rw [HF0.out]; exact (chk_at hlt HF.out (by decide) HO.out).symm), B3.out⟩
        · rw [decide_eq_false c1] at str1
          have HF := Lib.hid (show stepC zs kk = 6 by rw [HS.out, if_pos rfl, if_neg (show ¬ (NN = p.nt ∧ MM = p.na) from fun h => c1 h.1)])
          clear HS HP HP2
          go_wp2_with (go_at_call 14; (with_reducible refine (HBk.out _).mono ?_); rintro e w3 ⟨rfl, hb3⟩; have B3 := Lib.hid (BW.out.trans (hb3.mono BW.out.size)); have q0 := (hb3.cell (p := ⟨b, off + kk * 3, none⟩) hbl).trans k0; have q1 := (hb3.cell (p := ⟨b, off + kk * 3 + 1, none⟩) hbl).trans k1; clear hb3 k0 k1 k2)
          go_ret
          exact ⟨ret_i64 (by rw [HF0.out]; exact (chk_at hlt HF.out (by decide) HO.out).symm), B3.out⟩
      · have c0b : (EE != 0) = true := by simpa using c0
        have HC := Lib.hid c0
        have HF := Lib.hid (show stepC zs kk = EE by rw [HS.out, if_neg HC.out])
        clear HS HP HP2
        go_wp2_with (go_at_call 14; (with_reducible refine (HBk.out _).mono ?_); rintro e w3 ⟨rfl, hb3⟩; have B3 := Lib.hid (BW.out.trans (hb3.mono BW.out.size)); have q0 := (hb3.cell (p := ⟨b, off + kk * 3, none⟩) hbl).trans k0; have q1 := (hb3.cell (p := ⟨b, off + kk * 3 + 1, none⟩) hbl).trans k1; clear hb3 k0 k1 k2)
        go_ret
        exact ⟨ret_i64 (by rw [HF0.out]; exact (chk_at hlt HF.out HC.out HO.out).symm), B3.out⟩
    · have hltz : ¬ (kk : Int) < (n : Int) := by omega
      obtain rfl : kk = n := by omega
      have HF := Lib.hid (chk_no HO.out)
      go_wp2
      go_ret
      exact ⟨ret_i64 (by rw [HF0.out]; exact HF.out.symm), BW.out⟩
end Go.Proofs.Ytkcceobncjoodaa
