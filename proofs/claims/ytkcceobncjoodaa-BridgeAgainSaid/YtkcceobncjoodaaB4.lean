/- Identities of other networks: a name read back, by the program and the reference. Bound: at most 1000000 bytes. -/
import Derived.Test.YtkcceobncjoodaaB3
namespace Go.Proofs.Ytkcceobncjoodaa
open Go.RowKit
set_option linter.unusedVariables false
set_option linter.unusedSimpArgs false

def upR (l : List Int) : List Int × Bool := match E.un E.fP l with | some n => (n, decide (E.esc n = l)) | none => ([], false)
def urR (l : List Int) : List Int × Bool := match E.un E.fR l with | some n => (n, true) | none => ([], false)
theorem bys_drop (s : ByteArray) (k : Nat) (h : k < s.size) : (bys s).drop k = (s[k].toNat : Int) :: (bys s).drop (k + 1) := by
  rw [List.drop_eq_getElem_cons (by rw [bys_len]; exact h), bys_getE s k h]
/-- What has been read, what is left. -/
def Rd (f : Int → Int → Option Int) (l acc : List Int) (k : Nat) : Prop := E.un f l = (E.un f (l.drop k)).map (acc ++ ·)
theorem Rd.start (f : Int → Int → Option Int) (l : List Int) : Rd f l [] 0 := by
  unfold Rd
  rw [List.drop_zero]
  cases E.un f l <;> simp
theorem Rd.plain {f : Int → Int → Option Int} {s : ByteArray} {acc : List Int} {k : Nat} (h : Rd f (bys s) acc k) (hk : k < s.size) {c : Int} (hc : (s[k].toNat : Int) = c) (hne : c ≠ 61) : Rd f (bys s) (acc ++ [c]) (k + 1) := by
  unfold Rd at h ⊢
  rw [h, bys_drop s k hk, hc, E.un_plain hne, Option.map_map]
  congr 1
  funext x
  simp
theorem Rd.two {f : Int → Int → Option Int} {s : ByteArray} {acc : List Int} {k : Nat} (h : Rd f (bys s) acc k) (hk : k + 2 < s.size) (hc : ((s[k]'(by omega)).toNat : Int) = 61) {a b x : Int} (ha : ((s[k + 1]'(by omega)).toNat : Int) = a) (hb : (s[k + 2].toNat : Int) = b) (hx : f a b = some x) : Rd f (bys s) (acc ++ [x]) (k + 3) := by
  unfold Rd at h ⊢
  rw [h, bys_drop s k (by omega), bys_drop s (k + 1) (by omega), bys_drop s (k + 2) hk, hc, ha, hb, E.un_eq, hx, Option.bind_some, Option.map_map]
  congr 1
  funext y
  simp
theorem Rd.non {f : Int → Int → Option Int} {s : ByteArray} {acc : List Int} {k : Nat} (h : Rd f (bys s) acc k) (hk : k < s.size) (hk2 : ¬ k + 2 < s.size) (hc : (s[k].toNat : Int) = 61) : E.un f (bys s) = none := by
  unfold Rd at h
  rw [h, bys_drop s k hk, hc, E.un_short (by rw [List.length_drop, bys_len]; omega)]
  rfl
theorem Rd.bad {f : Int → Int → Option Int} {s : ByteArray} {acc : List Int} {k : Nat} (h : Rd f (bys s) acc k) (hk : k + 2 < s.size) (hc : ((s[k]'(by omega)).toNat : Int) = 61) {a b : Int} (ha : ((s[k + 1]'(by omega)).toNat : Int) = a) (hb : (s[k + 2].toNat : Int) = b) (hx : f a b = none) : E.un f (bys s) = none := by
  unfold Rd at h
  rw [h, bys_drop s k (by omega), bys_drop s (k + 1) (by omega), bys_drop s (k + 2) hk, hc, ha, hb, E.un_eq, hx]
  rfl
theorem Rd.fin {f : Int → Int → Option Int} {s : ByteArray} {acc : List Int} {k : Nat} (h : Rd f (bys s) acc k) (hk : s.size ≤ k) : E.un f (bys s) = some acc := by
  unfold Rd at h
  rw [h, List.drop_eq_nil_of_le (by rw [bys_len]; exact hk)]
  simp [E.un]
theorem str_eq (l : List Int) (hl : E.Byt l) (s : ByteArray) : ((strOfNums l).toList == s.toList) = decide (l = bys s) := by
  rw [Lib.toList_data, Lib.toList_data]
  by_cases h : l = bys s
  · rw [decide_eq_true h, h, nums_bys]; simp
  · rw [decide_eq_false h, beq_eq_false_iff_ne]
    intro e
    apply h
    have : strOfNums l = s := ByteArray.ext (Array.ext' e)
    rw [← this, bys_nums hl]
theorem value58b (c : Int) (h0 : 0 ≤ c) (h1 : c ≤ 255) (w : World) : Calls Try.prog 58 #[.int .u8 c] w fun e w' => e = .returned (.int .u8 (E.dv c)) ∧ Below w.heap.size w w' :=
  (value58 c h0 h1 w).mono fun e w' ⟨h1, h2⟩ => ⟨h1, by rw [← h2]; exact Below.refl _ _⟩
theorem rvalue59b (c : Int) (h0 : 0 ≤ c) (h1 : c ≤ 255) (w : World) : Calls Try.prog 59 #[.int .u8 c] w fun e w' => e = .returned (.int .u8 (E.dr c)) ∧ Below w.heap.size w w' :=
  (rvalue59 c h0 h1 w).mono fun e w' ⟨h1, h2⟩ => ⟨h1, by rw [← h2]; exact Below.refl _ _⟩
theorem ret_sb {a b : ByteArray} {c d : Bool} (h : a = b) (k : c = d) : Ending.returned (.tuple #[.string a, .bool c]) = .returned (.tuple #[.string b, .bool d]) := by rw [h, k]
set_option maxRecDepth 100000 in
set_option maxHeartbeats 4000000 in
theorem unescape35 (s : ByteArray) (hs : s.size ≤ 1000000) (w : World) : Calls Try.prog 35 #[.string s] w fun e w' => e = .returned (.tuple #[.string (strOfNums (upR (bys s)).1), .bool (upR (bys s)).2]) ∧ Below w.heap.size w w' := by
  obtain ⟨i0, hi, hz0, hz1, hz2⟩ := info_parts info5
  have HI := Lib.hid (And.intro hi (And.intro hz0 (And.intro hz1 hz2)))
  clear hi hz0 hz1 hz2
  go_enter Try.func35, Try.ntmps35
  go_wp2
  go_loopg [4, 5] s.size (fun gg s4 s5 wr => ∃ (kk m : Nat) (v : Value) (acc : List Int), kk ≤ s.size ∧ s.size - kk ≤ gg ∧ m ≤ kk ∧ v = s4 ∧ s5 = .int .i64 kk ∧ Hid (Rd E.fP (bys s) acc kk) ∧ Hid (acc.length = m) ∧ Hid (wr.ownsRow w.heap.size 5 1 v m (b8 acc)) ∧ Hid (Below w.heap.size w wr))
  case atStart => exact ⟨0, 0, _, [], Nat.zero_le _, by omega, by omega, rfl, rfl, Lib.hid (Rd.start _ _), Lib.hid rfl, Lib.hid (World.ownsRow_made (base := w.heap.size) (e := 5) (size := 1) w #[] 0 (Nat.le_refl _) (by decide) (by simp)), Lib.hid ((Below.refl _ w).alloc (Nat.le_refl _) _)⟩
  case round =>
    obtain ⟨kk, m, v, acc, hkk, hg, hmk, rfl, rfl, HA, HM, HO, HBW⟩ := hrel
    by_cases hlt : kk < s.size
    · have hb := byte_lt s kk hlt
      by_cases hc : (s[kk].toNat : Int) = 61
      · have hC := Lib.hid hc
        have hcb : ((s[kk].toNat : Int) != 61) = false := by rw [hc]; rfl
        have e2 : IntKind.i64.wrap ((kk : Int) + 2) = (kk : Int) + 2 := IntWalk.i64_in _ (by omega)
        have e1 : IntKind.i64.wrap ((kk : Int) + 1) = (kk : Int) + 1 := IntWalk.i64_in _ (by omega)
        clear hc
        by_cases hlt2 : kk + 2 < s.size
        · have hltz : ¬ (s.size : Int) ≤ (kk : Int) + 2 := by omega
          have hb1 := byte_lt s (kk + 1) (by omega)
          have hb2 := byte_lt s (kk + 2) hlt2
          generalize ha1 : ((s[kk + 1]'(by omega)).toNat : Int) = a1 at hb1
          generalize ha2 : (s[kk + 2].toNat : Int) = a2 at hb2
          go_upto_region 9 with (fail)
          refine wp_region_held_drew (S := (fun w0 => Below w.heap.size w w0)) (by kernel_rfl) (HBW.out.drew) (fun hH0 => ?_)
          have hO0 := own_b8 HO.out (Below.refl _ wr).drew
          generalize wr.drew = y0 at hH0 hO0 ⊢
          have RB0 := Lib.hid hH0
          have RO0 := Lib.hid hO0
          refine wpAnyH_take (i := 0) (oi := ({ dst := some 28, op := Op.move (Operand.tmp 4), type := 73, pos := "bridge.go:61", after := #[], guard := none } : Oper)) (v := ?hv7) rfl (by kernel_rfl) (by kernel_rfl) (by kernel_rfl) (fun _ _ _ h => h) (Or.inl ⟨by rfl, ?hy7⟩) (by assumption) ?hr7
          case hy7 => (intro w hSw; (try dsimp only at hSw); go_simp; (try with_reducible rfl))
          try simp only [Act.put, List.setIfInBounds_toArray, List.set_cons_zero, List.set_cons_succ]
          refine wpAnyH_take (i := 1) (oi := ({ dst := some 29, op := Op.move (Operand.tmp 0), type := 9, pos := "bridge.go:61", after := #[], guard := none } : Oper)) (v := ?hv8) rfl (by kernel_rfl) (by kernel_rfl) (by kernel_rfl) (fun _ _ _ h => h) (Or.inl ⟨by rfl, ?hy8⟩) (by assumption) ?hr8
          case hy8 => (intro w hSw; (try dsimp only at hSw); go_simp; (try with_reducible rfl))
          try simp only [Act.put, List.setIfInBounds_toArray, List.set_cons_zero, List.set_cons_succ]
          refine wpAnyH_take (i := 2) (oi := ({ dst := some 30, op := Op.move (Operand.tmp 5), type := 3, pos := "bridge.go:61", after := #[], guard := none } : Oper)) (v := ?hv9) rfl (by kernel_rfl) (by kernel_rfl) (by kernel_rfl) (fun _ _ _ h => h) (Or.inl ⟨by rfl, ?hy9⟩) (by assumption) ?hr9
          case hy9 => (intro w hSw; (try dsimp only at hSw); go_simp; (try with_reducible rfl))
          try simp only [Act.put, List.setIfInBounds_toArray, List.set_cons_zero, List.set_cons_succ]
          refine wpAnyH_take (i := 3) (oi := ({ dst := some 31, op := Op.binOp BinOp.add 3 (Operand.tmp 30) (Operand.const (Value.int IntKind.i64 1)) 3, type := 3, pos := "bridge.go:61", after := #[{ on := 2, ground := Ground.data }], guard := none } : Oper)) (v := ?hv10) rfl (by kernel_rfl) (by kernel_rfl) (by kernel_rfl) (fun _ _ _ h => h) (Or.inl ⟨by rfl, ?hy10⟩) (by assumption) ?hr10
          case hy10 => (intro w hSw; (try dsimp only at hSw); go_simp; (try with_reducible rfl))
          try simp only [Act.put, List.setIfInBounds_toArray, List.set_cons_zero, List.set_cons_succ]
          refine wpAnyH_take (i := 4) (oi := ({ dst := some 32, op := Op.index 9 (Operand.tmp 29) (Operand.tmp 31), type := 5, pos := "bridge.go:61", after := #[{ on := 1, ground := Ground.data }, { on := 3, ground := Ground.data }], guard := none } : Oper)) (v := .int .u8 a1) rfl (by kernel_rfl) (by kernel_rfl) (by kernel_rfl) (fun _ _ _ h => h) (Or.inl ⟨by rfl, fun w0 hw0 => by go_simp; (try rw [dif_pos (show (0 : Int) ≤ (kk : Int) + 1 ∧ (kk : Int) + 1 < (s.size : Int) by omega)]); (try simp only [show ((kk : Int) + 1).toNat = kk + 1 by omega]); (try simp only [ha1]); (try simp only [Result.andThen_ok]); (try (intro hh9; exfalso; omega))⟩) (by assumption) ?_
          try simp only [Act.put, List.setIfInBounds_toArray, List.set_cons_zero, List.set_cons_succ]
          refine wpAnyH_take (i := 7) (oi := ({ dst := some 35, op := Op.move (Operand.tmp 0), type := 9, pos := "bridge.go:61", after := #[], guard := none } : Oper)) (v := ?hv11) rfl (by kernel_rfl) (by kernel_rfl) (by kernel_rfl) (fun _ _ _ h => h) (Or.inl ⟨by rfl, ?hy11⟩) (by assumption) ?hr11
          case hy11 => (intro w hSw; (try dsimp only at hSw); go_simp; (try with_reducible rfl))
          try simp only [Act.put, List.setIfInBounds_toArray, List.set_cons_zero, List.set_cons_succ]
          refine wpAnyH_take (i := 8) (oi := ({ dst := some 36, op := Op.move (Operand.tmp 5), type := 3, pos := "bridge.go:61", after := #[], guard := none } : Oper)) (v := ?hv12) rfl (by kernel_rfl) (by kernel_rfl) (by kernel_rfl) (fun _ _ _ h => h) (Or.inl ⟨by rfl, ?hy12⟩) (by assumption) ?hr12
          case hy12 => (intro w hSw; (try dsimp only at hSw); go_simp; (try with_reducible rfl))
          try simp only [Act.put, List.setIfInBounds_toArray, List.set_cons_zero, List.set_cons_succ]
          refine wpAnyH_take (i := 9) (oi := ({ dst := some 37, op := Op.binOp BinOp.add 3 (Operand.tmp 36) (Operand.const (Value.int IntKind.i64 2)) 3, type := 3, pos := "bridge.go:61", after := #[{ on := 8, ground := Ground.data }], guard := none } : Oper)) (v := ?hv13) rfl (by kernel_rfl) (by kernel_rfl) (by kernel_rfl) (fun _ _ _ h => h) (Or.inl ⟨by rfl, ?hy13⟩) (by assumption) ?hr13
          case hy13 => (intro w hSw; (try dsimp only at hSw); go_simp; (try with_reducible rfl))
          try simp only [Act.put, List.setIfInBounds_toArray, List.set_cons_zero, List.set_cons_succ]
          refine wpAnyH_take (i := 10) (oi := ({ dst := some 38, op := Op.index 9 (Operand.tmp 35) (Operand.tmp 37), type := 5, pos := "bridge.go:61", after := #[{ on := 7, ground := Ground.data }, { on := 9, ground := Ground.data }], guard := none } : Oper)) (v := .int .u8 a2) rfl (by kernel_rfl) (by kernel_rfl) (by kernel_rfl) (fun _ _ _ h => h) (Or.inl ⟨by rfl, fun w0 hw0 => by go_simp; (try rw [dif_pos (show (0 : Int) ≤ (kk : Int) + 2 ∧ (kk : Int) + 2 < (s.size : Int) by omega)]); (try simp only [show ((kk : Int) + 2).toNat = kk + 2 by omega]); (try simp only [ha2]); (try simp only [Result.andThen_ok]); (try (intro hh9; exfalso; omega))⟩) (by assumption) ?_
          try simp only [Act.put, List.setIfInBounds_toArray, List.set_cons_zero, List.set_cons_succ]
          refine wpAnyH_ready (rs := [5]) (by kernel_rfl) (by simp) ?_
          refine AllReadyH.cons (o := ({ dst := some 33, op := Op.call { callee := Callee.value (Operand.func 58), args := #[Operand.tmp 32], argTypes := #[5] }, type := 5, pos := "bridge.go:61", after := #[{ on := 4, ground := Ground.data }], guard := none } : Oper)) rfl (fun KK hKK => ?_) AllReadyH.nil
          go_simp
          (with_reducible refine (value58b (a1) (by omega) (by omega) _).mono ?_)
          rintro e0 y1 ⟨rfl, hb9⟩
          have RB1 := Lib.hid (RB0.out.trans (hb9.mono RB0.out.size))
          have RO1 := Lib.hid (own_b8 RO0.out hb9)
          clear hb9
          refine hKK.out _ _ (RB1.out) (fun hH1 => ?_)
          clear hKK KK
          try simp only [Act.put, List.setIfInBounds_toArray, List.set_cons_zero, List.set_cons_succ]
          refine wpAnyH_take (i := 6) (oi := ({ dst := some 34, op := Op.binOp BinOp.mul 5 (Operand.const (Value.int IntKind.u8 16)) (Operand.tmp 33) 5, type := 5, pos := "bridge.go:61", after := #[{ on := 5, ground := Ground.data }], guard := none } : Oper)) (v := ?hv14) rfl (by kernel_rfl) (by kernel_rfl) (by kernel_rfl) (fun _ _ _ h => h) (Or.inl ⟨by rfl, ?hy14⟩) (by assumption) ?hr14
          case hy14 => (intro w hSw; (try dsimp only at hSw); go_simp; (try with_reducible rfl))
          try simp only [Act.put, List.setIfInBounds_toArray, List.set_cons_zero, List.set_cons_succ]
          refine wpAnyH_ready (rs := [11]) (by kernel_rfl) (by simp) ?_
          refine AllReadyH.cons (o := ({ dst := some 39, op := Op.call { callee := Callee.value (Operand.func 58), args := #[Operand.tmp 38], argTypes := #[5] }, type := 5, pos := "bridge.go:61", after := #[{ on := 10, ground := Ground.data }, { on := 5, ground := Ground.chain }], guard := none } : Oper)) rfl (fun KK hKK => ?_) AllReadyH.nil
          go_simp
          (with_reducible refine (value58b (a2) (by omega) (by omega) _).mono ?_)
          rintro e0 y2 ⟨rfl, hb9⟩
          have RB2 := Lib.hid (RB1.out.trans (hb9.mono RB1.out.size))
          have RO2 := Lib.hid (own_b8 RO1.out hb9)
          clear hb9
          refine hKK.out _ _ (RB2.out) (fun hH2 => ?_)
          clear hKK KK
          try simp only [Act.put, List.setIfInBounds_toArray, List.set_cons_zero, List.set_cons_succ]
          refine wpAnyH_take (i := 12) (oi := ({ dst := some 40, op := Op.binOp BinOp.add 5 (Operand.tmp 34) (Operand.tmp 39) 5, type := 5, pos := "bridge.go:61", after := #[{ on := 6, ground := Ground.data }, { on := 11, ground := Ground.data }], guard := none } : Oper)) (v := ?hv15) rfl (by kernel_rfl) (by kernel_rfl) (by kernel_rfl) (fun _ _ _ h => h) (Or.inl ⟨by rfl, ?hy15⟩) (by assumption) ?hr15
          case hy15 => (intro w hSw; (try dsimp only at hSw); go_simp; (try with_reducible rfl))
          try simp only [Act.put, List.setIfInBounds_toArray, List.set_cons_zero, List.set_cons_succ]
          refine wpAnyH_ready (rs := [13]) (by kernel_rfl) (by simp) ?_
          refine AllReadyH.cons (o := ({ dst := some 41, op := Op.buildSlice 73 1 #[(0, Operand.tmp 40)], type := 73, pos := "bridge.go:61", after := #[{ on := 12, ground := Ground.data }], guard := none } : Oper)) rfl (fun KK hKK => ?_) AllReadyH.nil
          go_simp
          generalize hy3 : World.alloc _ _ = y3
          generalize hg3 : (World.heap y2).size = g0
          have RB3 : Hid (Below w.heap.size w y3) := Lib.hid (by rw [← hy3]; exact RB2.out.alloc RB2.out.size _)
          have RO3 : Hid (y3.ownsRow w.heap.size 5 1 v m (b8 acc)) := Lib.hid (by rw [← hy3]; exact RO2.out.alloc _)
          have RS : Hid (Src y3 (some ⟨g0, 0, none⟩) 1 1 1 (b8 [E.byP a1 a2])) := Lib.hid (by rw [← hy3, ← hg3]; exact src8 _ [E.byP a1 a2] 1 rfl)
          clear hy3 hg3
          refine hKK.out _ _ (RB3.out) (fun hH3 => ?_)
          clear hKK KK
          try simp only [Act.put, List.setIfInBounds_toArray, List.set_cons_zero, List.set_cons_succ]
          refine wpAnyH_ready (rs := [14]) (by kernel_rfl) (by simp) ?_
          refine AllReadyH.cons (o := ({ dst := some 42, op := Op.call { callee := Callee.builtin Builtin.append, args := #[Operand.tmp 28, Operand.tmp 41], argTypes := #[73, 73] }, type := 73, pos := "bridge.go:61", after := #[{ on := 0, ground := Ground.data }, { on := 13, ground := Ground.data }, { on := 11, ground := Ground.chain }], guard := none } : Oper)) rfl (fun KK hKK => ?_) AllReadyH.nil
          refine step_append_any _ rfl (.tmp 28) (.tmp 41) 73 rfl w.heap.size 5 i0 _ 1 1 Try.underlying73 HI.out.1 HI.out.2.1 HI.out.2.2.1 HI.out.2.2.2 rfl (by decide) v m (b8 acc) rfl RO3.out (some ⟨g0, 0, none⟩) 1 1 (b8 [E.byP a1 a2]) rfl RS.out (by unfold maxLen; omega) (by omega) RB3.out.size ?_
          intro v4 y4 hgr
          have RB4 : Hid (Below w.heap.size w y4) := Lib.hid (hgr.below RB3.out RO3.out)
          have RV := Lib.hid hgr.own
          clear hgr
          refine hKK.out _ _ (RB4.out) (fun hH4 => ?_)
          clear hKK KK
          try simp only [Act.put, List.setIfInBounds_toArray, List.set_cons_zero, List.set_cons_succ]
          refine wpAnyH_take (i := 15) (oi := ({ dst := some 4, op := Op.assign (Operand.tmp 42), type := 73, pos := "bridge.go:61", after := #[{ on := 14, ground := Ground.data }, { on := 14, ground := Ground.chain }, { on := 0, ground := Ground.phase }, { on := 1, ground := Ground.phase }, { on := 2, ground := Ground.phase }, { on := 3, ground := Ground.phase }, { on := 4, ground := Ground.phase }, { on := 5, ground := Ground.phase }, { on := 6, ground := Ground.phase }, { on := 7, ground := Ground.phase }, { on := 8, ground := Ground.phase }, { on := 9, ground := Ground.phase }, { on := 10, ground := Ground.phase }, { on := 11, ground := Ground.phase }, { on := 12, ground := Ground.phase }, { on := 13, ground := Ground.phase }, { on := 14, ground := Ground.phase }], guard := none } : Oper)) (v := ?hv16) rfl (by kernel_rfl) (by kernel_rfl) (by kernel_rfl) (fun _ _ _ h => h) (Or.inl ⟨by rfl, ?hy16⟩) (by assumption) ?hr16
          case hy16 => (intro w hSw; (try dsimp only at hSw); go_simp; (try with_reducible rfl))
          try simp only [Act.put, List.setIfInBounds_toArray, List.set_cons_zero, List.set_cons_succ]
          refine wpAnyH_done (by kernel_rfl) ?_ _
          go_wp2
          go_roundg (s.size - (kk + 3))
          case measure => omega
          case rel => exact ⟨kk + 3, m + 1, v4, acc ++ [E.byP a1 a2], by omega, by omega, by omega, rfl, by go_num, Lib.hid (HA.out.two hlt2 hC.out ha1 ha2 rfl), Lib.hid (by rw [List.length_append, HM.out]; rfl), Lib.hid (by have := RV.out; rw [b8_append] at this; exact this), RB4⟩
        · have hltz : (s.size : Int) ≤ (kk : Int) + 2 := by omega
          have HF := Lib.hid (show upR (bys s) = ([], false) by unfold upR; rw [HA.out.non hlt hlt2 hC.out])
          go_wp2
          go_ret2
          exact ⟨by rw [HF.out]; rfl, HBW.out⟩
      · have hC := Lib.hid hc
        have hcb : ((s[kk].toNat : Int) != 61) = true := by simpa using hc
        clear hc
        generalize hc : (s[kk].toNat : Int) = c at hcb hb hC
        go_wp2_with (at_builtin; refine wpList_append_any _ rfl (.tmp 17) (.tmp 21) 73 rfl w.heap.size 5 i0 _ 1 1 Try.underlying73 HI.out.1 HI.out.2.1 HI.out.2.2.1 HI.out.2.2.2 rfl (by decide) v m (b8 acc) rfl (HO.out.alloc _) (some ⟨wr.heap.size, 0, none⟩) 1 1 (b8 [c]) rfl (src8 wr [c] 1 rfl) (by unfold maxLen; omega) (by omega) (by have := HBW.out.size; simp; omega) ?_; intro v3 w3 hgr; have B3 := Lib.hid (hgr.below (HBW.out.alloc HBW.out.size _) (HO.out.alloc _)); have O3 := Lib.hid hgr.own; clear hgr)
        go_roundg (s.size - (kk + 1))
        case measure => omega
        case rel => exact ⟨kk + 1, m + 1, v3, acc ++ [c], by omega, by omega, by omega, rfl, by go_num, Lib.hid (HA.out.plain hlt hc hC.out), Lib.hid (by rw [List.length_append, HM.out]; rfl), Lib.hid (by have := O3.out; rw [b8_append] at this; exact this), B3⟩
    · have HF := Lib.hid (HA.out.fin (by omega))
      have hbt := E.un_byt E.fP_byt _ _ (bys_byt s) HF.out
      have HR := Lib.hid (show upR (bys s) = (acc, decide (E.esc acc = bys s)) by unfold upR; rw [HF.out])
      have hq := str_eq (E.esc acc) (E.esc_byt hbt) s
      have HE := Lib.hid (fun y => escape26 (strOfNums acc) (by rw [strOfNums_size, HM.out]; omega) y)
      rw [bys_nums hbt] at HE
      have hb0 := HBW.out
      clear hbt
      go_upto_region 11 with (fail)
      refine wp_region_held_drew (S := (fun w0 => Below wr.heap.size wr w0)) (by kernel_rfl) ((Below.refl _ _).drew) (fun hH0 => ?_)
      generalize wr.drew = y0 at hH0 ⊢
      have RB0 : Hid (Below wr.heap.size wr y0) := Lib.hid hH0
      refine wpAnyH_take (i := 0) (oi := ({ dst := some 45, op := Op.move (Operand.tmp 4), type := 73, pos := "bridge.go:65", after := #[], guard := none } : Oper)) (v := ?hv1) rfl (by kernel_rfl) (by kernel_rfl) (by kernel_rfl) (fun _ _ _ h => h) (Or.inl ⟨by rfl, ?hy1⟩) (by assumption) ?hr1
      case hy1 => (intro w hSw; (try dsimp only at hSw); go_simp; (try with_reducible rfl))
      try simp only [Act.put, List.setIfInBounds_toArray, List.set_cons_zero, List.set_cons_succ]
      refine wpAnyH_take (i := 1) (oi := ({ dst := some 46, op := Op.convert 73 9 (Operand.tmp 45), type := 9, pos := "bridge.go:65", after := #[{ on := 0, ground := Ground.data }], guard := none } : Oper)) (v := .string (strOfNums acc)) rfl (by kernel_rfl) (by kernel_rfl) (by kernel_rfl) (fun _ _ _ h => h) (Or.inl ⟨by rfl, fun w0 hw0 => by have q0 := conv8 (own_b8 HO.out hw0); go_simp⟩) (by assumption) ?_
      try simp only [Act.put, List.setIfInBounds_toArray, List.set_cons_zero, List.set_cons_succ]
      refine wpAnyH_take (i := 2) (oi := ({ dst := some 47, op := Op.move (Operand.tmp 4), type := 73, pos := "bridge.go:65", after := #[], guard := none } : Oper)) (v := ?hv2) rfl (by kernel_rfl) (by kernel_rfl) (by kernel_rfl) (fun _ _ _ h => h) (Or.inl ⟨by rfl, ?hy2⟩) (by assumption) ?hr2
      case hy2 => (intro w hSw; (try dsimp only at hSw); go_simp; (try with_reducible rfl))
      try simp only [Act.put, List.setIfInBounds_toArray, List.set_cons_zero, List.set_cons_succ]
      refine wpAnyH_take (i := 3) (oi := ({ dst := some 48, op := Op.convert 73 9 (Operand.tmp 47), type := 9, pos := "bridge.go:65", after := #[{ on := 2, ground := Ground.data }], guard := none } : Oper)) (v := .string (strOfNums acc)) rfl (by kernel_rfl) (by kernel_rfl) (by kernel_rfl) (fun _ _ _ h => h) (Or.inl ⟨by rfl, fun w0 hw0 => by have q0 := conv8 (own_b8 HO.out hw0); go_simp⟩) (by assumption) ?_
      try simp only [Act.put, List.setIfInBounds_toArray, List.set_cons_zero, List.set_cons_succ]
      refine wpAnyH_take (i := 5) (oi := ({ dst := some 50, op := Op.move (Operand.tmp 0), type := 9, pos := "bridge.go:65", after := #[{ on := 7, ground := Ground.gcOnly Departure.lateStores }], guard := none } : Oper)) (v := ?hv3) rfl (by kernel_rfl) (by kernel_rfl) (by kernel_rfl) (fun _ _ _ h => h) (Or.inl ⟨by rfl, ?hy3⟩) (by assumption) ?hr3
      case hy3 => (intro w hSw; (try dsimp only at hSw); go_simp; (try with_reducible rfl))
      try simp only [Act.put, List.setIfInBounds_toArray, List.set_cons_zero, List.set_cons_succ]
      refine wpAnyH_ready (rs := [4]) (by kernel_rfl) (by simp) ?_
      refine AllReadyH.cons (o := ({ dst := some 49, op := Op.call { callee := Callee.value (Operand.func 26), args := #[Operand.tmp 48], argTypes := #[9] }, type := 9, pos := "bridge.go:65", after := #[{ on := 3, ground := Ground.data }], guard := none } : Oper)) rfl (fun KK hKK => ?_) AllReadyH.nil
      go_simp
      (with_reducible refine (HE.out _).mono ?_)
      rintro e0 y1 ⟨rfl, hb⟩
      have RB1 := Lib.hid (RB0.out.trans (hb.mono RB0.out.size))
      clear hb
      refine hKK.out _ _ (RB1.out) (fun hH1 => ?_)
      clear hKK KK
      try simp only [Act.put, List.setIfInBounds_toArray, List.set_cons_zero, List.set_cons_succ]
      refine wpAnyH_take (i := 6) (oi := ({ dst := some 51, op := Op.binOp BinOp.eql 9 (Operand.tmp 49) (Operand.tmp 50) 9, type := 4, pos := "bridge.go:65", after := #[{ on := 4, ground := Ground.data }, { on := 5, ground := Ground.data }, { on := 7, ground := Ground.gcOnly Departure.lateStores }], guard := none } : Oper)) (v := ?hv4) rfl (by kernel_rfl) (by kernel_rfl) (by kernel_rfl) (fun _ _ _ h => h) (Or.inl ⟨by rfl, ?hy4⟩) (by assumption) ?hr4
      case hy4 => (intro w hSw; (try dsimp only at hSw); go_simp; (try with_reducible rfl))
      try simp only [Act.put, List.setIfInBounds_toArray, List.set_cons_zero, List.set_cons_succ]
      refine wpAnyH_take (i := 7) (oi := ({ dst := some 2, op := Op.assign (Operand.tmp 46), type := 9, pos := "bridge.go:65", after := #[{ on := 1, ground := Ground.data }, { on := 4, ground := Ground.chain }, { on := 0, ground := Ground.phase }, { on := 1, ground := Ground.phase }, { on := 2, ground := Ground.textOnly Departure.lateStores }, { on := 3, ground := Ground.textOnly Departure.lateStores }, { on := 4, ground := Ground.textOnly Departure.lateStoresUnsure }, { on := 5, ground := Ground.textOnly Departure.lateStores }, { on := 6, ground := Ground.textOnly Departure.lateStores }], guard := none } : Oper)) (v := ?hv5) rfl (by kernel_rfl) (by kernel_rfl) (by kernel_rfl) (fun _ _ _ h => h) (Or.inl ⟨by rfl, ?hy5⟩) (by assumption) ?hr5
      case hy5 => (intro w hSw; (try dsimp only at hSw); go_simp; (try with_reducible rfl))
      try simp only [Act.put, List.setIfInBounds_toArray, List.set_cons_zero, List.set_cons_succ]
      refine wpAnyH_take (i := 8) (oi := ({ dst := some 3, op := Op.assign (Operand.tmp 51), type := 4, pos := "bridge.go:65", after := #[{ on := 6, ground := Ground.data }, { on := 7, ground := Ground.chain }, { on := 0, ground := Ground.phase }, { on := 1, ground := Ground.phase }, { on := 2, ground := Ground.phase }, { on := 3, ground := Ground.phase }, { on := 4, ground := Ground.phase }, { on := 5, ground := Ground.phase }, { on := 6, ground := Ground.phase }, { on := 7, ground := Ground.phase }], guard := none } : Oper)) (v := ?hv6) rfl (by kernel_rfl) (by kernel_rfl) (by kernel_rfl) (fun _ _ _ h => h) (Or.inl ⟨by rfl, ?hy6⟩) (by assumption) ?hr6
      case hy6 => (intro w hSw; (try dsimp only at hSw); go_simp; (try with_reducible rfl))
      try simp only [Act.put, List.setIfInBounds_toArray, List.set_cons_zero, List.set_cons_succ]
      refine wpAnyH_done (by kernel_rfl) ?_ _
      go_wp2
      go_ret2
      exact ⟨by rw [HR.out]; rfl, HBW.out.trans (RB1.out.mono HBW.out.size)⟩
set_option maxRecDepth 100000 in
set_option maxHeartbeats 4000000 in
theorem runescape37 (s : ByteArray) (hs : s.size ≤ 1000000) (w : World) : Calls Try.prog 37 #[.string s] w fun e w' => e = .returned (.tuple #[.string (strOfNums (urR (bys s)).1), .bool (urR (bys s)).2]) ∧ Below w.heap.size w w' := by
  obtain ⟨i0, hi, hz0, hz1, hz2⟩ := info_parts info5
  have HI := Lib.hid (And.intro hi (And.intro hz0 (And.intro hz1 hz2)))
  clear hi hz0 hz1 hz2
  go_enter Try.func37, Try.ntmps37
  go_wp2
  go_loopg [4, 5] s.size (fun gg s4 s5 wr => ∃ (kk m : Nat) (v : Value) (acc : List Int), kk ≤ s.size ∧ s.size - kk ≤ gg ∧ m ≤ kk ∧ v = s4 ∧ s5 = .int .i64 kk ∧ Hid (Rd E.fR (bys s) acc kk) ∧ Hid (acc.length = m) ∧ Hid (wr.ownsRow w.heap.size 5 1 v m (b8 acc)) ∧ Hid (Below w.heap.size w wr))
  case atStart => exact ⟨0, 0, _, [], Nat.zero_le _, by omega, by omega, rfl, rfl, Lib.hid (Rd.start _ _), Lib.hid rfl, Lib.hid (World.ownsRow_nil w _ 5 1), Lib.hid (Below.refl _ _)⟩
  case round =>
    obtain ⟨kk, m, v, acc, hkk, hg, hmk, rfl, rfl, HA, HM, HO, HBW⟩ := hrel
    by_cases hlt : kk < s.size
    · have hb := byte_lt s kk hlt
      by_cases hc : (s[kk].toNat : Int) = 61
      · have hC := Lib.hid hc
        have hcb : ((s[kk].toNat : Int) != 61) = false := by rw [hc]; rfl
        have e2 : IntKind.i64.wrap ((kk : Int) + 2) = (kk : Int) + 2 := IntWalk.i64_in _ (by omega)
        have e1 : IntKind.i64.wrap ((kk : Int) + 1) = (kk : Int) + 1 := IntWalk.i64_in _ (by omega)
        clear hc
        by_cases hlt2 : kk + 2 < s.size
        · have hltz : ¬ (s.size : Int) ≤ (kk : Int) + 2 := by omega
          have hb1 := byte_lt s (kk + 1) (by omega)
          have hb2 := byte_lt s (kk + 2) hlt2
          generalize ha1 : ((s[kk + 1]'(by omega)).toNat : Int) = a1 at hb1
          generalize ha2 : (s[kk + 2].toNat : Int) = a2 at hb2
          have r1 := E.dr_rng a1
          have r2 := E.dr_rng a2
          have hk1 : kk + 1 < s.size := by omega
          have hk1z : (kk : Int) + 1 < (s.size : Int) := by omega
          have hk2z : (kk : Int) + 2 < (s.size : Int) := by omega
          by_cases g1 : 15 < E.dr a1
          · have HF := Lib.hid (show urR (bys s) = ([], false) by unfold urR; rw [HA.out.bad hlt2 hC.out ha1 ha2 (by unfold E.fR; rw [if_neg (by omega)])])
            go_wp2_with (first | (go_at_call 59; (with_reducible refine (rvalue59 a1 (by omega) (by omega) _).mono ?_); rintro e w' ⟨rfl, rfl⟩) | (go_at_call 59; (with_reducible refine (rvalue59 a2 (by omega) (by omega) _).mono ?_); rintro e w' ⟨rfl, rfl⟩))
            go_ret2
            exact ⟨by rw [HF.out]; rfl, HBW.out⟩
          by_cases g2 : 15 < E.dr a2
          · have HF := Lib.hid (show urR (bys s) = ([], false) by unfold urR; rw [HA.out.bad hlt2 hC.out ha1 ha2 (by unfold E.fR; rw [if_neg (by omega)])])
            go_wp2_with (first | (go_at_call 59; (with_reducible refine (rvalue59 a1 (by omega) (by omega) _).mono ?_); rintro e w' ⟨rfl, rfl⟩) | (go_at_call 59; (with_reducible refine (rvalue59 a2 (by omega) (by omega) _).mono ?_); rintro e w' ⟨rfl, rfl⟩))
            go_ret2
            exact ⟨by rw [HF.out]; rfl, HBW.out⟩
          have e5 : IntKind.u8.wrap (16 * E.dr a1) = 16 * E.dr a1 := IntWalk.u8_in _ (by omega)
          have e6 : IntKind.u8.wrap (16 * E.dr a1 + E.dr a2) = 16 * E.dr a1 + E.dr a2 := IntWalk.u8_in _ (by omega)
          have hfR := Lib.hid (show E.fR a1 a2 = some (16 * E.dr a1 + E.dr a2) by unfold E.fR; rw [if_pos (by omega)])
          go_upto_region 9 with (first | (go_at_call 59; (with_reducible refine (rvalue59 a1 (by omega) (by omega) _).mono ?_); rintro e w' ⟨rfl, rfl⟩) | (go_at_call 59; (with_reducible refine (rvalue59 a2 (by omega) (by omega) _).mono ?_); rintro e w' ⟨rfl, rfl⟩))
          refine wp_region_held_drew (S := (fun w0 => Below w.heap.size w w0)) (by kernel_rfl) (HBW.out.drew) (fun hH0 => ?_)
          have hO0 := own_b8 HO.out (Below.refl _ wr).drew
          generalize wr.drew = y0 at hH0 hO0 ⊢
          have RB0 := Lib.hid hH0
          have RO0 := Lib.hid hO0
          refine wpAnyH_take (i := 0) (oi := ({ dst := some 43, op := Op.move (Operand.tmp 4), type := 73, pos := "ref.go:83", after := #[], guard := none } : Oper)) (v := ?hv17) rfl (by kernel_rfl) (by kernel_rfl) (by kernel_rfl) (fun _ _ _ h => h) (Or.inl ⟨by rfl, ?hy17⟩) (by assumption) ?hr17
          case hy17 => (intro w hSw; (try dsimp only at hSw); go_simp; (try with_reducible rfl))
          try simp only [Act.put, List.setIfInBounds_toArray, List.set_cons_zero, List.set_cons_succ]
          refine wpAnyH_take (i := 1) (oi := ({ dst := some 44, op := Op.move (Operand.tmp 0), type := 9, pos := "ref.go:83", after := #[], guard := none } : Oper)) (v := ?hv18) rfl (by kernel_rfl) (by kernel_rfl) (by kernel_rfl) (fun _ _ _ h => h) (Or.inl ⟨by rfl, ?hy18⟩) (by assumption) ?hr18
          case hy18 => (intro w hSw; (try dsimp only at hSw); go_simp; (try with_reducible rfl))
          try simp only [Act.put, List.setIfInBounds_toArray, List.set_cons_zero, List.set_cons_succ]
          refine wpAnyH_take (i := 2) (oi := ({ dst := some 45, op := Op.move (Operand.tmp 5), type := 3, pos := "ref.go:83", after := #[], guard := none } : Oper)) (v := ?hv19) rfl (by kernel_rfl) (by kernel_rfl) (by kernel_rfl) (fun _ _ _ h => h) (Or.inl ⟨by rfl, ?hy19⟩) (by assumption) ?hr19
          case hy19 => (intro w hSw; (try dsimp only at hSw); go_simp; (try with_reducible rfl))
          try simp only [Act.put, List.setIfInBounds_toArray, List.set_cons_zero, List.set_cons_succ]
          refine wpAnyH_take (i := 3) (oi := ({ dst := some 46, op := Op.binOp BinOp.add 3 (Operand.tmp 45) (Operand.const (Value.int IntKind.i64 1)) 3, type := 3, pos := "ref.go:83", after := #[{ on := 2, ground := Ground.data }], guard := none } : Oper)) (v := ?hv20) rfl (by kernel_rfl) (by kernel_rfl) (by kernel_rfl) (fun _ _ _ h => h) (Or.inl ⟨by rfl, ?hy20⟩) (by assumption) ?hr20
          case hy20 => (intro w hSw; (try dsimp only at hSw); go_simp; (try with_reducible rfl))
          try simp only [Act.put, List.setIfInBounds_toArray, List.set_cons_zero, List.set_cons_succ]
          refine wpAnyH_take (i := 4) (oi := ({ dst := some 47, op := Op.index 9 (Operand.tmp 44) (Operand.tmp 46), type := 5, pos := "ref.go:83", after := #[{ on := 1, ground := Ground.data }, { on := 3, ground := Ground.data }], guard := none } : Oper)) (v := .int .u8 a1) rfl (by kernel_rfl) (by kernel_rfl) (by kernel_rfl) (fun _ _ _ h => h) (Or.inl ⟨by rfl, fun w0 hw0 => by go_simp; (try rw [dif_pos (show (0 : Int) ≤ (kk : Int) + 1 ∧ (kk : Int) + 1 < (s.size : Int) by omega)]); (try simp only [show ((kk : Int) + 1).toNat = kk + 1 by omega]); (try simp only [ha1]); (try simp only [Result.andThen_ok]); (try (intro hh9; exfalso; omega))⟩) (by assumption) ?_
          try simp only [Act.put, List.setIfInBounds_toArray, List.set_cons_zero, List.set_cons_succ]
          refine wpAnyH_take (i := 7) (oi := ({ dst := some 50, op := Op.move (Operand.tmp 0), type := 9, pos := "ref.go:83", after := #[], guard := none } : Oper)) (v := ?hv21) rfl (by kernel_rfl) (by kernel_rfl) (by kernel_rfl) (fun _ _ _ h => h) (Or.inl ⟨by rfl, ?hy21⟩) (by assumption) ?hr21
          case hy21 => (intro w hSw; (try dsimp only at hSw); go_simp; (try with_reducible rfl))
          try simp only [Act.put, List.setIfInBounds_toArray, List.set_cons_zero, List.set_cons_succ]
          refine wpAnyH_take (i := 8) (oi := ({ dst := some 51, op := Op.move (Operand.tmp 5), type := 3, pos := "ref.go:83", after := #[], guard := none } : Oper)) (v := ?hv22) rfl (by kernel_rfl) (by kernel_rfl) (by kernel_rfl) (fun _ _ _ h => h) (Or.inl ⟨by rfl, ?hy22⟩) (by assumption) ?hr22
          case hy22 => (intro w hSw; (try dsimp only at hSw); go_simp; (try with_reducible rfl))
          try simp only [Act.put, List.setIfInBounds_toArray, List.set_cons_zero, List.set_cons_succ]
          refine wpAnyH_take (i := 9) (oi := ({ dst := some 52, op := Op.binOp BinOp.add 3 (Operand.tmp 51) (Operand.const (Value.int IntKind.i64 2)) 3, type := 3, pos := "ref.go:83", after := #[{ on := 8, ground := Ground.data }], guard := none } : Oper)) (v := ?hv23) rfl (by kernel_rfl) (by kernel_rfl) (by kernel_rfl) (fun _ _ _ h => h) (Or.inl ⟨by rfl, ?hy23⟩) (by assumption) ?hr23
          case hy23 => (intro w hSw; (try dsimp only at hSw); go_simp; (try with_reducible rfl))
          try simp only [Act.put, List.setIfInBounds_toArray, List.set_cons_zero, List.set_cons_succ]
          refine wpAnyH_take (i := 10) (oi := ({ dst := some 53, op := Op.index 9 (Operand.tmp 50) (Operand.tmp 52), type := 5, pos := "ref.go:83", after := #[{ on := 7, ground := Ground.data }, { on := 9, ground := Ground.data }], guard := none } : Oper)) (v := .int .u8 a2) rfl (by kernel_rfl) (by kernel_rfl) (by kernel_rfl) (fun _ _ _ h => h) (Or.inl ⟨by rfl, fun w0 hw0 => by go_simp; (try rw [dif_pos (show (0 : Int) ≤ (kk : Int) + 2 ∧ (kk : Int) + 2 < (s.size : Int) by omega)]); (try simp only [show ((kk : Int) + 2).toNat = kk + 2 by omega]); (try simp only [ha2]); (try simp only [Result.andThen_ok]); (try (intro hh9; exfalso; omega))⟩) (by assumption) ?_
          try simp only [Act.put, List.setIfInBounds_toArray, List.set_cons_zero, List.set_cons_succ]
          refine wpAnyH_ready (rs := [5]) (by kernel_rfl) (by simp) ?_
          refine AllReadyH.cons (o := ({ dst := some 48, op := Op.call { callee := Callee.value (Operand.func 59), args := #[Operand.tmp 47], argTypes := #[5] }, type := 5, pos := "ref.go:83", after := #[{ on := 4, ground := Ground.data }], guard := none } : Oper)) rfl (fun KK hKK => ?_) AllReadyH.nil
          go_simp
          (with_reducible refine (rvalue59b (a1) (by omega) (by omega) _).mono ?_)
          rintro e0 y1 ⟨rfl, hb9⟩
          have RB1 := Lib.hid (RB0.out.trans (hb9.mono RB0.out.size))
          have RO1 := Lib.hid (own_b8 RO0.out hb9)
          clear hb9
          refine hKK.out _ _ (RB1.out) (fun hH1 => ?_)
          clear hKK KK
          try simp only [Act.put, List.setIfInBounds_toArray, List.set_cons_zero, List.set_cons_succ]
          refine wpAnyH_take (i := 6) (oi := ({ dst := some 49, op := Op.binOp BinOp.mul 5 (Operand.const (Value.int IntKind.u8 16)) (Operand.tmp 48) 5, type := 5, pos := "ref.go:83", after := #[{ on := 5, ground := Ground.data }], guard := none } : Oper)) (v := ?hv24) rfl (by kernel_rfl) (by kernel_rfl) (by kernel_rfl) (fun _ _ _ h => h) (Or.inl ⟨by rfl, ?hy24⟩) (by assumption) ?hr24
          case hy24 => (intro w hSw; (try dsimp only at hSw); go_simp; (try with_reducible rfl))
          try simp only [Act.put, List.setIfInBounds_toArray, List.set_cons_zero, List.set_cons_succ]
          refine wpAnyH_ready (rs := [11]) (by kernel_rfl) (by simp) ?_
          refine AllReadyH.cons (o := ({ dst := some 54, op := Op.call { callee := Callee.value (Operand.func 59), args := #[Operand.tmp 53], argTypes := #[5] }, type := 5, pos := "ref.go:83", after := #[{ on := 10, ground := Ground.data }, { on := 5, ground := Ground.chain }], guard := none } : Oper)) rfl (fun KK hKK => ?_) AllReadyH.nil
          go_simp
          (with_reducible refine (rvalue59b (a2) (by omega) (by omega) _).mono ?_)
          rintro e0 y2 ⟨rfl, hb9⟩
          have RB2 := Lib.hid (RB1.out.trans (hb9.mono RB1.out.size))
          have RO2 := Lib.hid (own_b8 RO1.out hb9)
          clear hb9
          refine hKK.out _ _ (RB2.out) (fun hH2 => ?_)
          clear hKK KK
          try simp only [Act.put, List.setIfInBounds_toArray, List.set_cons_zero, List.set_cons_succ]
          refine wpAnyH_take (i := 12) (oi := ({ dst := some 55, op := Op.binOp BinOp.add 5 (Operand.tmp 49) (Operand.tmp 54) 5, type := 5, pos := "ref.go:83", after := #[{ on := 6, ground := Ground.data }, { on := 11, ground := Ground.data }], guard := none } : Oper)) (v := ?hv25) rfl (by kernel_rfl) (by kernel_rfl) (by kernel_rfl) (fun _ _ _ h => h) (Or.inl ⟨by rfl, ?hy25⟩) (by assumption) ?hr25
          case hy25 => (intro w hSw; (try dsimp only at hSw); go_simp; (try with_reducible rfl))
          try simp only [Act.put, List.setIfInBounds_toArray, List.set_cons_zero, List.set_cons_succ]
          refine wpAnyH_ready (rs := [13]) (by kernel_rfl) (by simp) ?_
          refine AllReadyH.cons (o := ({ dst := some 56, op := Op.buildSlice 73 1 #[(0, Operand.tmp 55)], type := 73, pos := "ref.go:83", after := #[{ on := 12, ground := Ground.data }], guard := none } : Oper)) rfl (fun KK hKK => ?_) AllReadyH.nil
          go_simp
          generalize hy3 : World.alloc _ _ = y3
          generalize hg3 : (World.heap y2).size = g0
          have RB3 : Hid (Below w.heap.size w y3) := Lib.hid (by rw [← hy3]; exact RB2.out.alloc RB2.out.size _)
          have RO3 : Hid (y3.ownsRow w.heap.size 5 1 v m (b8 acc)) := Lib.hid (by rw [← hy3]; exact RO2.out.alloc _)
          have RS : Hid (Src y3 (some ⟨g0, 0, none⟩) 1 1 1 (b8 [16 * E.dr a1 + E.dr a2])) := Lib.hid (by rw [← hy3, ← hg3]; exact src8 _ [16 * E.dr a1 + E.dr a2] 1 rfl)
          clear hy3 hg3
          refine hKK.out _ _ (RB3.out) (fun hH3 => ?_)
          clear hKK KK
          try simp only [Act.put, List.setIfInBounds_toArray, List.set_cons_zero, List.set_cons_succ]
          refine wpAnyH_ready (rs := [14]) (by kernel_rfl) (by simp) ?_
          refine AllReadyH.cons (o := ({ dst := some 57, op := Op.call { callee := Callee.builtin Builtin.append, args := #[Operand.tmp 43, Operand.tmp 56], argTypes := #[73, 73] }, type := 73, pos := "ref.go:83", after := #[{ on := 0, ground := Ground.data }, { on := 13, ground := Ground.data }, { on := 11, ground := Ground.chain }], guard := none } : Oper)) rfl (fun KK hKK => ?_) AllReadyH.nil
          refine step_append_any _ rfl (.tmp 43) (.tmp 56) 73 rfl w.heap.size 5 i0 _ 1 1 Try.underlying73 HI.out.1 HI.out.2.1 HI.out.2.2.1 HI.out.2.2.2 rfl (by decide) v m (b8 acc) rfl RO3.out (some ⟨g0, 0, none⟩) 1 1 (b8 [16 * E.dr a1 + E.dr a2]) rfl RS.out (by unfold maxLen; omega) (by omega) RB3.out.size ?_
          intro v4 y4 hgr
          have RB4 : Hid (Below w.heap.size w y4) := Lib.hid (hgr.below RB3.out RO3.out)
          have RV := Lib.hid hgr.own
          clear hgr
          refine hKK.out _ _ (RB4.out) (fun hH4 => ?_)
          clear hKK KK
          try simp only [Act.put, List.setIfInBounds_toArray, List.set_cons_zero, List.set_cons_succ]
          refine wpAnyH_take (i := 15) (oi := ({ dst := some 4, op := Op.assign (Operand.tmp 57), type := 73, pos := "ref.go:83", after := #[{ on := 14, ground := Ground.data }, { on := 14, ground := Ground.chain }, { on := 0, ground := Ground.phase }, { on := 1, ground := Ground.phase }, { on := 2, ground := Ground.phase }, { on := 3, ground := Ground.phase }, { on := 4, ground := Ground.phase }, { on := 5, ground := Ground.phase }, { on := 6, ground := Ground.phase }, { on := 7, ground := Ground.phase }, { on := 8, ground := Ground.phase }, { on := 9, ground := Ground.phase }, { on := 10, ground := Ground.phase }, { on := 11, ground := Ground.phase }, { on := 12, ground := Ground.phase }, { on := 13, ground := Ground.phase }, { on := 14, ground := Ground.phase }], guard := none } : Oper)) (v := ?hv26) rfl (by kernel_rfl) (by kernel_rfl) (by kernel_rfl) (fun _ _ _ h => h) (Or.inl ⟨by rfl, ?hy26⟩) (by assumption) ?hr26
          case hy26 => (intro w hSw; (try dsimp only at hSw); go_simp; (try with_reducible rfl))
          try simp only [Act.put, List.setIfInBounds_toArray, List.set_cons_zero, List.set_cons_succ]
          refine wpAnyH_done (by kernel_rfl) ?_ _
          go_wp2
          go_roundg (s.size - (kk + 3))
          case measure => omega
          case rel => exact ⟨kk + 3, m + 1, v4, acc ++ [16 * E.dr a1 + E.dr a2], by omega, by omega, by omega, rfl, by go_num, Lib.hid (HA.out.two hlt2 hC.out ha1 ha2 hfR.out), Lib.hid (by rw [List.length_append, HM.out]; rfl), Lib.hid (by have := RV.out; rw [b8_append] at this; exact this), RB4⟩
        · have hltz : (s.size : Int) ≤ (kk : Int) + 2 := by omega
          have HF := Lib.hid (show urR (bys s) = ([], false) by unfold urR; rw [HA.out.non hlt hlt2 hC.out])
          go_wp2
          go_ret2
          exact ⟨by rw [HF.out]; rfl, HBW.out⟩
      · have hC := Lib.hid hc
        have hcb : ((s[kk].toNat : Int) != 61) = true := by simpa using hc
        clear hc
        generalize hc : (s[kk].toNat : Int) = c at hcb hb hC
        go_wp2_with (at_builtin; refine wpList_append_any _ rfl (.tmp 16) (.tmp 20) 73 rfl w.heap.size 5 i0 _ 1 1 Try.underlying73 HI.out.1 HI.out.2.1 HI.out.2.2.1 HI.out.2.2.2 rfl (by decide) v m (b8 acc) rfl (HO.out.alloc _) (some ⟨wr.heap.size, 0, none⟩) 1 1 (b8 [c]) rfl (src8 wr [c] 1 rfl) (by unfold maxLen; omega) (by omega) (by have := HBW.out.size; simp; omega) ?_; intro v3 w3 hgr; have B3 := Lib.hid (hgr.below (HBW.out.alloc HBW.out.size _) (HO.out.alloc _)); have O3 := Lib.hid hgr.own; clear hgr)
        go_roundg (s.size - (kk + 1))
        case measure => omega
        case rel => exact ⟨kk + 1, m + 1, v3, acc ++ [c], by omega, by omega, by omega, rfl, by go_num, Lib.hid (HA.out.plain hlt hc hC.out), Lib.hid (by rw [List.length_append, HM.out]; rfl), Lib.hid (by have := O3.out; rw [b8_append] at this; exact this), B3⟩
    · have HF := Lib.hid (HA.out.fin (by omega))
      have hbt := E.un_byt E.fR_byt _ _ (bys_byt s) HF.out
      have HR := Lib.hid (show urR (bys s) = (acc, true) by unfold urR; rw [HF.out])
      have hcv := conv8 HO.out
      clear hbt
      go_wp2
      go_ret2
      exact ⟨by rw [HR.out]; rfl, HBW.out⟩
end Go.Proofs.Ytkcceobncjoodaa
