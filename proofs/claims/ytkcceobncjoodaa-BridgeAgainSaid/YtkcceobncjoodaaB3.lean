/- Identities of other networks: rows of bytes; the escaped form of a name. Bound: at most 1000000 bytes. -/
import Derived.Test.YtkcceobncjoodaaB1
import Derived.Test.YtkcceobncjoodaaG5
import Derived.OwnWalk
import Derived.Deep.RegionHeld3
import Derived.Deep.QuietTactic
import Derived.BigQuiet
import Derived.Deep.Cut
import Derived.Deep.CutRange
namespace Go.Proofs.Ytkcceobncjoodaa
open Go.RowKit
set_option linter.unusedVariables false
set_option linter.unusedSimpArgs false

/-- The cells of bytes. -/
def b8 (l : List Int) : List Value := l.map fun c => .int .u8 c
theorem b8_len (l : List Int) : (b8 l).length = l.length := List.length_map ..
theorem b8_append (a b : List Int) : b8 a ++ b8 b = b8 (a ++ b) := (List.map_append ..).symm
theorem b8_one (l : List Int) : ∀ u ∈ b8 l, u.oneCell' = true := by
  intro u hu
  obtain ⟨c, _, rfl⟩ := List.mem_map.1 hu
  rfl
theorem info5 : (Try.prog.info? 5).map (fun i => (i.zero, i.size, i.bytes)) = some (some (.int .u8 0), 1, 1) := by kernel_rfl
theorem src8 (w : World) (l : List Int) (n : Nat) (hl : l.length = n) : Src (w.alloc (.cells (b8 l).toArray 5)) (some ⟨w.heap.size, 0, none⟩) n n 1 (b8 l) :=
  ⟨by rw [b8_len, hl, Nat.mul_one], (fun e => by cases e), .inr ⟨w.heap.size, 0, rfl, by simp, fun j u hu => by rw [Nat.zero_add]; exact (blk_new w (b8 l) 5).cell hu⟩, b8_one l⟩
theorem own_b8 {w w' : World} {B : Nat} {v : Value} {n : Nat} {xs : List Value} (h : w.ownsRow B 5 1 v n xs) (hb : Below w.heap.size w w') : w'.ownsRow B 5 1 v n xs :=
  ⟨h.1, h.2.imp id fun ⟨g, cap, cur, e, hB, hg, r⟩ => ⟨g, cap, cur, e, hB, (hb.block g (by rcases Nat.lt_or_ge g w.heap.size with h1 | h1; exact h1; rw [Array.getElem?_eq_none h1] at hg; cases hg)).trans hg, r⟩⟩
theorem strNums_nil : strOfNums [] = ByteArray.empty := rfl
theorem conv8 {w : World} {B : Nat} {v : Value} {n : Nat} {l : List Int} (h : w.ownsRow B 5 1 v n (b8 l)) : (convert 73 9 v).run Try.prog w = .ok (.string (strOfNums l)) w := by
  have hl := h.1
  rw [b8_len] at hl
  rcases h.2 with ⟨rfl, h0⟩ | ⟨g, cap, cur, rfl, _⟩
  · have : l = [] := List.eq_nil_of_length_eq_zero (by omega)
    subst this
    exact run_convert_bytes_nil w 73 5 Try.underlying73 Try.underlying5 0 0 9 Try.underlying9
  · refine run_convert_bytes_arg w 73 5 Try.underlying73 Try.underlying5 g 0 n cap l (by omega) (fun i hi => ?_) 9 Try.underlying9
    rw [Nat.zero_add, h.cellAt i (by omega)]
    unfold b8
    rw [List.getElem?_map, List.getD_eq_getElem?_getD, List.getElem?_eq_getElem (by omega)]
    rfl
theorem bys_nums {l : List Int} (h : E.Byt l) : bys (strOfNums l) = l := by
  unfold bys
  rw [strOfNums_data, List.map_map]
  conv => rhs; rw [← List.map_id l]
  apply List.map_congr_left
  intro c hc
  have := h c hc
  show ((UInt8.ofNat c.toNat).toNat : Int) = c
  rw [UInt8.toNat_ofNat', Nat.mod_eq_of_lt (by omega)]
  omega
theorem bys_inj {a b : ByteArray} (h : bys a = bys b) : a = b := by
  have h1 : a.data.toList = b.data.toList := by
    have := congrArg (List.map fun n : Int => UInt8.ofNat n.toNat) h
    unfold bys at this
    simpa [Function.comp_def] using this
  exact ByteArray.ext (Array.ext' h1)
theorem dig_at (n : Int) (h0 : 0 ≤ n) (h1 : n < 16) (hh : n.toNat < (⟨#[48, 49, 50, 51, 52, 53, 54, 55, 56, 57, 97, 98, 99, 100, 101, 102]⟩ : ByteArray).size) : (((⟨#[48, 49, 50, 51, 52, 53, 54, 55, 56, 57, 97, 98, 99, 100, 101, 102]⟩ : ByteArray)[n.toNat]'hh).toNat : Int) = E.hexd n := by
  rcases (show n = 0 ∨ n = 1 ∨ n = 2 ∨ n = 3 ∨ n = 4 ∨ n = 5 ∨ n = 6 ∨ n = 7 ∨ n = 8 ∨ n = 9 ∨ n = 10 ∨ n = 11 ∨ n = 12 ∨ n = 13 ∨ n = 14 ∨ n = 15 by omega) with rfl | rfl | rfl | rfl | rfl | rfl | rfl | rfl | rfl | rfl | rfl | rfl | rfl | rfl | rfl | rfl <;> rfl
theorem quo_16 {c : Int} (h : 0 ≤ c ∧ c ≤ 255) : IntKind.u8.wrap (c.tdiv 16) = c / 16 := by rw [Int.tdiv_eq_ediv_of_nonneg h.1, IntWalk.u8_in _ (by omega)]
theorem rem_16 {c : Int} (h : 0 ≤ c ∧ c ≤ 255) : c.tmod 16 = c % 16 := Int.tmod_eq_emod_of_nonneg h.1
theorem nums_bys (s : ByteArray) : strOfNums (bys s) = s := bys_inj (bys_nums (bys_byt s))
theorem escB_yes {c : Int} (h : I.letB c = true) : E.escB c = [c] := by unfold E.escB; rw [if_pos h]
theorem escB_no {c : Int} (h : I.letB c = false) : E.escB c = [61, E.hexd (c / 16), E.hexd (c % 16)] := by unfold E.escB; rw [h]; rfl
theorem digit52b (n : Int) (h0 : 0 ≤ n) (h1 : n < 16) (w : World) : Calls Try.prog 52 #[.int .u8 n] w fun e w' => e = .returned (.int .u8 (E.hexd n)) ∧ Below w.heap.size w w' :=
  (digit52 n h0 h1 w).mono fun e w' ⟨h1, h2⟩ => ⟨h1, by rw [← h2]; exact Below.refl _ _⟩
set_option maxRecDepth 100000 in
set_option maxHeartbeats 4000000 in
theorem escape26 (s : ByteArray) (hs : s.size ≤ 1000000) (w : World) : Calls Try.prog 26 #[.string s] w fun e w' => e = .returned (.string (strOfNums (E.esc (bys s)))) ∧ Below w.heap.size w w' := by
  obtain ⟨i0, hi, hz0, hz1, hz2⟩ := info_parts info5
  have HI := Lib.hid (And.intro hi (And.intro hz0 (And.intro hz1 hz2)))
  clear hi hz0 hz1 hz2
  go_enter Try.func26, Try.ntmps26
  go_wp2
  go_loopg [3, 4, 5, 9] s.size (fun gg s3 _ _ s9 wr => ∃ (kk m : Nat) (v : Value) (acc : List Int), kk ≤ s.size ∧ s.size - kk ≤ gg ∧ m ≤ 3 * kk ∧ v = s3 ∧ s9 = .int .i64 kk ∧ Hid (acc = E.esc ((bys s).take kk)) ∧ Hid (acc.length = m) ∧ Hid (wr.ownsRow w.heap.size 5 1 v m (b8 acc)) ∧ Hid (Below w.heap.size w wr))
  case atStart => exact ⟨0, 0, _, [], Nat.zero_le _, by omega, by omega, rfl, rfl, Lib.hid (by rw [List.take_zero]; rfl), Lib.hid rfl, Lib.hid (World.ownsRow_made (base := w.heap.size) (e := 5) (size := 1) w #[] 0 (Nat.le_refl _) (by decide) (by simp)), Lib.hid ((Below.refl _ w).alloc (Nat.le_refl _) _)⟩
  case round =>
    obtain ⟨kk, m, v, acc, hkk, hg, hmk, rfl, rfl, HA, HM, HO, HBW⟩ := hrel
    by_cases hlt : kk < s.size
    · have hsn := Lib.hid (bys_snoc s kk hlt)
      have hb := byte_lt s kk hlt
      generalize hc : (s[kk].toNat : Int) = c at hsn hb
      have q1 := quo_16 hb
      have q2 := rem_16 hb
      cases hl : I.letB c
      · have HL := Lib.hid hl
        go_upto_region 8 with (go_at_call 47; refine (plain47 _ _).mono ?_; rintro e w' ⟨rfl, rfl⟩; rw [hl])
        refine wp_region_held_drew (S := (fun w0 => Below w.heap.size w w0)) (by kernel_rfl) (HBW.out.drew) (fun hH0 => ?_)
        have hO0 := own_b8 HO.out (Below.refl _ wr).drew
        generalize wr.drew = y0 at hH0 hO0 ⊢
        have RB0 := Lib.hid hH0
        have RO0 := Lib.hid hO0
        refine wpAnyH_take (i := 0) (oi := ({ dst := some 21, op := Op.move (Operand.tmp 3), type := 73, pos := "bridge.go:44", after := #[], guard := none } : Oper)) (v := ?hv1) rfl (by kernel_rfl) (by kernel_rfl) (by kernel_rfl) (fun _ _ _ h => h) (Or.inl ⟨by rfl, ?hy1⟩) (by assumption) ?hr1
        case hy1 => (intro w hSw; (try dsimp only at hSw); go_simp; (try with_reducible rfl))
        try simp only [Act.put, List.setIfInBounds_toArray, List.set_cons_zero, List.set_cons_succ]
        refine wpAnyH_take (i := 1) (oi := ({ dst := some 22, op := Op.move (Operand.tmp 5), type := 5, pos := "bridge.go:44", after := #[], guard := none } : Oper)) (v := ?hv2) rfl (by kernel_rfl) (by kernel_rfl) (by kernel_rfl) (fun _ _ _ h => h) (Or.inl ⟨by rfl, ?hy2⟩) (by assumption) ?hr2
        case hy2 => (intro w hSw; (try dsimp only at hSw); go_simp; (try with_reducible rfl))
        try simp only [Act.put, List.setIfInBounds_toArray, List.set_cons_zero, List.set_cons_succ]
        refine wpAnyH_take (i := 2) (oi := ({ dst := some 23, op := Op.binOp BinOp.quo 5 (Operand.tmp 22) (Operand.const (Value.int IntKind.u8 16)) 5, type := 5, pos := "bridge.go:44", after := #[{ on := 1, ground := Ground.data }], guard := none } : Oper)) (v := ?hv3) rfl (by kernel_rfl) (by kernel_rfl) (by kernel_rfl) (fun _ _ _ h => h) (Or.inl ⟨by rfl, ?hy3⟩) (by assumption) ?hr3
        case hy3 => (intro w hSw; (try dsimp only at hSw); go_simp; (try with_reducible rfl))
        try simp only [Act.put, List.setIfInBounds_toArray, List.set_cons_zero, List.set_cons_succ]
        refine wpAnyH_take (i := 3) (oi := ({ dst := some 24, op := Op.index 9 (Operand.const (Value.string { data := #[48, 49, 50, 51, 52, 53, 54, 55, 56, 57, 97, 98, 99, 100, 101, 102] })) (Operand.tmp 23), type := 5, pos := "bridge.go:44", after := #[{ on := 2, ground := Ground.data }], guard := none } : Oper)) (v := .int .u8 (E.hexd (c / 16))) rfl (by kernel_rfl) (by kernel_rfl) (by kernel_rfl) (fun _ _ _ h => h) (Or.inl ⟨by rfl, fun w0 hw0 => by go_simp; (try rw [dif_pos (show 0 ≤ c / 16 ∧ c / 16 < 16 by omega)]); (try simp only [Result.andThen_ok, Result.andThen]); rw [dig_at (c / 16) (by omega) (by omega)]⟩) (by assumption) ?_
        try simp only [Act.put, List.setIfInBounds_toArray, List.set_cons_zero, List.set_cons_succ]
        refine wpAnyH_take (i := 4) (oi := ({ dst := some 25, op := Op.move (Operand.tmp 5), type := 5, pos := "bridge.go:44", after := #[], guard := none } : Oper)) (v := ?hv4) rfl (by kernel_rfl) (by kernel_rfl) (by kernel_rfl) (fun _ _ _ h => h) (Or.inl ⟨by rfl, ?hy4⟩) (by assumption) ?hr4
        case hy4 => (intro w hSw; (try dsimp only at hSw); go_simp; (try with_reducible rfl))
        try simp only [Act.put, List.setIfInBounds_toArray, List.set_cons_zero, List.set_cons_succ]
        refine wpAnyH_take (i := 5) (oi := ({ dst := some 26, op := Op.binOp BinOp.rem 5 (Operand.tmp 25) (Operand.const (Value.int IntKind.u8 16)) 5, type := 5, pos := "bridge.go:44", after := #[{ on := 4, ground := Ground.data }], guard := none } : Oper)) (v := ?hv5) rfl (by kernel_rfl) (by kernel_rfl) (by kernel_rfl) (fun _ _ _ h => h) (Or.inl ⟨by rfl, ?hy5⟩) (by assumption) ?hr5
        case hy5 => (intro w hSw; (try dsimp only at hSw); go_simp; (try with_reducible rfl))
        try simp only [Act.put, List.setIfInBounds_toArray, List.set_cons_zero, List.set_cons_succ]
        refine wpAnyH_take (i := 6) (oi := ({ dst := some 27, op := Op.index 9 (Operand.const (Value.string { data := #[48, 49, 50, 51, 52, 53, 54, 55, 56, 57, 97, 98, 99, 100, 101, 102] })) (Operand.tmp 26), type := 5, pos := "bridge.go:44", after := #[{ on := 5, ground := Ground.data }], guard := none } : Oper)) (v := .int .u8 (E.hexd (c % 16))) rfl (by kernel_rfl) (by kernel_rfl) (by kernel_rfl) (fun _ _ _ h => h) (Or.inl ⟨by rfl, fun w0 hw0 => by go_simp; (try rw [dif_pos (show 0 ≤ c % 16 ∧ c % 16 < 16 by omega)]); (try simp only [Result.andThen_ok, Result.andThen]); rw [dig_at (c % 16) (by omega) (by omega)]⟩) (by assumption) ?_
        try simp only [Act.put, List.setIfInBounds_toArray, List.set_cons_zero, List.set_cons_succ]
        refine wpAnyH_ready (rs := [7]) (by kernel_rfl) (by simp) ?_
        refine AllReadyH.cons (o := ({ dst := some 28, op := Op.buildSlice 73 3 #[(0, Operand.const (Value.int IntKind.u8 61)), (1, Operand.tmp 24), (2, Operand.tmp 27)], type := 73, pos := "bridge.go:44", after := #[{ on := 3, ground := Ground.data }, { on := 6, ground := Ground.data }], guard := none } : Oper)) rfl (fun KK hKK => ?_) AllReadyH.nil
        go_simp
        generalize hy1 : World.alloc _ _ = y1
        generalize hg1 : (World.heap y0).size = g0
        have RB1 : Hid (Below w.heap.size w y1) := Lib.hid (by rw [← hy1]; exact RB0.out.alloc RB0.out.size _)
        have RO1 : Hid (y1.ownsRow w.heap.size 5 1 v m (b8 acc)) := Lib.hid (by rw [← hy1]; exact RO0.out.alloc _)
        have RS : Hid (Src y1 (some ⟨g0, 0, none⟩) 3 3 1 (b8 [61, E.hexd (c / 16), E.hexd (c % 16)])) := Lib.hid (by rw [← hy1, ← hg1]; exact src8 _ [61, E.hexd (c / 16), E.hexd (c % 16)] 3 rfl)
        clear hy1 hg1
        refine hKK.out _ _ (RB1.out) (fun hH1 => ?_)
        clear hKK KK
        try simp only [Act.put, List.setIfInBounds_toArray, List.set_cons_zero, List.set_cons_succ]
        refine wpAnyH_ready (rs := [8]) (by kernel_rfl) (by simp) ?_
        refine AllReadyH.cons (o := ({ dst := some 29, op := Op.call { callee := Callee.builtin Builtin.append, args := #[Operand.tmp 21, Operand.tmp 28], argTypes := #[73, 73] }, type := 73, pos := "bridge.go:44", after := #[{ on := 0, ground := Ground.data }, { on := 7, ground := Ground.data }], guard := none } : Oper)) rfl (fun KK hKK => ?_) AllReadyH.nil
        refine step_append_any _ rfl (.tmp 21) (.tmp 28) 73 rfl w.heap.size 5 i0 _ 1 1 Try.underlying73 HI.out.1 HI.out.2.1 HI.out.2.2.1 HI.out.2.2.2 rfl (by decide) v m (b8 acc) rfl RO1.out (some ⟨g0, 0, none⟩) 3 3 (b8 [61, E.hexd (c / 16), E.hexd (c % 16)]) rfl RS.out (by unfold maxLen; omega) (by omega) RB1.out.size ?_
        intro v4 y2 hgr
        have RB2 : Hid (Below w.heap.size w y2) := Lib.hid (hgr.below RB1.out RO1.out)
        have RV := Lib.hid hgr.own
        clear hgr
        refine hKK.out _ _ (RB2.out) (fun hH2 => ?_)
        clear hKK KK
        try simp only [Act.put, List.setIfInBounds_toArray, List.set_cons_zero, List.set_cons_succ]
        refine wpAnyH_take (i := 9) (oi := ({ dst := some 3, op := Op.assign (Operand.tmp 29), type := 73, pos := "bridge.go:44", after := #[{ on := 8, ground := Ground.data }, { on := 8, ground := Ground.chain }, { on := 0, ground := Ground.phase }, { on := 1, ground := Ground.phase }, { on := 2, ground := Ground.phase }, { on := 3, ground := Ground.phase }, { on := 4, ground := Ground.phase }, { on := 5, ground := Ground.phase }, { on := 6, ground := Ground.phase }, { on := 7, ground := Ground.phase }, { on := 8, ground := Ground.phase }], guard := none } : Oper)) (v := ?hv6) rfl (by kernel_rfl) (by kernel_rfl) (by kernel_rfl) (fun _ _ _ h => h) (Or.inl ⟨by rfl, ?hy6⟩) (by assumption) ?hr6
        case hy6 => (intro w hSw; (try dsimp only at hSw); go_simp; (try with_reducible rfl))
        try simp only [Act.put, List.setIfInBounds_toArray, List.set_cons_zero, List.set_cons_succ]
        refine wpAnyH_done (by kernel_rfl) ?_ _
        go_wp2
        go_roundg (s.size - (kk + 1))
        case measure => omega
        case rel => exact ⟨kk + 1, m + 3, v4, acc ++ [61, E.hexd (c / 16), E.hexd (c % 16)], by omega, by omega, by omega, rfl, by go_num, Lib.hid (by rw [hsn.out, E.esc_append, E.esc_one, escB_no HL.out, HA.out]), Lib.hid (by rw [List.length_append, HM.out]; rfl), Lib.hid (by have := RV.out; rw [b8_append] at this; exact this), RB2⟩
      · have HL := Lib.hid hl
        go_wp2_with (first
          | (go_at_call 47; refine (plain47 _ _).mono ?_; rintro e w' ⟨rfl, rfl⟩; rw [hl])
          | (at_builtin; refine wpList_append_any _ rfl (.tmp 17) (.tmp 19) 73 rfl w.heap.size 5 i0 _ 1 1 Try.underlying73 HI.out.1 HI.out.2.1 HI.out.2.2.1 HI.out.2.2.2 rfl (by decide) v m (b8 acc) rfl (HO.out.alloc _) (some ⟨wr.heap.size, 0, none⟩) 1 1 (b8 [c]) rfl (src8 wr [c] 1 rfl) (by unfold maxLen; omega) (by omega) (by have := HBW.out.size; simp; omega) ?_; intro v3 w3 hgr; have B3 := Lib.hid (hgr.below (HBW.out.alloc HBW.out.size _) (HO.out.alloc _)); have O3 := Lib.hid hgr.own; clear hgr))
        go_roundg (s.size - (kk + 1))
        case measure => omega
        case rel => exact ⟨kk + 1, m + 1, v3, acc ++ [c], by omega, by omega, by omega, rfl, by go_num, Lib.hid (by rw [hsn.out, E.esc_append, E.esc_one, escB_yes HL.out, HA.out]), Lib.hid (by rw [List.length_append, HM.out]; rfl), Lib.hid (by have := O3.out; rw [b8_append] at this; exact this), B3⟩
    · have hcv := conv8 HO.out
      have HF := Lib.hid (show acc = E.esc (bys s) by rw [HA.out, List.take_of_length_le (by rw [bys_len]; omega)])
      go_wp2
      go_ret
      exact ⟨ret_str (by rw [HF.out]), HBW.out⟩
set_option maxRecDepth 100000 in
set_option maxHeartbeats 4000000 in
theorem rescape29 (s : ByteArray) (hs : s.size ≤ 1000000) (w : World) : Calls Try.prog 29 #[.string s] w fun e w' => e = .returned (.string (strOfNums (E.esc (bys s)))) ∧ Below w.heap.size w w' := by
  obtain ⟨i0, hi, hz0, hz1, hz2⟩ := info_parts info5
  have HI := Lib.hid (And.intro hi (And.intro hz0 (And.intro hz1 hz2)))
  clear hi hz0 hz1 hz2
  go_enter Try.func29, Try.ntmps29
  go_wp2
  go_loopg [3, 4] s.size (fun gg s3 s4 wr => ∃ (kk m : Nat) (v : Value) (acc : List Int), kk ≤ s.size ∧ s.size - kk ≤ gg ∧ m ≤ 3 * kk ∧ v = s3 ∧ s4 = .int .i64 kk ∧ Hid (acc = E.esc ((bys s).take kk)) ∧ Hid (acc.length = m) ∧ Hid (wr.ownsRow w.heap.size 5 1 v m (b8 acc)) ∧ Hid (Below w.heap.size w wr))
  case atStart => exact ⟨0, 0, _, [], Nat.zero_le _, by omega, by omega, rfl, rfl, Lib.hid (by rw [List.take_zero]; rfl), Lib.hid rfl, Lib.hid (World.ownsRow_nil w _ 5 1), Lib.hid (Below.refl _ _)⟩
  case round =>
    obtain ⟨kk, m, v, acc, hkk, hg, hmk, rfl, rfl, HA, HM, HO, HBW⟩ := hrel
    by_cases hlt : kk < s.size
    · have hsn := Lib.hid (bys_snoc s kk hlt)
      have hb := byte_lt s kk hlt
      generalize hc : (s[kk].toNat : Int) = c at hsn hb
      have q1 := quo_16 hb
      have q2 := rem_16 hb
      cases hl : I.letB c
      · have HL := Lib.hid hl
        go_upto_region 7 with (go_at_call 51; refine (rplain51 _ _).mono ?_; rintro e w' ⟨rfl, rfl⟩; rw [hl])
        refine wp_region_held_drew (S := (fun w0 => Below w.heap.size w w0)) (by kernel_rfl) (HBW.out.drew) (fun hH0 => ?_)
        have hO0 := own_b8 HO.out (Below.refl _ wr).drew
        generalize wr.drew = y0 at hH0 hO0 ⊢
        have RB0 := Lib.hid hH0
        have RO0 := Lib.hid hO0
        refine wpAnyH_take (i := 0) (oi := ({ dst := some 21, op := Op.move (Operand.tmp 3), type := 73, pos := "ref.go:37", after := #[], guard := none } : Oper)) (v := ?hv7) rfl (by kernel_rfl) (by kernel_rfl) (by kernel_rfl) (fun _ _ _ h => h) (Or.inl ⟨by rfl, ?hy7⟩) (by assumption) ?hr7
        case hy7 => (intro w hSw; (try dsimp only at hSw); go_simp; (try with_reducible rfl))
        try simp only [Act.put, List.setIfInBounds_toArray, List.set_cons_zero, List.set_cons_succ]
        refine wpAnyH_take (i := 1) (oi := ({ dst := some 22, op := Op.move (Operand.tmp 0), type := 9, pos := "ref.go:37", after := #[], guard := none } : Oper)) (v := ?hv8) rfl (by kernel_rfl) (by kernel_rfl) (by kernel_rfl) (fun _ _ _ h => h) (Or.inl ⟨by rfl, ?hy8⟩) (by assumption) ?hr8
        case hy8 => (intro w hSw; (try dsimp only at hSw); go_simp; (try with_reducible rfl))
        try simp only [Act.put, List.setIfInBounds_toArray, List.set_cons_zero, List.set_cons_succ]
        refine wpAnyH_take (i := 2) (oi := ({ dst := some 23, op := Op.move (Operand.tmp 4), type := 3, pos := "ref.go:37", after := #[], guard := none } : Oper)) (v := ?hv9) rfl (by kernel_rfl) (by kernel_rfl) (by kernel_rfl) (fun _ _ _ h => h) (Or.inl ⟨by rfl, ?hy9⟩) (by assumption) ?hr9
        case hy9 => (intro w hSw; (try dsimp only at hSw); go_simp; (try with_reducible rfl))
        try simp only [Act.put, List.setIfInBounds_toArray, List.set_cons_zero, List.set_cons_succ]
        refine wpAnyH_take (i := 3) (oi := ({ dst := some 24, op := Op.index 9 (Operand.tmp 22) (Operand.tmp 23), type := 5, pos := "ref.go:37", after := #[{ on := 1, ground := Ground.data }, { on := 2, ground := Ground.data }], guard := none } : Oper)) (v := ?hv10) rfl (by kernel_rfl) (by kernel_rfl) (by kernel_rfl) (fun _ _ _ h => h) (Or.inl ⟨by rfl, ?hy10⟩) (by assumption) ?hr10
        case hy10 => (intro w hSw; (try dsimp only at hSw); go_simp; (try with_reducible rfl))
        try simp only [Act.put, List.setIfInBounds_toArray, List.set_cons_zero, List.set_cons_succ]
        refine wpAnyH_take (i := 4) (oi := ({ dst := some 25, op := Op.binOp BinOp.quo 5 (Operand.tmp 24) (Operand.const (Value.int IntKind.u8 16)) 5, type := 5, pos := "ref.go:37", after := #[{ on := 3, ground := Ground.data }], guard := none } : Oper)) (v := ?hv11) rfl (by kernel_rfl) (by kernel_rfl) (by kernel_rfl) (fun _ _ _ h => h) (Or.inl ⟨by rfl, ?hy11⟩) (by assumption) ?hr11
        case hy11 => (intro w hSw; (try dsimp only at hSw); go_simp; (try with_reducible rfl))
        try simp only [Act.put, List.setIfInBounds_toArray, List.set_cons_zero, List.set_cons_succ]
        refine wpAnyH_take (i := 6) (oi := ({ dst := some 27, op := Op.move (Operand.tmp 0), type := 9, pos := "ref.go:37", after := #[], guard := none } : Oper)) (v := ?hv12) rfl (by kernel_rfl) (by kernel_rfl) (by kernel_rfl) (fun _ _ _ h => h) (Or.inl ⟨by rfl, ?hy12⟩) (by assumption) ?hr12
        case hy12 => (intro w hSw; (try dsimp only at hSw); go_simp; (try with_reducible rfl))
        try simp only [Act.put, List.setIfInBounds_toArray, List.set_cons_zero, List.set_cons_succ]
        refine wpAnyH_take (i := 7) (oi := ({ dst := some 28, op := Op.move (Operand.tmp 4), type := 3, pos := "ref.go:37", after := #[], guard := none } : Oper)) (v := ?hv13) rfl (by kernel_rfl) (by kernel_rfl) (by kernel_rfl) (fun _ _ _ h => h) (Or.inl ⟨by rfl, ?hy13⟩) (by assumption) ?hr13
        case hy13 => (intro w hSw; (try dsimp only at hSw); go_simp; (try with_reducible rfl))
        try simp only [Act.put, List.setIfInBounds_toArray, List.set_cons_zero, List.set_cons_succ]
        refine wpAnyH_take (i := 8) (oi := ({ dst := some 29, op := Op.index 9 (Operand.tmp 27) (Operand.tmp 28), type := 5, pos := "ref.go:37", after := #[{ on := 6, ground := Ground.data }, { on := 7, ground := Ground.data }], guard := none } : Oper)) (v := ?hv14) rfl (by kernel_rfl) (by kernel_rfl) (by kernel_rfl) (fun _ _ _ h => h) (Or.inl ⟨by rfl, ?hy14⟩) (by assumption) ?hr14
        case hy14 => (intro w hSw; (try dsimp only at hSw); go_simp; (try with_reducible rfl))
        try simp only [Act.put, List.setIfInBounds_toArray, List.set_cons_zero, List.set_cons_succ]
        refine wpAnyH_take (i := 9) (oi := ({ dst := some 30, op := Op.binOp BinOp.rem 5 (Operand.tmp 29) (Operand.const (Value.int IntKind.u8 16)) 5, type := 5, pos := "ref.go:37", after := #[{ on := 8, ground := Ground.data }], guard := none } : Oper)) (v := ?hv15) rfl (by kernel_rfl) (by kernel_rfl) (by kernel_rfl) (fun _ _ _ h => h) (Or.inl ⟨by rfl, ?hy15⟩) (by assumption) ?hr15
        case hy15 => (intro w hSw; (try dsimp only at hSw); go_simp; (try with_reducible rfl))
        try simp only [Act.put, List.setIfInBounds_toArray, List.set_cons_zero, List.set_cons_succ]
        refine wpAnyH_ready (rs := [5]) (by kernel_rfl) (by simp) ?_
        refine AllReadyH.cons (o := ({ dst := some 26, op := Op.call { callee := Callee.value (Operand.func 52), args := #[Operand.tmp 25], argTypes := #[5] }, type := 5, pos := "ref.go:37", after := #[{ on := 4, ground := Ground.data }], guard := none } : Oper)) rfl (fun KK hKK => ?_) AllReadyH.nil
        go_simp
        (with_reducible refine (digit52b (c / 16) (by omega) (by omega) _).mono ?_)
        rintro e0 y1 ⟨rfl, hb9⟩
        have RB1 := Lib.hid (RB0.out.trans (hb9.mono RB0.out.size))
        have RO1 := Lib.hid (own_b8 RO0.out hb9)
        clear hb9
        refine hKK.out _ _ (RB1.out) (fun hH1 => ?_)
        clear hKK KK
        try simp only [Act.put, List.setIfInBounds_toArray, List.set_cons_zero, List.set_cons_succ]
        refine wpAnyH_ready (rs := [10]) (by kernel_rfl) (by simp) ?_
        refine AllReadyH.cons (o := ({ dst := some 31, op := Op.call { callee := Callee.value (Operand.func 52), args := #[Operand.tmp 30], argTypes := #[5] }, type := 5, pos := "ref.go:37", after := #[{ on := 9, ground := Ground.data }, { on := 5, ground := Ground.chain }], guard := none } : Oper)) rfl (fun KK hKK => ?_) AllReadyH.nil
        go_simp
        (with_reducible refine (digit52b (c % 16) (by omega) (by omega) _).mono ?_)
        rintro e0 y2 ⟨rfl, hb9⟩
        have RB2 := Lib.hid (RB1.out.trans (hb9.mono RB1.out.size))
        have RO2 := Lib.hid (own_b8 RO1.out hb9)
        clear hb9
        refine hKK.out _ _ (RB2.out) (fun hH2 => ?_)
        clear hKK KK
        try simp only [Act.put, List.setIfInBounds_toArray, List.set_cons_zero, List.set_cons_succ]
        refine wpAnyH_ready (rs := [11]) (by kernel_rfl) (by simp) ?_
        refine AllReadyH.cons (o := ({ dst := some 32, op := Op.buildSlice 73 3 #[(0, Operand.const (Value.int IntKind.u8 61)), (1, Operand.tmp 26), (2, Operand.tmp 31)], type := 73, pos := "ref.go:37", after := #[{ on := 5, ground := Ground.data }, { on := 10, ground := Ground.data }], guard := none } : Oper)) rfl (fun KK hKK => ?_) AllReadyH.nil
        go_simp
        generalize hy3 : World.alloc _ _ = y3
        generalize hg3 : (World.heap y2).size = g0
        have RB3 : Hid (Below w.heap.size w y3) := Lib.hid (by rw [← hy3]; exact RB2.out.alloc RB2.out.size _)
        have RO3 : Hid (y3.ownsRow w.heap.size 5 1 v m (b8 acc)) := Lib.hid (by rw [← hy3]; exact RO2.out.alloc _)
        have RS : Hid (Src y3 (some ⟨g0, 0, none⟩) 3 3 1 (b8 [61, E.hexd (c / 16), E.hexd (c % 16)])) := Lib.hid (by rw [← hy3, ← hg3]; exact src8 _ [61, E.hexd (c / 16), E.hexd (c % 16)] 3 rfl)
        clear hy3 hg3
        refine hKK.out _ _ (RB3.out) (fun hH3 => ?_)
        clear hKK KK
        try simp only [Act.put, List.setIfInBounds_toArray, List.set_cons_zero, List.set_cons_succ]
        refine wpAnyH_ready (rs := [12]) (by kernel_rfl) (by simp) ?_
        refine AllReadyH.cons (o := ({ dst := some 33, op := Op.call { callee := Callee.builtin Builtin.append, args := #[Operand.tmp 21, Operand.tmp 32], argTypes := #[73, 73] }, type := 73, pos := "ref.go:37", after := #[{ on := 0, ground := Ground.data }, { on := 11, ground := Ground.data }, { on := 10, ground := Ground.chain }], guard := none } : Oper)) rfl (fun KK hKK => ?_) AllReadyH.nil
        refine step_append_any _ rfl (.tmp 21) (.tmp 32) 73 rfl w.heap.size 5 i0 _ 1 1 Try.underlying73 HI.out.1 HI.out.2.1 HI.out.2.2.1 HI.out.2.2.2 rfl (by decide) v m (b8 acc) rfl RO3.out (some ⟨g0, 0, none⟩) 3 3 (b8 [61, E.hexd (c / 16), E.hexd (c % 16)]) rfl RS.out (by unfold maxLen; omega) (by omega) RB3.out.size ?_
        intro v4 y4 hgr
        have RB4 : Hid (Below w.heap.size w y4) := Lib.hid (hgr.below RB3.out RO3.out)
        have RV := Lib.hid hgr.own
        clear hgr
        refine hKK.out _ _ (RB4.out) (fun hH4 => ?_)
        clear hKK KK
        try simp only [Act.put, List.setIfInBounds_toArray, List.set_cons_zero, List.set_cons_succ]
        refine wpAnyH_take (i := 13) (oi := ({ dst := some 3, op := Op.assign (Operand.tmp 33), type := 73, pos := "ref.go:37", after := #[{ on := 12, ground := Ground.data }, { on := 12, ground := Ground.chain }, { on := 0, ground := Ground.phase }, { on := 1, ground := Ground.phase }, { on := 2, ground := Ground.phase }, { on := 3, ground := Ground.phase }, { on := 4, ground := Ground.phase }, { on := 5, ground := Ground.phase }, { on := 6, ground := Ground.phase }, { on := 7, ground := Ground.phase }, { on := 8, ground := Ground.phase }, { on := 9, ground := Ground.phase }, { on := 10, ground := Ground.phase }, { on := 11, ground := Ground.phase }, { on := 12, ground := Ground.phase }], guard := none } : Oper)) (v := ?hv16) rfl (by kernel_rfl) (by kernel_rfl) (by kernel_rfl) (fun _ _ _ h => h) (Or.inl ⟨by rfl, ?hy16⟩) (by assumption) ?hr16
        case hy16 => (intro w hSw; (try dsimp only at hSw); go_simp; (try with_reducible rfl))
        try simp only [Act.put, List.setIfInBounds_toArray, List.set_cons_zero, List.set_cons_succ]
        refine wpAnyH_done (by kernel_rfl) ?_ _
        go_wp2
        go_roundg (s.size - (kk + 1))
        case measure => omega
        case rel => exact ⟨kk + 1, m + 3, v4, acc ++ [61, E.hexd (c / 16), E.hexd (c % 16)], by omega, by omega, by omega, rfl, by go_num, Lib.hid (by rw [hsn.out, E.esc_append, E.esc_one, escB_no HL.out, HA.out]), Lib.hid (by rw [List.length_append, HM.out]; rfl), Lib.hid (by have := RV.out; rw [b8_append] at this; exact this), RB4⟩
      · have HL := Lib.hid hl
        go_wp2_with (first
          | (go_at_call 51; refine (rplain51 _ _).mono ?_; rintro e w' ⟨rfl, rfl⟩; rw [hl])
          | (at_builtin; refine wpList_append_any _ rfl (.tmp 15) (.tmp 19) 73 rfl w.heap.size 5 i0 _ 1 1 Try.underlying73 HI.out.1 HI.out.2.1 HI.out.2.2.1 HI.out.2.2.2 rfl (by decide) v m (b8 acc) rfl (HO.out.alloc _) (some ⟨wr.heap.size, 0, none⟩) 1 1 (b8 [c]) rfl (src8 wr [c] 1 rfl) (by unfold maxLen; omega) (by omega) (by have := HBW.out.size; simp; omega) ?_; intro v3 w3 hgr; have B3 := Lib.hid (hgr.below (HBW.out.alloc HBW.out.size _) (HO.out.alloc _)); have O3 := Lib.hid hgr.own; clear hgr))
        go_roundg (s.size - (kk + 1))
        case measure => omega
        case rel => exact ⟨kk + 1, m + 1, v3, acc ++ [c], by omega, by omega, by omega, rfl, by go_num, Lib.hid (by rw [hsn.out, E.esc_append, E.esc_one, escB_yes HL.out, HA.out]), Lib.hid (by rw [List.length_append, HM.out]; rfl), Lib.hid (by have := O3.out; rw [b8_append] at this; exact this), B3⟩
    · have hcv := conv8 HO.out
      have HF := Lib.hid (show acc = E.esc (bys s) by rw [HA.out, List.take_of_length_le (by rw [bys_len]; omega)])
      go_wp2
      go_ret
      exact ⟨ret_str (by rw [HF.out]), HBW.out⟩
end Go.Proofs.Ytkcceobncjoodaa
