/- Equality of lists in contents. No condition. -/
import Derived.Test.YtablocpcgknmaaaGreatDoorPK8
namespace Go.Proofs.YtablocpcgknmaaaGreatDoor
open Go Go.RowKit
set_option linter.unusedVariables false
set_option linter.unusedSimpArgs false
set_option maxRecDepth 100000

theorem rg_below {w w1 : World} {b o : Nat} {vs : List Value} (h : World.rangeAt w b o vs) (hl : b < w.heap.size) (hb : Below w.heap.size w w1) : World.rangeAt w1 b o vs := fun i v hv => (hb.cell (p := ⟨b, _, none⟩) hl).trans (h i v hv)
theorem ret_b {a b : Bool} (h : b = a) : Ending.returned (.bool a) = .returned (.bool b) := by rw [h]
theorem extU {l1 l2 : List (ByteArray × Int)} (hl : l1.length = l2.length) (h : ∀ j, j < l1.length → fU l1 j = fU l2 j) : l1 = l2 := by
  refine List.ext_getElem hl (fun j h1 h2 => ?_)
  rw [← fU_at h1, ← fU_at h2]
  exact h j h1
theorem extK {l1 l2 : List (Int × Int)} (hl : l1.length = l2.length) (h : ∀ j, j < l1.length → fK l1 j = fK l2 j) : l1 = l2 := by
  refine List.ext_getElem hl (fun j h1 h2 => ?_)
  rw [← fK_at h1, ← fK_at h2]
  exact h j h1
theorem tx_inj {l1 l2 : List ByteArray} : tx l1 = tx l2 ↔ l1 = l2 := by
  constructor
  · intro h
    unfold tx at h
    have hl : l1.length = l2.length := by have := congrArg List.length h; simpa using this
    refine List.ext_getElem hl (fun j h1 h2 => ?_)
    have e : (l1.map fun s => s.data.toList)[j]? = (l2.map fun s => s.data.toList)[j]? := by rw [h]
    rw [List.getElem?_map, List.getElem?_map, List.getElem?_eq_getElem h1, List.getElem?_eq_getElem h2] at e
    simp only [Option.map_some, Option.some.injEq] at e
    exact eq_of_toList (by rw [Lib.toList_data, Lib.toList_data]; exact e)
  · intro h; rw [h]
theorem tx_dec (l1 l2 : List ByteArray) : decide (tx l1 = tx l2) = decide (l1 = l2) := by
  by_cases h : l1 = l2
  · rw [decide_eq_true h, decide_eq_true (tx_inj.2 h)]
  · rw [decide_eq_false h, decide_eq_false (fun e => h (tx_inj.1 e))]
set_option maxHeartbeats 400000 in
theorem equal55t (a1 : Option Addr) (n1 c1 : Nat) (l1 : List ByteArray) (a2 : Option Addr) (n2 c2 : Nat) (l2 : List ByteArray) (w : World) (h1 : Strs w a1 n1 l1) (h2 : Strs w a2 n2 l2) :
    Calls Tryz.prog 140 #[.slice a1 n1 c1, .slice a2 n2 c2] w fun e w' => e = .returned (.bool (decide (tx l1 = tx l2))) ∧ Below w.heap.size w w' := by
  have H1 := Lib.hid h1
  have H2 := Lib.hid h2
  have hm1 := h1.2.1
  have hm2 := h2.2.1
  have HL1 := Lib.hid h1.1
  have HL2 := Lib.hid h2.1
  clear h1 h2
  by_cases hn : n1 = n2
  · subst hn
    have HN := Lib.hid (show l1.length = l2.length by rw [HL1.out, HL2.out])
    go_enter Tryz.func140, Tryz.ntmps140
    go_wp2
    go_loopw [13] (fun i wr => ∃ k : Nat, k ≤ n1 ∧ i = .int .i64 k ∧ Hid (∀ j, j < k → ((l1.getD j ByteArray.empty).toList == (l2.getD j ByteArray.empty).toList) = true) ∧ Hid (Below w.heap.size w wr)) (fun i _ => n1 - (intOf i).toNat)
    case atStart => exact ⟨0, Nat.zero_le _, rfl, Lib.hid (fun j hj => by omega), Lib.hid (Below.refl _ _)⟩
    case round =>
      obtain ⟨k, hk, rfl, HO, HB⟩ := hrel
      by_cases hlt : k < n1
      · obtain ⟨b1, o1, rfl, t1, ht1, _, hb1, hc1⟩ := (H1.out.below HB.out).str hlt
        obtain ⟨b2, o2, rfl, t2, ht2, _, hb2, hc2⟩ := (H2.out.below HB.out).str hlt
        have HT1 := Lib.hid ht1
        have HT2 := Lib.hid ht2
        clear ht1 ht2
        cases he : t1.toList == t2.toList
        · have HE := Lib.hid he
          have HF := Lib.hid (tx_ne (k := k) (by rw [HL1.out]; exact hlt) (by rw [HL2.out]; exact hlt) (by rw [← HT1.out, ← HT2.out]; exact he))
          go_wp2
          go_quiet (fail)
          go_wp2
          go_ret
          exact ⟨ret_bool (by rw [decide_eq_false HF.out]), below_dn HB.out _⟩
        · have HE := Lib.hid he
          go_wp2
          go_quiet (fail)
          go_wp2
          go_roundw
          case rel => exact ⟨k + 1, by omega, by go_num, Lib.hid (fun j hj => by
              rcases Nat.lt_or_ge j k with h | h
              · exact HO.out j h
              · rw [show j = k by omega, ← HT1.out, ← HT2.out]; exact HE.out), Lib.hid (below_dn HB.out _)⟩
          case measure => simp [intOf]; omega
      · have HF := Lib.hid (tx_eq HN.out (fun j hj => HO.out j (by have := HL1.out; omega)))
        go_wp2
        go_ret
        exact ⟨ret_bool (by rw [decide_eq_true HF.out]), HB.out⟩
  · have e1 : ((n1 : Int) != (n2 : Int)) = true := by rw [bne_iff_ne]; omega
    have HF := Lib.hid (show tx l1 ≠ tx l2 by intro e; apply hn; rw [← HL1.out, ← HL2.out, ← tx_len, ← tx_len, e])
    clear hn
    go_enter Tryz.func140, Tryz.ntmps140
    go_wp2
    go_ret
    exact ⟨ret_bool (by rw [decide_eq_false HF.out]), Below.refl _ _⟩
theorem equal55 (a1 : Option Addr) (n1 c1 : Nat) (l1 : List ByteArray) (a2 : Option Addr) (n2 c2 : Nat) (l2 : List ByteArray) (w : World) (h1 : Txs w a1 n1 c1 l1) (h2 : Txs w a2 n2 c2 l2) (q : Bool) (hq : decide (l1 = l2) = q) : Calls Tryz.prog 140 #[.slice a1 n1 c1, .slice a2 n2 c2] w fun e w' => e = .returned (.bool q) ∧ Below w.heap.size w w' := by
  have := equal55t a1 n1 c1 l1 a2 n2 c2 l2 w h1.strs h2.strs
  rwa [tx_dec, hq] at this
theorem same24 (a1 : Option Addr) (n1 c1 : Nat) (l1 : List ByteArray) (a2 : Option Addr) (n2 c2 : Nat) (l2 : List ByteArray) (w : World) (h1 : Txs w a1 n1 c1 l1) (h2 : Txs w a2 n2 c2 l2) (q : Bool) (hq : decide (l1 = l2) = q) : Calls Tryz.prog 59 #[.slice a1 n1 c1, .slice a2 n2 c2] w fun e w' => e = .returned (.bool q) ∧ Below w.heap.size w w' := by
  have := same_any a1 n1 c1 l1 a2 n2 c2 l2 w h1.strs h2.strs
  rwa [tx_dec, hq] at this
set_option maxHeartbeats 8000000 in
theorem equal116 (A1 : Option Addr) (n1 c1 : Nat) (l1 : List (ByteArray × Int)) (A2 : Option Addr) (n2 c2 : Nat) (l2 : List (ByteArray × Int)) (w : World) (h1 : Rws w A1 n1 c1 2 (rowU (fU l1))) (hl1 : l1.length = n1) (h2 : Rws w A2 n2 c2 2 (rowU (fU l2))) (hl2 : l2.length = n2) : Calls Tryz.prog 192 #[.slice A1 n1 c1, .slice A2 n2 c2] w fun e w' => e = .returned (.bool (decide (l1 = l2))) ∧ Below w.heap.size w w' := by
  have H1 := Lib.hid h1
  have H2 := Lib.hid h2
  have hm1 := h1.big
  have hm2 := h2.big
  unfold maxLen at hm1 hm2
  have HL1 := Lib.hid hl1
  have HL2 := Lib.hid hl2
  generalize hq : decide (l1 = l2) = q
  have HQ := Lib.hid hq
  clear h1 h2 hl1 hl2 hq
  by_cases hn : n1 = n2
  · subst hn
    go_enter Tryz.func192, Tryz.ntmps192
    go_wp2
    go_loopw [13] (fun i wr => ∃ k : Nat, k ≤ n1 ∧ i = .int .i64 k ∧ Hid (∀ j, j < k → fU l1 j = fU l2 j) ∧ Hid (Below w.heap.size w wr)) (fun i _ => n1 - (intOf i).toNat)
    case atStart => exact ⟨0, Nat.zero_le _, rfl, Lib.hid (fun j hj => by omega), Lib.hid (Below.refl _ _)⟩
    case round =>
      obtain ⟨k, hk, rfl, HO, BW⟩ := hrel
      by_cases hlt : k < n1
      · have hltz : (k : Int) < (n1 : Int) := by omega
        have hk0 : (0 : Int) ≤ (k : Int) := by omega
        obtain ⟨b1, o1, rfl, hb1, hr1⟩ := (H1.out.below BW.out).get hlt
        obtain ⟨b2, o2, rfl, hb2, hr2⟩ := (H2.out.below BW.out).get hlt
        have HB1 := Lib.hid hb1
        have HB2 := Lib.hid hb2
        have RG1 := Lib.hid (show World.rangeAt wr b1 (o1 + k * 2) [.string (fU l1 k).1, .int .i64 (fU l1 k).2] from hr1)
        have RG2 := Lib.hid (show World.rangeAt wr b2 (o2 + k * 2) [.string (fU l2 k).1, .int .i64 (fU l2 k).2] from hr2)
        have HNx := Lib.hid (fun (e : fU l1 k = fU l2 k) => show ∀ j, j < k + 1 → fU l1 j = fU l2 j from fun j hj => by
          rcases Nat.lt_or_ge j k with h | h
          · exact HO.out j h
          · rw [show j = k by omega]; exact e)
        have HNe := Lib.hid (fun (e : ¬ fU l1 k = fU l2 k) => HQ.out.symm.trans (decide_eq_false (fun e2 => e (by rw [e2]))))
        clear hb1 hb2 hr1 hr2
        generalize fU l1 k = p1 at RG1 HNx HNe
        generalize fU l2 k = p2 at RG2 HNx HNe
        obtain ⟨u1, m1⟩ := p1
        obtain ⟨u2, m2⟩ := p2
        dsimp only at RG1 RG2 HNx HNe
        by_cases e1 : u1 = u2
        · have z1 : (u1.toList == u2.toList) = true := by rw [e1]; exact beq_self_eq_true _
          by_cases e2 : m1 = m2
          · have y2 : (m1 == m2) = true := by simpa using e2
            have HO2 := Lib.hid (HNx.out (by rw [e1, e2]))
            clear HNx HNe e1 e2
            go_upto_region 6 with (fail)
            refine wp_region_held_drew (S := (fun y => Below wr.heap.size wr y)) (by kernel_rfl) ((Below.refl wr.heap.size wr).drew) (fun hH0 => ?_)
            generalize hy0 : World.drew _ = y0 at hH0 ⊢
            have RB0 : Hid (Below wr.heap.size wr y0) := Lib.hid hH0
            clear hy0
            refine wpAnyH_take (i := 0) (oi := ({ dst := some 16, op := Op.move (Operand.tmp 0), type := 25, pos := "slices.go:25", after := #[], guard := none } : Oper)) (v := ?hv1) rfl (by kernel_rfl) (by kernel_rfl) (by kernel_rfl) (fun _ _ _ h => h) (Or.inl ⟨by rfl, ?hy1⟩) (by assumption) ?hr1
            case hy1 => (intro w hSw; (try dsimp only at hSw); go_simp; (try with_reducible rfl))
            try simp only [Act.put, List.setIfInBounds_toArray, List.set_cons_zero, List.set_cons_succ]
            refine wpAnyH_take (i := 1) (oi := ({ dst := some 17, op := Op.move (Operand.tmp 5), type := 3, pos := "slices.go:25", after := #[], guard := none } : Oper)) (v := ?hv2) rfl (by kernel_rfl) (by kernel_rfl) (by kernel_rfl) (fun _ _ _ h => h) (Or.inl ⟨by rfl, ?hy2⟩) (by assumption) ?hr2
            case hy2 => (intro w hSw; (try dsimp only at hSw); go_simp; (try with_reducible rfl))
            try simp only [Act.put, List.setIfInBounds_toArray, List.set_cons_zero, List.set_cons_succ]
            refine wpAnyH_take (i := 2) (oi := ({ dst := some 18, op := Op.indexAddr 25 (Operand.tmp 16) (Operand.tmp 17), type := 0, pos := "slices.go:25", after := #[{ on := 0, ground := Ground.data }, { on := 1, ground := Ground.data }], guard := none } : Oper)) (v := ?hv3) rfl (by kernel_rfl) (by kernel_rfl) (by kernel_rfl) (fun _ _ _ h => h) (Or.inl ⟨by rfl, ?hy3⟩) (by assumption) ?hr3
            case hy3 => (intro w hSw; (try dsimp only at hSw); go_simp; (try with_reducible rfl))
            try simp only [Act.put, List.setIfInBounds_toArray, List.set_cons_zero, List.set_cons_succ]
            refine wpAnyH_take (i := 3) (oi := ({ dst := some 19, op := Op.load 73 (Operand.tmp 18), type := 73, pos := "slices.go:25", after := #[{ on := 2, ground := Ground.data }], guard := none } : Oper)) (v := .agg #[.string u1, .int .i64 m1]) rfl (by kernel_rfl) (by kernel_rfl) (by kernel_rfl) (fun _ _ _ h => h) (yieldsIf_load_mid (by rfl) 73 _ rfl b1 (o1 + k * 2) rfl [.string u1, .int .i64 m1] _ (fun w0 hw0 => rg_below RG1.out HB1.out hw0) Tryz.underlying73 rfl size60) (by assumption) ?_
            try simp only [Act.put, List.setIfInBounds_toArray, List.set_cons_zero, List.set_cons_succ]
            refine wpAnyH_take (i := 4) (oi := ({ dst := some 20, op := Op.move (Operand.tmp 1), type := 25, pos := "slices.go:25", after := #[], guard := none } : Oper)) (v := ?hv4) rfl (by kernel_rfl) (by kernel_rfl) (by kernel_rfl) (fun _ _ _ h => h) (Or.inl ⟨by rfl, ?hy4⟩) (by assumption) ?hr4
            case hy4 => (intro w hSw; (try dsimp only at hSw); go_simp; (try with_reducible rfl))
            try simp only [Act.put, List.setIfInBounds_toArray, List.set_cons_zero, List.set_cons_succ]
            refine wpAnyH_take (i := 5) (oi := ({ dst := some 21, op := Op.move (Operand.tmp 5), type := 3, pos := "slices.go:25", after := #[], guard := none } : Oper)) (v := ?hv5) rfl (by kernel_rfl) (by kernel_rfl) (by kernel_rfl) (fun _ _ _ h => h) (Or.inl ⟨by rfl, ?hy5⟩) (by assumption) ?hr5
            case hy5 => (intro w hSw; (try dsimp only at hSw); go_simp; (try with_reducible rfl))
            try simp only [Act.put, List.setIfInBounds_toArray, List.set_cons_zero, List.set_cons_succ]
            refine wpAnyH_take (i := 6) (oi := ({ dst := some 22, op := Op.indexAddr 25 (Operand.tmp 20) (Operand.tmp 21), type := 0, pos := "slices.go:25", after := #[{ on := 4, ground := Ground.data }, { on := 5, ground := Ground.data }], guard := none } : Oper)) (v := ?hv6) rfl (by kernel_rfl) (by kernel_rfl) (by kernel_rfl) (fun _ _ _ h => h) (Or.inl ⟨by rfl, ?hy6⟩) (by assumption) ?hr6
            case hy6 => (intro w hSw; (try dsimp only at hSw); go_simp; (try with_reducible rfl))
            try simp only [Act.put, List.setIfInBounds_toArray, List.set_cons_zero, List.set_cons_succ]
            refine wpAnyH_take (i := 7) (oi := ({ dst := some 23, op := Op.load 73 (Operand.tmp 22), type := 73, pos := "slices.go:25", after := #[{ on := 6, ground := Ground.data }], guard := none } : Oper)) (v := .agg #[.string u2, .int .i64 m2]) rfl (by kernel_rfl) (by kernel_rfl) (by kernel_rfl) (fun _ _ _ h => h) (yieldsIf_load_mid (by rfl) 73 _ rfl b2 (o2 + k * 2) rfl [.string u2, .int .i64 m2] _ (fun w0 hw0 => rg_below RG2.out HB2.out hw0) Tryz.underlying73 rfl size60) (by assumption) ?_
            try simp only [Act.put, List.setIfInBounds_toArray, List.set_cons_zero, List.set_cons_succ]
            refine wpAnyH_take (i := 8) (oi := ({ dst := some 24, op := Op.binOp BinOp.neq 73 (Operand.tmp 19) (Operand.tmp 23) 73, type := 4, pos := "slices.go:25", after := #[{ on := 3, ground := Ground.data }, { on := 7, ground := Ground.data }], guard := none } : Oper)) (v := ?hv7) rfl (by kernel_rfl) (by kernel_rfl) (by kernel_rfl) (fun _ _ _ h => h) (Or.inl ⟨by rfl, ?hy7⟩) (by assumption) ?hr7
            case hy7 => (intro w hSw; (try dsimp only at hSw); go_simp; (try with_reducible rfl))
            try simp only [Act.put, List.setIfInBounds_toArray, List.set_cons_zero, List.set_cons_succ]
            refine wpAnyH_done (by kernel_rfl) ?_ _
            go_wp2
            go_roundw
            case rel => exact ⟨k + 1, by omega, by go_num, HO2, Lib.hid (BW.out.trans (RB0.out.mono BW.out.size))⟩
            case measure => simp [intOf]; omega
          · have y2 : (m1 == m2) = false := by simpa using e2
            have HE := Lib.hid (HNe.out (fun e => e2 (congrArg Prod.snd e)))
            clear HNx HNe e1 e2
            go_upto_region 6 with (fail)
            refine wp_region_held_drew (S := (fun y => Below wr.heap.size wr y)) (by kernel_rfl) ((Below.refl wr.heap.size wr).drew) (fun hH0 => ?_)
            generalize hy0 : World.drew _ = y0 at hH0 ⊢
            have RB0 : Hid (Below wr.heap.size wr y0) := Lib.hid hH0
            clear hy0
            refine wpAnyH_take (i := 0) (oi := ({ dst := some 16, op := Op.move (Operand.tmp 0), type := 25, pos := "slices.go:25", after := #[], guard := none } : Oper)) (v := ?hv8) rfl (by kernel_rfl) (by kernel_rfl) (by kernel_rfl) (fun _ _ _ h => h) (Or.inl ⟨by rfl, ?hy8⟩) (by assumption) ?hr8
            case hy8 => (intro w hSw; (try dsimp only at hSw); go_simp; (try with_reducible rfl))
            try simp only [Act.put, List.setIfInBounds_toArray, List.set_cons_zero, List.set_cons_succ]
            refine wpAnyH_take (i := 1) (oi := ({ dst := some 17, op := Op.move (Operand.tmp 5), type := 3, pos := "slices.go:25", after := #[], guard := none } : Oper)) (v := ?hv9) rfl (by kernel_rfl) (by kernel_rfl) (by kernel_rfl) (fun _ _ _ h => h) (Or.inl ⟨by rfl, ?hy9⟩) (by assumption) ?hr9
            case hy9 => (intro w hSw; (try dsimp only at hSw); go_simp; (try with_reducible rfl))
            try simp only [Act.put, List.setIfInBounds_toArray, List.set_cons_zero, List.set_cons_succ]
            refine wpAnyH_take (i := 2) (oi := ({ dst := some 18, op := Op.indexAddr 25 (Operand.tmp 16) (Operand.tmp 17), type := 0, pos := "slices.go:25", after := #[{ on := 0, ground := Ground.data }, { on := 1, ground := Ground.data }], guard := none } : Oper)) (v := ?hv10) rfl (by kernel_rfl) (by kernel_rfl) (by kernel_rfl) (fun _ _ _ h => h) (Or.inl ⟨by rfl, ?hy10⟩) (by assumption) ?hr10
            case hy10 => (intro w hSw; (try dsimp only at hSw); go_simp; (try with_reducible rfl))
            try simp only [Act.put, List.setIfInBounds_toArray, List.set_cons_zero, List.set_cons_succ]
            refine wpAnyH_take (i := 3) (oi := ({ dst := some 19, op := Op.load 73 (Operand.tmp 18), type := 73, pos := "slices.go:25", after := #[{ on := 2, ground := Ground.data }], guard := none } : Oper)) (v := .agg #[.string u1, .int .i64 m1]) rfl (by kernel_rfl) (by kernel_rfl) (by kernel_rfl) (fun _ _ _ h => h) (yieldsIf_load_mid (by rfl) 73 _ rfl b1 (o1 + k * 2) rfl [.string u1, .int .i64 m1] _ (fun w0 hw0 => rg_below RG1.out HB1.out hw0) Tryz.underlying73 rfl size60) (by assumption) ?_
            try simp only [Act.put, List.setIfInBounds_toArray, List.set_cons_zero, List.set_cons_succ]
            refine wpAnyH_take (i := 4) (oi := ({ dst := some 20, op := Op.move (Operand.tmp 1), type := 25, pos := "slices.go:25", after := #[], guard := none } : Oper)) (v := ?hv11) rfl (by kernel_rfl) (by kernel_rfl) (by kernel_rfl) (fun _ _ _ h => h) (Or.inl ⟨by rfl, ?hy11⟩) (by assumption) ?hr11
            case hy11 => (intro w hSw; (try dsimp only at hSw); go_simp; (try with_reducible rfl))
            try simp only [Act.put, List.setIfInBounds_toArray, List.set_cons_zero, List.set_cons_succ]
            refine wpAnyH_take (i := 5) (oi := ({ dst := some 21, op := Op.move (Operand.tmp 5), type := 3, pos := "slices.go:25", after := #[], guard := none } : Oper)) (v := ?hv12) rfl (by kernel_rfl) (by kernel_rfl) (by kernel_rfl) (fun _ _ _ h => h) (Or.inl ⟨by rfl, ?hy12⟩) (by assumption) ?hr12
            case hy12 => (intro w hSw; (try dsimp only at hSw); go_simp; (try with_reducible rfl))
            try simp only [Act.put, List.setIfInBounds_toArray, List.set_cons_zero, List.set_cons_succ]
            refine wpAnyH_take (i := 6) (oi := ({ dst := some 22, op := Op.indexAddr 25 (Operand.tmp 20) (Operand.tmp 21), type := 0, pos := "slices.go:25", after := #[{ on := 4, ground := Ground.data }, { on := 5, ground := Ground.data }], guard := none } : Oper)) (v := ?hv13) rfl (by kernel_rfl) (by kernel_rfl) (by kernel_rfl) (fun _ _ _ h => h) (Or.inl ⟨by rfl, ?hy13⟩) (by assumption) ?hr13
            case hy13 => (intro w hSw; (try dsimp only at hSw); go_simp; (try with_reducible rfl))
            try simp only [Act.put, List.setIfInBounds_toArray, List.set_cons_zero, List.set_cons_succ]
            refine wpAnyH_take (i := 7) (oi := ({ dst := some 23, op := Op.load 73 (Operand.tmp 22), type := 73, pos := "slices.go:25", after := #[{ on := 6, ground := Ground.data }], guard := none } : Oper)) (v := .agg #[.string u2, .int .i64 m2]) rfl (by kernel_rfl) (by kernel_rfl) (by kernel_rfl) (fun _ _ _ h => h) (yieldsIf_load_mid (by rfl) 73 _ rfl b2 (o2 + k * 2) rfl [.string u2, .int .i64 m2] _ (fun w0 hw0 => rg_below RG2.out HB2.out hw0) Tryz.underlying73 rfl size60) (by assumption) ?_
            try simp only [Act.put, List.setIfInBounds_toArray, List.set_cons_zero, List.set_cons_succ]
            refine wpAnyH_take (i := 8) (oi := ({ dst := some 24, op := Op.binOp BinOp.neq 73 (Operand.tmp 19) (Operand.tmp 23) 73, type := 4, pos := "slices.go:25", after := #[{ on := 3, ground := Ground.data }, { on := 7, ground := Ground.data }], guard := none } : Oper)) (v := ?hv14) rfl (by kernel_rfl) (by kernel_rfl) (by kernel_rfl) (fun _ _ _ h => h) (Or.inl ⟨by rfl, ?hy14⟩) (by assumption) ?hr14
            case hy14 => (intro w hSw; (try dsimp only at hSw); go_simp; (try with_reducible rfl))
            try simp only [Act.put, List.setIfInBounds_toArray, List.set_cons_zero, List.set_cons_succ]
            refine wpAnyH_done (by kernel_rfl) ?_ _
            go_wp2
            go_ret
            exact ⟨ret_b HE.out, BW.out.trans (RB0.out.mono BW.out.size)⟩
        · have z1 : (u1.toList == u2.toList) = false := beq_eq_false_iff_ne.2 (fun e => e1 (eq_of_toList e))
          have HE := Lib.hid (HNe.out (fun e => e1 (congrArg Prod.fst e)))
          clear HNx HNe e1
          go_upto_region 6 with (fail)
          refine wp_region_held_drew (S := (fun y => Below wr.heap.size wr y)) (by kernel_rfl) ((Below.refl wr.heap.size wr).drew) (fun hH0 => ?_)
          generalize hy0 : World.drew _ = y0 at hH0 ⊢
          have RB0 : Hid (Below wr.heap.size wr y0) := Lib.hid hH0
          clear hy0
          refine wpAnyH_take (i := 0) (oi := ({ dst := some 16, op := Op.move (Operand.tmp 0), type := 25, pos := "slices.go:25", after := #[], guard := none } : Oper)) (v := ?hv15) rfl (by kernel_rfl) (by kernel_rfl) (by kernel_rfl) (fun _ _ _ h => h) (Or.inl ⟨by rfl, ?hy15⟩) (by assumption) ?hr15
          case hy15 => (intro w hSw; (try dsimp only at hSw); go_simp; (try with_reducible rfl))
          try simp only [Act.put, List.setIfInBounds_toArray, List.set_cons_zero, List.set_cons_succ]
          refine wpAnyH_take (i := 1) (oi := ({ dst := some 17, op := Op.move (Operand.tmp 5), type := 3, pos := "slices.go:25", after := #[], guard := none } : Oper)) (v := ?hv16) rfl (by kernel_rfl) (by kernel_rfl) (by kernel_rfl) (fun _ _ _ h => h) (Or.inl ⟨by rfl, ?hy16⟩) (by assumption) ?hr16
          case hy16 => (intro w hSw; (try dsimp only at hSw); go_simp; (try with_reducible rfl))
          try simp only [Act.put, List.setIfInBounds_toArray, List.set_cons_zero, List.set_cons_succ]
          refine wpAnyH_take (i := 2) (oi := ({ dst := some 18, op := Op.indexAddr 25 (Operand.tmp 16) (Operand.tmp 17), type := 0, pos := "slices.go:25", after := #[{ on := 0, ground := Ground.data }, { on := 1, ground := Ground.data }], guard := none } : Oper)) (v := ?hv17) rfl (by kernel_rfl) (by kernel_rfl) (by kernel_rfl) (fun _ _ _ h => h) (Or.inl ⟨by rfl, ?hy17⟩) (by assumption) ?hr17
          case hy17 => (intro w hSw; (try dsimp only at hSw); go_simp; (try with_reducible rfl))
          try simp only [Act.put, List.setIfInBounds_toArray, List.set_cons_zero, List.set_cons_succ]
          refine wpAnyH_take (i := 3) (oi := ({ dst := some 19, op := Op.load 73 (Operand.tmp 18), type := 73, pos := "slices.go:25", after := #[{ on := 2, ground := Ground.data }], guard := none } : Oper)) (v := .agg #[.string u1, .int .i64 m1]) rfl (by kernel_rfl) (by kernel_rfl) (by kernel_rfl) (fun _ _ _ h => h) (yieldsIf_load_mid (by rfl) 73 _ rfl b1 (o1 + k * 2) rfl [.string u1, .int .i64 m1] _ (fun w0 hw0 => rg_below RG1.out HB1.out hw0) Tryz.underlying73 rfl size60) (by assumption) ?_
          try simp only [Act.put, List.setIfInBounds_toArray, List.set_cons_zero, List.set_cons_succ]
          refine wpAnyH_take (i := 4) (oi := ({ dst := some 20, op := Op.move (Operand.tmp 1), type := 25, pos := "slices.go:25", after := #[], guard := none } : Oper)) (v := ?hv18) rfl (by kernel_rfl) (by kernel_rfl) (by kernel_rfl) (fun _ _ _ h => h) (Or.inl ⟨by rfl, ?hy18⟩) (by assumption) ?hr18
          case hy18 => (intro w hSw; (try dsimp only at hSw); go_simp; (try with_reducible rfl))
          try simp only [Act.put, List.setIfInBounds_toArray, List.set_cons_zero, List.set_cons_succ]
          refine wpAnyH_take (i := 5) (oi := ({ dst := some 21, op := Op.move (Operand.tmp 5), type := 3, pos := "slices.go:25", after := #[], guard := none } : Oper)) (v := ?hv19) rfl (by kernel_rfl) (by kernel_rfl) (by kernel_rfl) (fun _ _ _ h => h) (Or.inl ⟨by rfl, ?hy19⟩) (by assumption) ?hr19
          case hy19 => (intro w hSw; (try dsimp only at hSw); go_simp; (try with_reducible rfl))
          try simp only [Act.put, List.setIfInBounds_toArray, List.set_cons_zero, List.set_cons_succ]
          refine wpAnyH_take (i := 6) (oi := ({ dst := some 22, op := Op.indexAddr 25 (Operand.tmp 20) (Operand.tmp 21), type := 0, pos := "slices.go:25", after := #[{ on := 4, ground := Ground.data }, { on := 5, ground := Ground.data }], guard := none } : Oper)) (v := ?hv20) rfl (by kernel_rfl) (by kernel_rfl) (by kernel_rfl) (fun _ _ _ h => h) (Or.inl ⟨by rfl, ?hy20⟩) (by assumption) ?hr20
          case hy20 => (intro w hSw; (try dsimp only at hSw); go_simp; (try with_reducible rfl))
          try simp only [Act.put, List.setIfInBounds_toArray, List.set_cons_zero, List.set_cons_succ]
          refine wpAnyH_take (i := 7) (oi := ({ dst := some 23, op := Op.load 73 (Operand.tmp 22), type := 73, pos := "slices.go:25", after := #[{ on := 6, ground := Ground.data }], guard := none } : Oper)) (v := .agg #[.string u2, .int .i64 m2]) rfl (by kernel_rfl) (by kernel_rfl) (by kernel_rfl) (fun _ _ _ h => h) (yieldsIf_load_mid (by rfl) 73 _ rfl b2 (o2 + k * 2) rfl [.string u2, .int .i64 m2] _ (fun w0 hw0 => rg_below RG2.out HB2.out hw0) Tryz.underlying73 rfl size60) (by assumption) ?_
          try simp only [Act.put, List.setIfInBounds_toArray, List.set_cons_zero, List.set_cons_succ]
          refine wpAnyH_take (i := 8) (oi := ({ dst := some 24, op := Op.binOp BinOp.neq 73 (Operand.tmp 19) (Operand.tmp 23) 73, type := 4, pos := "slices.go:25", after := #[{ on := 3, ground := Ground.data }, { on := 7, ground := Ground.data }], guard := none } : Oper)) (v := ?hv21) rfl (by kernel_rfl) (by kernel_rfl) (by kernel_rfl) (fun _ _ _ h => h) (Or.inl ⟨by rfl, ?hy21⟩) (by assumption) ?hr21
          case hy21 => (intro w hSw; (try dsimp only at hSw); go_simp; (try with_reducible rfl))
          try simp only [Act.put, List.setIfInBounds_toArray, List.set_cons_zero, List.set_cons_succ]
          refine wpAnyH_done (by kernel_rfl) ?_ _
          go_wp2
          go_ret
          exact ⟨ret_b HE.out, BW.out.trans (RB0.out.mono BW.out.size)⟩
      · have hltz : ¬ (k : Int) < (n1 : Int) := by omega
        have HE := Lib.hid (HQ.out.symm.trans (decide_eq_true (extU (HL1.out.trans HL2.out.symm) (fun j hj => HO.out j (by have := HL1.out; omega)))))
        go_wp2
        go_ret
        exact ⟨ret_b HE.out, BW.out⟩
  · have e1 : ((n1 : Int) != (n2 : Int)) = true := by rw [bne_iff_ne]; omega
    have HE := Lib.hid (HQ.out.symm.trans (decide_eq_false (fun e => hn (by rw [← HL1.out, ← HL2.out, e]))))
    clear hn
    go_enter Tryz.func192, Tryz.ntmps192
    go_wp2
    go_ret
    exact ⟨ret_b HE.out, Below.refl _ _⟩
set_option maxHeartbeats 8000000 in
theorem equal117 (A1 : Option Addr) (n1 c1 : Nat) (l1 : List (Int × Int)) (A2 : Option Addr) (n2 c2 : Nat) (l2 : List (Int × Int)) (w : World) (h1 : Rws w A1 n1 c1 2 (rowK (fK l1))) (hl1 : l1.length = n1) (h2 : Rws w A2 n2 c2 2 (rowK (fK l2))) (hl2 : l2.length = n2) : Calls Tryz.prog 193 #[.slice A1 n1 c1, .slice A2 n2 c2] w fun e w' => e = .returned (.bool (decide (l1 = l2))) ∧ Below w.heap.size w w' := by
  have H1 := Lib.hid h1
  have H2 := Lib.hid h2
  have hm1 := h1.big
  have hm2 := h2.big
  unfold maxLen at hm1 hm2
  have HL1 := Lib.hid hl1
  have HL2 := Lib.hid hl2
  generalize hq : decide (l1 = l2) = q
  have HQ := Lib.hid hq
  clear h1 h2 hl1 hl2 hq
  by_cases hn : n1 = n2
  · subst hn
    go_enter Tryz.func193, Tryz.ntmps193
    go_wp2
    go_loopw [13] (fun i wr => ∃ k : Nat, k ≤ n1 ∧ i = .int .i64 k ∧ Hid (∀ j, j < k → fK l1 j = fK l2 j) ∧ Hid (Below w.heap.size w wr)) (fun i _ => n1 - (intOf i).toNat)
    case atStart => exact ⟨0, Nat.zero_le _, rfl, Lib.hid (fun j hj => by omega), Lib.hid (Below.refl _ _)⟩
    case round =>
      obtain ⟨k, hk, rfl, HO, BW⟩ := hrel
      by_cases hlt : k < n1
      · have hltz : (k : Int) < (n1 : Int) := by omega
        have hk0 : (0 : Int) ≤ (k : Int) := by omega
        obtain ⟨b1, o1, rfl, hb1, hr1⟩ := (H1.out.below BW.out).get hlt
        obtain ⟨b2, o2, rfl, hb2, hr2⟩ := (H2.out.below BW.out).get hlt
        have HB1 := Lib.hid hb1
        have HB2 := Lib.hid hb2
        have RG1 := Lib.hid (show World.rangeAt wr b1 (o1 + k * 2) [.int .i64 (fK l1 k).1, .int .i64 (fK l1 k).2] from hr1)
        have RG2 := Lib.hid (show World.rangeAt wr b2 (o2 + k * 2) [.int .i64 (fK l2 k).1, .int .i64 (fK l2 k).2] from hr2)
        have HNx := Lib.hid (fun (e : fK l1 k = fK l2 k) => show ∀ j, j < k + 1 → fK l1 j = fK l2 j from fun j hj => by
          rcases Nat.lt_or_ge j k with h | h
          · exact HO.out j h
          · rw [show j = k by omega]; exact e)
        have HNe := Lib.hid (fun (e : ¬ fK l1 k = fK l2 k) => HQ.out.symm.trans (decide_eq_false (fun e2 => e (by rw [e2]))))
        clear hb1 hb2 hr1 hr2
        generalize fK l1 k = p1 at RG1 HNx HNe
        generalize fK l2 k = p2 at RG2 HNx HNe
        obtain ⟨u1, m1⟩ := p1
        obtain ⟨u2, m2⟩ := p2
        dsimp only at RG1 RG2 HNx HNe
        by_cases e1 : u1 = u2
        · have z1 : (u1 == u2) = true := by simpa using e1
          by_cases e2 : m1 = m2
          · have y2 : (m1 == m2) = true := by simpa using e2
            have HO2 := Lib.hid (HNx.out (by rw [e1, e2]))
            clear HNx HNe e1 e2
            go_upto_region 6 with (fail)
            refine wp_region_held_drew (S := (fun y => Below wr.heap.size wr y)) (by kernel_rfl) ((Below.refl wr.heap.size wr).drew) (fun hH0 => ?_)
            generalize hy0 : World.drew _ = y0 at hH0 ⊢
            have RB0 : Hid (Below wr.heap.size wr y0) := Lib.hid hH0
            clear hy0
            refine wpAnyH_take (i := 0) (oi := ({ dst := some 16, op := Op.move (Operand.tmp 0), type := 26, pos := "slices.go:25", after := #[], guard := none } : Oper)) (v := ?hv22) rfl (by kernel_rfl) (by kernel_rfl) (by kernel_rfl) (fun _ _ _ h => h) (Or.inl ⟨by rfl, ?hy22⟩) (by assumption) ?hr22
            case hy22 => (intro w hSw; (try dsimp only at hSw); go_simp; (try with_reducible rfl))
            try simp only [Act.put, List.setIfInBounds_toArray, List.set_cons_zero, List.set_cons_succ]
            refine wpAnyH_take (i := 1) (oi := ({ dst := some 17, op := Op.move (Operand.tmp 5), type := 3, pos := "slices.go:25", after := #[], guard := none } : Oper)) (v := ?hv23) rfl (by kernel_rfl) (by kernel_rfl) (by kernel_rfl) (fun _ _ _ h => h) (Or.inl ⟨by rfl, ?hy23⟩) (by assumption) ?hr23
            case hy23 => (intro w hSw; (try dsimp only at hSw); go_simp; (try with_reducible rfl))
            try simp only [Act.put, List.setIfInBounds_toArray, List.set_cons_zero, List.set_cons_succ]
            refine wpAnyH_take (i := 2) (oi := ({ dst := some 18, op := Op.indexAddr 26 (Operand.tmp 16) (Operand.tmp 17), type := 0, pos := "slices.go:25", after := #[{ on := 0, ground := Ground.data }, { on := 1, ground := Ground.data }], guard := none } : Oper)) (v := ?hv24) rfl (by kernel_rfl) (by kernel_rfl) (by kernel_rfl) (fun _ _ _ h => h) (Or.inl ⟨by rfl, ?hy24⟩) (by assumption) ?hr24
            case hy24 => (intro w hSw; (try dsimp only at hSw); go_simp; (try with_reducible rfl))
            try simp only [Act.put, List.setIfInBounds_toArray, List.set_cons_zero, List.set_cons_succ]
            refine wpAnyH_take (i := 3) (oi := ({ dst := some 19, op := Op.load 131 (Operand.tmp 18), type := 131, pos := "slices.go:25", after := #[{ on := 2, ground := Ground.data }], guard := none } : Oper)) (v := .agg #[.int .i64 u1, .int .i64 m1]) rfl (by kernel_rfl) (by kernel_rfl) (by kernel_rfl) (fun _ _ _ h => h) (yieldsIf_load_mid (by rfl) 131 _ rfl b1 (o1 + k * 2) rfl [.int .i64 u1, .int .i64 m1] _ (fun w0 hw0 => rg_below RG1.out HB1.out hw0) Tryz.underlying131 rfl size88) (by assumption) ?_
            try simp only [Act.put, List.setIfInBounds_toArray, List.set_cons_zero, List.set_cons_succ]
            refine wpAnyH_take (i := 4) (oi := ({ dst := some 20, op := Op.move (Operand.tmp 1), type := 26, pos := "slices.go:25", after := #[], guard := none } : Oper)) (v := ?hv25) rfl (by kernel_rfl) (by kernel_rfl) (by kernel_rfl) (fun _ _ _ h => h) (Or.inl ⟨by rfl, ?hy25⟩) (by assumption) ?hr25
            case hy25 => (intro w hSw; (try dsimp only at hSw); go_simp; (try with_reducible rfl))
            try simp only [Act.put, List.setIfInBounds_toArray, List.set_cons_zero, List.set_cons_succ]
            refine wpAnyH_take (i := 5) (oi := ({ dst := some 21, op := Op.move (Operand.tmp 5), type := 3, pos := "slices.go:25", after := #[], guard := none } : Oper)) (v := ?hv26) rfl (by kernel_rfl) (by kernel_rfl) (by kernel_rfl) (fun _ _ _ h => h) (Or.inl ⟨by rfl, ?hy26⟩) (by assumption) ?hr26
            case hy26 => (intro w hSw; (try dsimp only at hSw); go_simp; (try with_reducible rfl))
            try simp only [Act.put, List.setIfInBounds_toArray, List.set_cons_zero, List.set_cons_succ]
            refine wpAnyH_take (i := 6) (oi := ({ dst := some 22, op := Op.indexAddr 26 (Operand.tmp 20) (Operand.tmp 21), type := 0, pos := "slices.go:25", after := #[{ on := 4, ground := Ground.data }, { on := 5, ground := Ground.data }], guard := none } : Oper)) (v := ?hv27) rfl (by kernel_rfl) (by kernel_rfl) (by kernel_rfl) (fun _ _ _ h => h) (Or.inl ⟨by rfl, ?hy27⟩) (by assumption) ?hr27
            case hy27 => (intro w hSw; (try dsimp only at hSw); go_simp; (try with_reducible rfl))
            try simp only [Act.put, List.setIfInBounds_toArray, List.set_cons_zero, List.set_cons_succ]
            refine wpAnyH_take (i := 7) (oi := ({ dst := some 23, op := Op.load 131 (Operand.tmp 22), type := 131, pos := "slices.go:25", after := #[{ on := 6, ground := Ground.data }], guard := none } : Oper)) (v := .agg #[.int .i64 u2, .int .i64 m2]) rfl (by kernel_rfl) (by kernel_rfl) (by kernel_rfl) (fun _ _ _ h => h) (yieldsIf_load_mid (by rfl) 131 _ rfl b2 (o2 + k * 2) rfl [.int .i64 u2, .int .i64 m2] _ (fun w0 hw0 => rg_below RG2.out HB2.out hw0) Tryz.underlying131 rfl size88) (by assumption) ?_
            try simp only [Act.put, List.setIfInBounds_toArray, List.set_cons_zero, List.set_cons_succ]
            refine wpAnyH_take (i := 8) (oi := ({ dst := some 24, op := Op.binOp BinOp.neq 131 (Operand.tmp 19) (Operand.tmp 23) 131, type := 4, pos := "slices.go:25", after := #[{ on := 3, ground := Ground.data }, { on := 7, ground := Ground.data }], guard := none } : Oper)) (v := ?hv28) rfl (by kernel_rfl) (by kernel_rfl) (by kernel_rfl) (fun _ _ _ h => h) (Or.inl ⟨by rfl, ?hy28⟩) (by assumption) ?hr28
            case hy28 => (intro w hSw; (try dsimp only at hSw); go_simp; (try with_reducible rfl))
            try simp only [Act.put, List.setIfInBounds_toArray, List.set_cons_zero, List.set_cons_succ]
            refine wpAnyH_done (by kernel_rfl) ?_ _
            go_wp2
            go_roundw
            case rel => exact ⟨k + 1, by omega, by go_num, HO2, Lib.hid (BW.out.trans (RB0.out.mono BW.out.size))⟩
            case measure => simp [intOf]; omega
          · have y2 : (m1 == m2) = false := by simpa using e2
            have HE := Lib.hid (HNe.out (fun e => e2 (congrArg Prod.snd e)))
            clear HNx HNe e1 e2
            go_upto_region 6 with (fail)
            refine wp_region_held_drew (S := (fun y => Below wr.heap.size wr y)) (by kernel_rfl) ((Below.refl wr.heap.size wr).drew) (fun hH0 => ?_)
            generalize hy0 : World.drew _ = y0 at hH0 ⊢
            have RB0 : Hid (Below wr.heap.size wr y0) := Lib.hid hH0
            clear hy0
            refine wpAnyH_take (i := 0) (oi := ({ dst := some 16, op := Op.move (Operand.tmp 0), type := 26, pos := "slices.go:25", after := #[], guard := none } : Oper)) (v := ?hv29) rfl (by kernel_rfl) (by kernel_rfl) (by kernel_rfl) (fun _ _ _ h => h) (Or.inl ⟨by rfl, ?hy29⟩) (by assumption) ?hr29
            case hy29 => (intro w hSw; (try dsimp only at hSw); go_simp; (try with_reducible rfl))
            try simp only [Act.put, List.setIfInBounds_toArray, List.set_cons_zero, List.set_cons_succ]
            refine wpAnyH_take (i := 1) (oi := ({ dst := some 17, op := Op.move (Operand.tmp 5), type := 3, pos := "slices.go:25", after := #[], guard := none } : Oper)) (v := ?hv30) rfl (by kernel_rfl) (by kernel_rfl) (by kernel_rfl) (fun _ _ _ h => h) (Or.inl ⟨by rfl, ?hy30⟩) (by assumption) ?hr30
            case hy30 => (intro w hSw; (try dsimp only at hSw); go_simp; (try with_reducible rfl))
            try simp only [Act.put, List.setIfInBounds_toArray, List.set_cons_zero, List.set_cons_succ]
            refine wpAnyH_take (i := 2) (oi := ({ dst := some 18, op := Op.indexAddr 26 (Operand.tmp 16) (Operand.tmp 17), type := 0, pos := "slices.go:25", after := #[{ on := 0, ground := Ground.data }, { on := 1, ground := Ground.data }], guard := none } : Oper)) (v := ?hv31) rfl (by kernel_rfl) (by kernel_rfl) (by kernel_rfl) (fun _ _ _ h => h) (Or.inl ⟨by rfl, ?hy31⟩) (by assumption) ?hr31
            case hy31 => (intro w hSw; (try dsimp only at hSw); go_simp; (try with_reducible rfl))
            try simp only [Act.put, List.setIfInBounds_toArray, List.set_cons_zero, List.set_cons_succ]
            refine wpAnyH_take (i := 3) (oi := ({ dst := some 19, op := Op.load 131 (Operand.tmp 18), type := 131, pos := "slices.go:25", after := #[{ on := 2, ground := Ground.data }], guard := none } : Oper)) (v := .agg #[.int .i64 u1, .int .i64 m1]) rfl (by kernel_rfl) (by kernel_rfl) (by kernel_rfl) (fun _ _ _ h => h) (yieldsIf_load_mid (by rfl) 131 _ rfl b1 (o1 + k * 2) rfl [.int .i64 u1, .int .i64 m1] _ (fun w0 hw0 => rg_below RG1.out HB1.out hw0) Tryz.underlying131 rfl size88) (by assumption) ?_
            try simp only [Act.put, List.setIfInBounds_toArray, List.set_cons_zero, List.set_cons_succ]
            refine wpAnyH_take (i := 4) (oi := ({ dst := some 20, op := Op.move (Operand.tmp 1), type := 26, pos := "slices.go:25", after := #[], guard := none } : Oper)) (v := ?hv32) rfl (by kernel_rfl) (by kernel_rfl) (by kernel_rfl) (fun _ _ _ h => h) (Or.inl ⟨by rfl, ?hy32⟩) (by assumption) ?hr32
            case hy32 => (intro w hSw; (try dsimp only at hSw); go_simp; (try with_reducible rfl))
            try simp only [Act.put, List.setIfInBounds_toArray, List.set_cons_zero, List.set_cons_succ]
            refine wpAnyH_take (i := 5) (oi := ({ dst := some 21, op := Op.move (Operand.tmp 5), type := 3, pos := "slices.go:25", after := #[], guard := none } : Oper)) (v := ?hv33) rfl (by kernel_rfl) (by kernel_rfl) (by kernel_rfl) (fun _ _ _ h => h) (Or.inl ⟨by rfl, ?hy33⟩) (by assumption) ?hr33
            case hy33 => (intro w hSw; (try dsimp only at hSw); go_simp; (try with_reducible rfl))
            try simp only [Act.put, List.setIfInBounds_toArray, List.set_cons_zero, List.set_cons_succ]
            refine wpAnyH_take (i := 6) (oi := ({ dst := some 22, op := Op.indexAddr 26 (Operand.tmp 20) (Operand.tmp 21), type := 0, pos := "slices.go:25", after := #[{ on := 4, ground := Ground.data }, { on := 5, ground := Ground.data }], guard := none } : Oper)) (v := ?hv34) rfl (by kernel_rfl) (by kernel_rfl) (by kernel_rfl) (fun _ _ _ h => h) (Or.inl ⟨by rfl, ?hy34⟩) (by assumption) ?hr34
            case hy34 => (intro w hSw; (try dsimp only at hSw); go_simp; (try with_reducible rfl))
            try simp only [Act.put, List.setIfInBounds_toArray, List.set_cons_zero, List.set_cons_succ]
            refine wpAnyH_take (i := 7) (oi := ({ dst := some 23, op := Op.load 131 (Operand.tmp 22), type := 131, pos := "slices.go:25", after := #[{ on := 6, ground := Ground.data }], guard := none } : Oper)) (v := .agg #[.int .i64 u2, .int .i64 m2]) rfl (by kernel_rfl) (by kernel_rfl) (by kernel_rfl) (fun _ _ _ h => h) (yieldsIf_load_mid (by rfl) 131 _ rfl b2 (o2 + k * 2) rfl [.int .i64 u2, .int .i64 m2] _ (fun w0 hw0 => rg_below RG2.out HB2.out hw0) Tryz.underlying131 rfl size88) (by assumption) ?_
            try simp only [Act.put, List.setIfInBounds_toArray, List.set_cons_zero, List.set_cons_succ]
            refine wpAnyH_take (i := 8) (oi := ({ dst := some 24, op := Op.binOp BinOp.neq 131 (Operand.tmp 19) (Operand.tmp 23) 131, type := 4, pos := "slices.go:25", after := #[{ on := 3, ground := Ground.data }, { on := 7, ground := Ground.data }], guard := none } : Oper)) (v := ?hv35) rfl (by kernel_rfl) (by kernel_rfl) (by kernel_rfl) (fun _ _ _ h => h) (Or.inl ⟨by rfl, ?hy35⟩) (by assumption) ?hr35
            case hy35 => (intro w hSw; (try dsimp only at hSw); go_simp; (try with_reducible rfl))
            try simp only [Act.put, List.setIfInBounds_toArray, List.set_cons_zero, List.set_cons_succ]
            refine wpAnyH_done (by kernel_rfl) ?_ _
            go_wp2
            go_ret
            exact ⟨ret_b HE.out, BW.out.trans (RB0.out.mono BW.out.size)⟩
        · have z1 : (u1 == u2) = false := by simpa using e1
          have HE := Lib.hid (HNe.out (fun e => e1 (congrArg Prod.fst e)))
          clear HNx HNe e1
          go_upto_region 6 with (fail)
          refine wp_region_held_drew (S := (fun y => Below wr.heap.size wr y)) (by kernel_rfl) ((Below.refl wr.heap.size wr).drew) (fun hH0 => ?_)
          generalize hy0 : World.drew _ = y0 at hH0 ⊢
          have RB0 : Hid (Below wr.heap.size wr y0) := Lib.hid hH0
          clear hy0
          refine wpAnyH_take (i := 0) (oi := ({ dst := some 16, op := Op.move (Operand.tmp 0), type := 26, pos := "slices.go:25", after := #[], guard := none } : Oper)) (v := ?hv36) rfl (by kernel_rfl) (by kernel_rfl) (by kernel_rfl) (fun _ _ _ h => h) (Or.inl ⟨by rfl, ?hy36⟩) (by assumption) ?hr36
          case hy36 => (intro w hSw; (try dsimp only at hSw); go_simp; (try with_reducible rfl))
          try simp only [Act.put, List.setIfInBounds_toArray, List.set_cons_zero, List.set_cons_succ]
          refine wpAnyH_take (i := 1) (oi := ({ dst := some 17, op := Op.move (Operand.tmp 5), type := 3, pos := "slices.go:25", after := #[], guard := none } : Oper)) (v := ?hv37) rfl (by kernel_rfl) (by kernel_rfl) (by kernel_rfl) (fun _ _ _ h => h) (Or.inl ⟨by rfl, ?hy37⟩) (by assumption) ?hr37
          case hy37 => (intro w hSw; (try dsimp only at hSw); go_simp; (try with_reducible rfl))
          try simp only [Act.put, List.setIfInBounds_toArray, List.set_cons_zero, List.set_cons_succ]
          refine wpAnyH_take (i := 2) (oi := ({ dst := some 18, op := Op.indexAddr 26 (Operand.tmp 16) (Operand.tmp 17), type := 0, pos := "slices.go:25", after := #[{ on := 0, ground := Ground.data }, { on := 1, ground := Ground.data }], guard := none } : Oper)) (v := ?hv38) rfl (by kernel_rfl) (by kernel_rfl) (by kernel_rfl) (fun _ _ _ h => h) (Or.inl ⟨by rfl, ?hy38⟩) (by assumption) ?hr38
          case hy38 => (intro w hSw; (try dsimp only at hSw); go_simp; (try with_reducible rfl))
          try simp only [Act.put, List.setIfInBounds_toArray, List.set_cons_zero, List.set_cons_succ]
          refine wpAnyH_take (i := 3) (oi := ({ dst := some 19, op := Op.load 131 (Operand.tmp 18), type := 131, pos := "slices.go:25", after := #[{ on := 2, ground := Ground.data }], guard := none } : Oper)) (v := .agg #[.int .i64 u1, .int .i64 m1]) rfl (by kernel_rfl) (by kernel_rfl) (by kernel_rfl) (fun _ _ _ h => h) (yieldsIf_load_mid (by rfl) 131 _ rfl b1 (o1 + k * 2) rfl [.int .i64 u1, .int .i64 m1] _ (fun w0 hw0 => rg_below RG1.out HB1.out hw0) Tryz.underlying131 rfl size88) (by assumption) ?_
          try simp only [Act.put, List.setIfInBounds_toArray, List.set_cons_zero, List.set_cons_succ]
          refine wpAnyH_take (i := 4) (oi := ({ dst := some 20, op := Op.move (Operand.tmp 1), type := 26, pos := "slices.go:25", after := #[], guard := none } : Oper)) (v := ?hv39) rfl (by kernel_rfl) (by kernel_rfl) (by kernel_rfl) (fun _ _ _ h => h) (Or.inl ⟨by rfl, ?hy39⟩) (by assumption) ?hr39
          case hy39 => (intro w hSw; (try dsimp only at hSw); go_simp; (try with_reducible rfl))
          try simp only [Act.put, List.setIfInBounds_toArray, List.set_cons_zero, List.set_cons_succ]
          refine wpAnyH_take (i := 5) (oi := ({ dst := some 21, op := Op.move (Operand.tmp 5), type := 3, pos := "slices.go:25", after := #[], guard := none } : Oper)) (v := ?hv40) rfl (by kernel_rfl) (by kernel_rfl) (by kernel_rfl) (fun _ _ _ h => h) (Or.inl ⟨by rfl, ?hy40⟩) (by assumption) ?hr40
          case hy40 => (intro w hSw; (try dsimp only at hSw); go_simp; (try with_reducible rfl))
          try simp only [Act.put, List.setIfInBounds_toArray, List.set_cons_zero, List.set_cons_succ]
          refine wpAnyH_take (i := 6) (oi := ({ dst := some 22, op := Op.indexAddr 26 (Operand.tmp 20) (Operand.tmp 21), type := 0, pos := "slices.go:25", after := #[{ on := 4, ground := Ground.data }, { on := 5, ground := Ground.data }], guard := none } : Oper)) (v := ?hv41) rfl (by kernel_rfl) (by kernel_rfl) (by kernel_rfl) (fun _ _ _ h => h) (Or.inl ⟨by rfl, ?hy41⟩) (by assumption) ?hr41
          case hy41 => (intro w hSw; (try dsimp only at hSw); go_simp; (try with_reducible rfl))
          try simp only [Act.put, List.setIfInBounds_toArray, List.set_cons_zero, List.set_cons_succ]
          refine wpAnyH_take (i := 7) (oi := ({ dst := some 23, op := Op.load 131 (Operand.tmp 22), type := 131, pos := "slices.go:25", after := #[{ on := 6, ground := Ground.data }], guard := none } : Oper)) (v := .agg #[.int .i64 u2, .int .i64 m2]) rfl (by kernel_rfl) (by kernel_rfl) (by kernel_rfl) (fun _ _ _ h => h) (yieldsIf_load_mid (by rfl) 131 _ rfl b2 (o2 + k * 2) rfl [.int .i64 u2, .int .i64 m2] _ (fun w0 hw0 => rg_below RG2.out HB2.out hw0) Tryz.underlying131 rfl size88) (by assumption) ?_
          try simp only [Act.put, List.setIfInBounds_toArray, List.set_cons_zero, List.set_cons_succ]
          refine wpAnyH_take (i := 8) (oi := ({ dst := some 24, op := Op.binOp BinOp.neq 131 (Operand.tmp 19) (Operand.tmp 23) 131, type := 4, pos := "slices.go:25", after := #[{ on := 3, ground := Ground.data }, { on := 7, ground := Ground.data }], guard := none } : Oper)) (v := ?hv42) rfl (by kernel_rfl) (by kernel_rfl) (by kernel_rfl) (fun _ _ _ h => h) (Or.inl ⟨by rfl, ?hy42⟩) (by assumption) ?hr42
          case hy42 => (intro w hSw; (try dsimp only at hSw); go_simp; (try with_reducible rfl))
          try simp only [Act.put, List.setIfInBounds_toArray, List.set_cons_zero, List.set_cons_succ]
          refine wpAnyH_done (by kernel_rfl) ?_ _
          go_wp2
          go_ret
          exact ⟨ret_b HE.out, BW.out.trans (RB0.out.mono BW.out.size)⟩
      · have hltz : ¬ (k : Int) < (n1 : Int) := by omega
        have HE := Lib.hid (HQ.out.symm.trans (decide_eq_true (extK (HL1.out.trans HL2.out.symm) (fun j hj => HO.out j (by have := HL1.out; omega)))))
        go_wp2
        go_ret
        exact ⟨ret_b HE.out, BW.out⟩
  · have e1 : ((n1 : Int) != (n2 : Int)) = true := by rw [bne_iff_ne]; omega
    have HE := Lib.hid (HQ.out.symm.trans (decide_eq_false (fun e => hn (by rw [← HL1.out, ← HL2.out, e]))))
    clear hn
    go_enter Tryz.func193, Tryz.ntmps193
    go_wp2
    go_ret
    exact ⟨ret_b HE.out, Below.refl _ _⟩
end Go.Proofs.YtablocpcgknmaaaGreatDoor
