/- Equality of lists in contents. No condition. -/
import Derived.Test.YtablocpcgknmaaaGreatDoorRK8
namespace Go.Proofs.YtablocpcgknmaaaGreatDoor
open Go.Lib (hid)
open Go Go.RowKit
set_option linter.unusedVariables false
set_option linter.unusedSimpArgs false
set_option maxRecDepth 100000

section
variable {P : Program} {ops : Array Oper} {Q : Exit → Act → World → Prop} {md : Region.Mode} {S : World → Prop}
/-- The moves of a region that draws its order, with their side conditions found by themselves. -/
theorem mvY (i : Nat) {oi : Oper} {v : Value} {fuel : Nat} {listed : Array Bool} {a : Act} {w : World} (hi : ops.toList[i]? = some oi) (hy : YieldsIf P ops S oi v a) (h : wpAnyH P md ops Q S fuel (listed.setIfInBounds i true) (a.put oi.dst v) w) (hs : Region.noSelect ops = true := by kernel_rfl) (hf : Region.free md ops listed i = true := by kernel_rfl) (hr : (Region.ready md ops listed).contains i = true := by kernel_rfl) (hQ : ∀ c a w, Q (.panic c) (a.put oi.dst v) w → Q (.panic c) a w := by exact fun _ _ _ h => h) (hS : S w := by assumption) : wpAnyH P md ops Q S (fuel + 1) listed a w := wpAnyH_take ((Array.getElem?_toList).symm.trans hi) hs hf hr hQ hy hS h
theorem mvA (i : Nat) {oi : Oper} {v : Value} {fuel : Nat} {listed : Array Bool} {a : Act} {w : World} (hi : ops.toList[i]? = some oi) (hy : ∀ w, S w → (execOp a.eval oi).run P w = .ok (.value v) w) (h : wpAnyH P md ops Q S fuel (listed.setIfInBounds i true) (a.put oi.dst v) w) (hw : Region.wanted oi (yielded ops a.tmps) = true := by rfl) (hs : Region.noSelect ops = true := by kernel_rfl) (hf : Region.free md ops listed i = true := by kernel_rfl) (hr : (Region.ready md ops listed).contains i = true := by kernel_rfl) (hQ : ∀ c a w, Q (.panic c) (a.put oi.dst v) w → Q (.panic c) a w := by exact fun _ _ _ h => h) (hS : S w := by assumption) : wpAnyH P md ops Q S (fuel + 1) listed a w := wpAnyH_take ((Array.getElem?_toList).symm.trans hi) hs hf hr hQ (Or.inl ⟨hw, hy⟩) hS h
theorem mvU (i : Nat) {oi : Oper} {fuel : Nat} {listed : Array Bool} {a : Act} {w : World} (hi : ops.toList[i]? = some oi) (h : wpAnyH P md ops Q S fuel (listed.setIfInBounds i true) (a.put oi.dst undef) w) (hw : Region.wanted oi (yielded ops a.tmps) = false := by rfl) (hs : Region.noSelect ops = true := by kernel_rfl) (hf : Region.free md ops listed i = true := by kernel_rfl) (hr : (Region.ready md ops listed).contains i = true := by kernel_rfl) (hQ : ∀ c a w, Q (.panic c) (a.put oi.dst undef) w → Q (.panic c) a w := by exact fun _ _ _ h => h) (hS : S w := by assumption) : wpAnyH P md ops Q S (fuel + 1) listed a w := wpAnyH_take ((Array.getElem?_toList).symm.trans hi) hs hf hr hQ (Or.inr ⟨hw, rfl⟩) hS h
theorem mvR (i : Nat) {o : Oper} {fuel : Nat} {listed : Array Bool} {a : Act} {w : World} (ho : ops.toList[i]? = some o) (h : ∀ K' : Act → World → Prop, Shut (∀ a w, S w → (S w → wpAnyH P md ops Q S fuel (listed.setIfInBounds i true) a w) → K' a w) → if Region.wanted o (yielded ops a.tmps) = true then Oper.wp P o a w K' Q else K' (a.put o.dst undef) w) (hr : Region.ready md ops listed = [i] := by kernel_rfl) : wpAnyH P md ops Q S (fuel + 1) listed a w := wpAnyH_ready hr (by simp) (AllReadyH.cons ((Array.getElem?_toList).symm.trans ho) h AllReadyH.nil)
end
theorem rg_below {w w1 : World} {b o : Nat} {vs : List Value} (h : World.rangeAt w b o vs) (hl : b < w.heap.size) (hb : Below w.heap.size w w1) : World.rangeAt w1 b o vs := fun i v hv => (hb.cell (p := ⟨b, _, none⟩) hl).trans (h i v hv)
theorem ret_b {a b : Bool} (h : b = a) : Ending.returned (.bool a) = .returned (.bool b) := by rw [h]
theorem extU {l1 l2 : List (ByteArray × Int)} (hl : l1.length = l2.length) (h : ∀ j, j < l1.length → fU l1 j = fU l2 j) : l1 = l2 := by
 refine List.ext_getElem hl (fun j h1 h2 => ?_)
 rw [← fU_at h1, ← fU_at h2]
 exact h j h1
theorem extK {l1 l2 : List (Int × Int)} (hl : l1.length = l2.length) (h : ∀ j, j < l1.length → fK l1 j = fK l2 j) : l1 = l2 := by
 refine List.ext_getElem hl (fun j h1 h2 => ?_)
 rw [← fK_at h1, ← fK_at h2]
 exact h j h1
theorem tx_inj {l1 l2 : List ByteArray} : tx l1 = tx l2 ↔ l1 = l2 := by
 constructor
 ·intro h
  unfold tx at h
  have hl : l1.length = l2.length := by have := congrArg List.length h; simpa using this
  refine List.ext_getElem hl (fun j h1 h2 => ?_)
  have e : (l1.map fun s => s.data.toList)[j]? = (l2.map fun s => s.data.toList)[j]? := by rw [h]
  rw [List.getElem?_map, List.getElem?_map, List.getElem?_eq_getElem h1, List.getElem?_eq_getElem h2] at e
  simp only [Option.map_some, Option.some.injEq] at e
  exact eq_of_toList (by rw [Lib.toList_data, Lib.toList_data]; exact e)
 ·intro h; rw [h]
theorem tx_dec (l1 l2 : List ByteArray) : decide (tx l1 = tx l2) = decide (l1 = l2) := by
 by_cases h : l1 = l2
 ·rw [decide_eq_true h, decide_eq_true (tx_inj.2 h)]
 ·rw [decide_eq_false h, decide_eq_false (fun e => h (tx_inj.1 e))]
set_option maxHeartbeats 400000 in
theorem equal55t (a1 : Option Addr) (n1 c1 : Nat) (l1 : List ByteArray) (a2 : Option Addr) (n2 c2 : Nat) (l2 : List ByteArray) (w : World) (h1 : Strs w a1 n1 l1) (h2 : Strs w a2 n2 l2) :
  Calls Tryz.prog 140 #[.slice a1 n1 c1, .slice a2 n2 c2] w fun e w' => e = .returned (.bool (decide (tx l1 = tx l2))) ∧ Below w.heap.size w w' := by
 have H1 := hid h1
 have H2 := hid h2
 have hm1 := h1.2.1
 have hm2 := h2.2.1
 have HL1 := hid h1.1
 have HL2 := hid h2.1
 clear h1 h2
 by_cases hn : n1 = n2
 ·subst hn
  have HN := hid (show l1.length = l2.length by rw [HL1.out, HL2.out])
  go_enter Tryz.func140, Tryz.ntmps140
  go_wp2
  go_loopw [13] (fun i wr => ∃ k : Nat, k ≤ n1 ∧ i = .int .i64 k ∧ Hid (∀ j, j < k → ((l1.getD j ByteArray.empty).toList == (l2.getD j ByteArray.empty).toList) = true) ∧ Hid (Below w.heap.size w wr)) (fun i _ => n1 - (intOf i).toNat)
  case atStart => exact ⟨0, Nat.zero_le _, rfl, hid (fun j hj => by omega), hid (Below.refl _ _)⟩
  case round =>
   obtain ⟨k, hk, rfl, HO, HB⟩ := hrel
   by_cases hlt : k < n1
   ·obtain ⟨b1, o1, rfl, t1, ht1, _, hb1, hc1⟩ := (H1.out.below HB.out).str hlt
    obtain ⟨b2, o2, rfl, t2, ht2, _, hb2, hc2⟩ := (H2.out.below HB.out).str hlt
    have HT1 := hid ht1
    have HT2 := hid ht2
    clear ht1 ht2
    cases he : t1.toList == t2.toList
    ·have HE := hid he
     have HF := hid (tx_ne (k := k) (by rw [HL1.out]; exact hlt) (by rw [HL2.out]; exact hlt) (by rw [← HT1.out, ← HT2.out]; exact he))
     go_wp2
     go_quiet (fail)
     go_wp2
     go_ret
     exact ⟨ret_bool (by rw [decide_eq_false HF.out]), below_dn HB.out _⟩
    ·have HE := hid he
     go_wp2
     go_quiet (fail)
     go_wp2
     go_roundw
     case rel => exact ⟨k + 1, by omega, by go_num, hid (fun j hj => by
       rcases Nat.lt_or_ge j k with h | h
       ·exact HO.out j h
       ·rw [show j = k by omega, ← HT1.out, ← HT2.out]; exact HE.out), hid (below_dn HB.out _)⟩
     case measure => simp [intOf]; omega
   ·have HF := hid (tx_eq HN.out (fun j hj => HO.out j (by have := HL1.out; omega)))
    go_wp2
    go_ret
    exact ⟨ret_bool (by rw [decide_eq_true HF.out]), HB.out⟩
 ·have e1 : ((n1 : Int) != (n2 : Int)) = true := by rw [bne_iff_ne]; omega
  have HF := hid (show tx l1 ≠ tx l2 by intro e; apply hn; rw [← HL1.out, ← HL2.out, ← tx_len, ← tx_len, e])
  clear hn
  go_enter Tryz.func140, Tryz.ntmps140
  go_wp2
  go_ret
  exact ⟨ret_bool (by rw [decide_eq_false HF.out]), Below.refl _ _⟩
theorem equal55 (a1 : Option Addr) (n1 c1 : Nat) (l1 : List ByteArray) (a2 : Option Addr) (n2 c2 : Nat) (l2 : List ByteArray) (w : World) (h1 : Txs w a1 n1 c1 l1) (h2 : Txs w a2 n2 c2 l2) (q : Bool) (hq : decide (l1 = l2) = q) : Calls Tryz.prog 140 #[.slice a1 n1 c1, .slice a2 n2 c2] w fun e w' => e = .returned (.bool q) ∧ Below w.heap.size w w' := by
 have := equal55t a1 n1 c1 l1 a2 n2 c2 l2 w h1.strs h2.strs
 rwa [tx_dec, hq] at this
theorem same24 (a1 : Option Addr) (n1 c1 : Nat) (l1 : List ByteArray) (a2 : Option Addr) (n2 c2 : Nat) (l2 : List ByteArray) (w : World) (h1 : Txs w a1 n1 c1 l1) (h2 : Txs w a2 n2 c2 l2) (q : Bool) (hq : decide (l1 = l2) = q) : Calls Tryz.prog 59 #[.slice a1 n1 c1, .slice a2 n2 c2] w fun e w' => e = .returned (.bool q) ∧ Below w.heap.size w w' := by
 have := same_any a1 n1 c1 l1 a2 n2 c2 l2 w h1.strs h2.strs
 rwa [tx_dec, hq] at this
set_option maxHeartbeats 8000000 in
theorem equal116 (A1 : Option Addr) (n1 c1 : Nat) (l1 : List (ByteArray × Int)) (A2 : Option Addr) (n2 c2 : Nat) (l2 : List (ByteArray × Int)) (w : World) (h1 : Rws w A1 n1 c1 2 (rowU (fU l1))) (hl1 : l1.length = n1) (h2 : Rws w A2 n2 c2 2 (rowU (fU l2))) (hl2 : l2.length = n2) : Calls Tryz.prog 192 #[.slice A1 n1 c1, .slice A2 n2 c2] w fun e w' => e = .returned (.bool (decide (l1 = l2))) ∧ Below w.heap.size w w' := by
 have H1 := hid h1
 have H2 := hid h2
 have hm1 := h1.big
 have hm2 := h2.big
 unfold maxLen at hm1 hm2
 have HL1 := hid hl1
 have HL2 := hid hl2
 generalize hq : decide (l1 = l2) = q
 have HQ := hid hq
 clear h1 h2 hl1 hl2 hq
 by_cases hn : n1 = n2
 ·subst hn
  go_enter Tryz.func192, Tryz.ntmps192
  go_wp2
  go_loopw [13] (fun i wr => ∃ k : Nat, k ≤ n1 ∧ i = .int .i64 k ∧ Hid (∀ j, j < k → fU l1 j = fU l2 j) ∧ Hid (Below w.heap.size w wr)) (fun i _ => n1 - (intOf i).toNat)
  case atStart => exact ⟨0, Nat.zero_le _, rfl, hid (fun j hj => by omega), hid (Below.refl _ _)⟩
  case round =>
   obtain ⟨k, hk, rfl, HO, BW⟩ := hrel
   by_cases hlt : k < n1
   ·have hltz : (k : Int) < (n1 : Int) := by omega
    have hk0 : (0 : Int) ≤ (k : Int) := by omega
    obtain ⟨b1, o1, rfl, hb1, hr1⟩ := (H1.out.below BW.out).get hlt
    obtain ⟨b2, o2, rfl, hb2, hr2⟩ := (H2.out.below BW.out).get hlt
    have HB1 := hid hb1
    have HB2 := hid hb2
    have RG1 := hid (show World.rangeAt wr b1 (o1 + k * 2) [.string (fU l1 k).1, .int .i64 (fU l1 k).2] from hr1)
    have RG2 := hid (show World.rangeAt wr b2 (o2 + k * 2) [.string (fU l2 k).1, .int .i64 (fU l2 k).2] from hr2)
    have HNx := hid (fun (e : fU l1 k = fU l2 k) => show ∀ j, j < k + 1 → fU l1 j = fU l2 j from fun j hj => by
     rcases Nat.lt_or_ge j k with h | h
     ·exact HO.out j h
     ·rw [show j = k by omega]; exact e)
    have HNe := hid (fun (e : ¬ fU l1 k = fU l2 k) => HQ.out.symm.trans (decide_eq_false (fun e2 => e (by rw [e2]))))
    clear hb1 hb2 hr1 hr2
    generalize fU l1 k = p1 at RG1 HNx HNe
    generalize fU l2 k = p2 at RG2 HNx HNe
    obtain ⟨u1, m1⟩ := p1
    obtain ⟨u2, m2⟩ := p2
    dsimp only at RG1 RG2 HNx HNe
    by_cases e1 : u1 = u2
    ·have z1 : (u1.toList == u2.toList) = true := by rw [e1]; exact beq_self_eq_true _
     by_cases e2 : m1 = m2
     ·have y2 : (m1 == m2) = true := by simpa using e2
      have HO2 := hid (HNx.out (by rw [e1, e2]))
      clear HNx HNe e1 e2
      go_upto_region 6 with (fail)
      refine wp_region_held_drew (S := (fun y => Below wr.heap.size wr y)) (by kernel_rfl) ((Below.refl wr.heap.size wr).drew) (fun hH0 => ?_)
      generalize hy0 : World.drew _ = y0 at hH0 ⊢
      have RB0 : Hid (Below wr.heap.size wr y0) := hid hH0
      clear hy0
      refine mvA 0 (v := ?hv1) rfl ?hy1 ?hr1
      case hy1 => (intro w hSw; (try dsimp only at hSw); go_simp; (try with_reducible rfl))
      try simp only [Act.put, sA, s0, s1]
      refine mvA 1 (v := ?hv2) rfl ?hy2 ?hr2
      case hy2 => (intro w hSw; (try dsimp only at hSw); go_simp; (try with_reducible rfl))
      try simp only [Act.put, sA, s0, s1]
      refine mvA 2 (v := ?hv3) rfl ?hy3 ?hr3
      case hy3 => (intro w hSw; (try dsimp only at hSw); go_simp; (try with_reducible rfl))
      try simp only [Act.put, sA, s0, s1]
      refine mvY 3 (v := .agg #[.string u1, .int .i64 m1]) rfl (yieldsIf_load_mid (by rfl) 73 _ rfl b1 (o1 + k * 2) rfl [.string u1, .int .i64 m1] _ (fun w0 hw0 => rg_below RG1.out HB1.out hw0) Tryz.underlying73 rfl size60) ?_
      try simp only [Act.put, sA, s0, s1]
      refine mvA 4 (v := ?hv4) rfl ?hy4 ?hr4
      case hy4 => (intro w hSw; (try dsimp only at hSw); go_simp; (try with_reducible rfl))
      try simp only [Act.put, sA, s0, s1]
      refine mvA 5 (v := ?hv5) rfl ?hy5 ?hr5
      case hy5 => (intro w hSw; (try dsimp only at hSw); go_simp; (try with_reducible rfl))
      try simp only [Act.put, sA, s0, s1]
      refine mvA 6 (v := ?hv6) rfl ?hy6 ?hr6
      case hy6 => (intro w hSw; (try dsimp only at hSw); go_simp; (try with_reducible rfl))
      try simp only [Act.put, sA, s0, s1]
      refine mvY 7 (v := .agg #[.string u2, .int .i64 m2]) rfl (yieldsIf_load_mid (by rfl) 73 _ rfl b2 (o2 + k * 2) rfl [.string u2, .int .i64 m2] _ (fun w0 hw0 => rg_below RG2.out HB2.out hw0) Tryz.underlying73 rfl size60) ?_
      try simp only [Act.put, sA, s0, s1]
      refine mvA 8 (v := ?hv7) rfl ?hy7 ?hr7
      case hy7 => (intro w hSw; (try dsimp only at hSw); go_simp; (try with_reducible rfl))
      try simp only [Act.put, sA, s0, s1]
      refine wpAnyH_done (by kernel_rfl) ?_ _
      go_wp2
      go_roundw
      case rel => exact ⟨k + 1, by omega, by go_num, HO2, hid (BW.out.trans (RB0.out.mono BW.out.size))⟩
      case measure => simp [intOf]; omega
     ·have y2 : (m1 == m2) = false := by simpa using e2
      have HE := hid (HNe.out (fun e => e2 (congrArg Prod.snd e)))
      clear HNx HNe e1 e2
      go_upto_region 6 with (fail)
      refine wp_region_held_drew (S := (fun y => Below wr.heap.size wr y)) (by kernel_rfl) ((Below.refl wr.heap.size wr).drew) (fun hH0 => ?_)
      generalize hy0 : World.drew _ = y0 at hH0 ⊢
      have RB0 : Hid (Below wr.heap.size wr y0) := hid hH0
      clear hy0
      refine mvA 0 (v := ?hv8) rfl ?hy8 ?hr8
      case hy8 => (intro w hSw; (try dsimp only at hSw); go_simp; (try with_reducible rfl))
      try simp only [Act.put, sA, s0, s1]
      refine mvA 1 (v := ?hv9) rfl ?hy9 ?hr9
      case hy9 => (intro w hSw; (try dsimp only at hSw); go_simp; (try with_reducible rfl))
      try simp only [Act.put, sA, s0, s1]
      refine mvA 2 (v := ?hv10) rfl ?hy10 ?hr10
      case hy10 => (intro w hSw; (try dsimp only at hSw); go_simp; (try with_reducible rfl))
      try simp only [Act.put, sA, s0, s1]
      refine mvY 3 (v := .agg #[.string u1, .int .i64 m1]) rfl (yieldsIf_load_mid (by rfl) 73 _ rfl b1 (o1 + k * 2) rfl [.string u1, .int .i64 m1] _ (fun w0 hw0 => rg_below RG1.out HB1.out hw0) Tryz.underlying73 rfl size60) ?_
      try simp only [Act.put, sA, s0, s1]
      refine mvA 4 (v := ?hv11) rfl ?hy11 ?hr11
      case hy11 => (intro w hSw; (try dsimp only at hSw); go_simp; (try with_reducible rfl))
      try simp only [Act.put, sA, s0, s1]
      refine mvA 5 (v := ?hv12) rfl ?hy12 ?hr12
      case hy12 => (intro w hSw; (try dsimp only at hSw); go_simp; (try with_reducible rfl))
      try simp only [Act.put, sA, s0, s1]
      refine mvA 6 (v := ?hv13) rfl ?hy13 ?hr13
      case hy13 => (intro w hSw; (try dsimp only at hSw); go_simp; (try with_reducible rfl))
      try simp only [Act.put, sA, s0, s1]
      refine mvY 7 (v := .agg #[.string u2, .int .i64 m2]) rfl (yieldsIf_load_mid (by rfl) 73 _ rfl b2 (o2 + k * 2) rfl [.string u2, .int .i64 m2] _ (fun w0 hw0 => rg_below RG2.out HB2.out hw0) Tryz.underlying73 rfl size60) ?_
      try simp only [Act.put, sA, s0, s1]
      refine mvA 8 (v := ?hv14) rfl ?hy14 ?hr14
      case hy14 => (intro w hSw; (try dsimp only at hSw); go_simp; (try with_reducible rfl))
      try simp only [Act.put, sA, s0, s1]
      refine wpAnyH_done (by kernel_rfl) ?_ _
      go_wp2
      go_ret
      exact ⟨ret_b HE.out, BW.out.trans (RB0.out.mono BW.out.size)⟩
    ·have z1 : (u1.toList == u2.toList) = false := beq_eq_false_iff_ne.2 (fun e => e1 (eq_of_toList e))
     have HE := hid (HNe.out (fun e => e1 (congrArg Prod.fst e)))
     clear HNx HNe e1
     go_upto_region 6 with (fail)
     refine wp_region_held_drew (S := (fun y => Below wr.heap.size wr y)) (by kernel_rfl) ((Below.refl wr.heap.size wr).drew) (fun hH0 => ?_)
     generalize hy0 : World.drew _ = y0 at hH0 ⊢
     have RB0 : Hid (Below wr.heap.size wr y0) := hid hH0
     clear hy0
     refine mvA 0 (v := ?hv15) rfl ?hy15 ?hr15
     case hy15 => (intro w hSw; (try dsimp only at hSw); go_simp; (try with_reducible rfl))
     try simp only [Act.put, sA, s0, s1]
     refine mvA 1 (v := ?hv16) rfl ?hy16 ?hr16
     case hy16 => (intro w hSw; (try dsimp only at hSw); go_simp; (try with_reducible rfl))
     try simp only [Act.put, sA, s0, s1]
     refine mvA 2 (v := ?hv17) rfl ?hy17 ?hr17
     case hy17 => (intro w hSw; (try dsimp only at hSw); go_simp; (try with_reducible rfl))
     try simp only [Act.put, sA, s0, s1]
     refine mvY 3 (v := .agg #[.string u1, .int .i64 m1]) rfl (yieldsIf_load_mid (by rfl) 73 _ rfl b1 (o1 + k * 2) rfl [.string u1, .int .i64 m1] _ (fun w0 hw0 => rg_below RG1.out HB1.out hw0) Tryz.underlying73 rfl size60) ?_
     try simp only [Act.put, sA, s0, s1]
     refine mvA 4 (v := ?hv18) rfl ?hy18 ?hr18
     case hy18 => (intro w hSw; (try dsimp only at hSw); go_simp; (try with_reducible rfl))
     try simp only [Act.put, sA, s0, s1]
     refine mvA 5 (v := ?hv19) rfl ?hy19 ?hr19
     case hy19 => (intro w hSw; (try dsimp only at hSw); go_simp; (try with_reducible rfl))
     try simp only [Act.put, sA, s0, s1]
     refine mvA 6 (v := ?hv20) rfl ?hy20 ?hr20
     case hy20 => (intro w hSw; (try dsimp only at hSw); go_simp; (try with_reducible rfl))
     try simp only [Act.put, sA, s0, s1]
     refine mvY 7 (v := .agg #[.string u2, .int .i64 m2]) rfl (yieldsIf_load_mid (by rfl) 73 _ rfl b2 (o2 + k * 2) rfl [.string u2, .int .i64 m2] _ (fun w0 hw0 => rg_below RG2.out HB2.out hw0) Tryz.underlying73 rfl size60) ?_
     try simp only [Act.put, sA, s0, s1]
     refine mvA 8 (v := ?hv21) rfl ?hy21 ?hr21
     case hy21 => (intro w hSw; (try dsimp only at hSw); go_simp; (try with_reducible rfl))
     try simp only [Act.put, sA, s0, s1]
     refine wpAnyH_done (by kernel_rfl) ?_ _
     go_wp2
     go_ret
     exact ⟨ret_b HE.out, BW.out.trans (RB0.out.mono BW.out.size)⟩
   ·have hltz : ¬ (k : Int) < (n1 : Int) := by omega
    have HE := hid (HQ.out.symm.trans (decide_eq_true (extU (HL1.out.trans HL2.out.symm) (fun j hj => HO.out j (by have := HL1.out; omega)))))
    go_wp2
    go_ret
    exact ⟨ret_b HE.out, BW.out⟩
 ·have e1 : ((n1 : Int) != (n2 : Int)) = true := by rw [bne_iff_ne]; omega
  have HE := hid (HQ.out.symm.trans (decide_eq_false (fun e => hn (by rw [← HL1.out, ← HL2.out, e]))))
  clear hn
  go_enter Tryz.func192, Tryz.ntmps192
  go_wp2
  go_ret
  exact ⟨ret_b HE.out, Below.refl _ _⟩
set_option maxHeartbeats 8000000 in
theorem equal117 (A1 : Option Addr) (n1 c1 : Nat) (l1 : List (Int × Int)) (A2 : Option Addr) (n2 c2 : Nat) (l2 : List (Int × Int)) (w : World) (h1 : Rws w A1 n1 c1 2 (rowK (fK l1))) (hl1 : l1.length = n1) (h2 : Rws w A2 n2 c2 2 (rowK (fK l2))) (hl2 : l2.length = n2) : Calls Tryz.prog 193 #[.slice A1 n1 c1, .slice A2 n2 c2] w fun e w' => e = .returned (.bool (decide (l1 = l2))) ∧ Below w.heap.size w w' := by
 have H1 := hid h1
 have H2 := hid h2
 have hm1 := h1.big
 have hm2 := h2.big
 unfold maxLen at hm1 hm2
 have HL1 := hid hl1
 have HL2 := hid hl2
 generalize hq : decide (l1 = l2) = q
 have HQ := hid hq
 clear h1 h2 hl1 hl2 hq
 by_cases hn : n1 = n2
 ·subst hn
  go_enter Tryz.func193, Tryz.ntmps193
  go_wp2
  go_loopw [13] (fun i wr => ∃ k : Nat, k ≤ n1 ∧ i = .int .i64 k ∧ Hid (∀ j, j < k → fK l1 j = fK l2 j) ∧ Hid (Below w.heap.size w wr)) (fun i _ => n1 - (intOf i).toNat)
  case atStart => exact ⟨0, Nat.zero_le _, rfl, hid (fun j hj => by omega), hid (Below.refl _ _)⟩
  case round =>
   obtain ⟨k, hk, rfl, HO, BW⟩ := hrel
   by_cases hlt : k < n1
   ·have hltz : (k : Int) < (n1 : Int) := by omega
    have hk0 : (0 : Int) ≤ (k : Int) := by omega
    obtain ⟨b1, o1, rfl, hb1, hr1⟩ := (H1.out.below BW.out).get hlt
    obtain ⟨b2, o2, rfl, hb2, hr2⟩ := (H2.out.below BW.out).get hlt
    have HB1 := hid hb1
    have HB2 := hid hb2
    have RG1 := hid (show World.rangeAt wr b1 (o1 + k * 2) [.int .i64 (fK l1 k).1, .int .i64 (fK l1 k).2] from hr1)
    have RG2 := hid (show World.rangeAt wr b2 (o2 + k * 2) [.int .i64 (fK l2 k).1, .int .i64 (fK l2 k).2] from hr2)
    have HNx := hid (fun (e : fK l1 k = fK l2 k) => show ∀ j, j < k + 1 → fK l1 j = fK l2 j from fun j hj => by
     rcases Nat.lt_or_ge j k with h | h
     ·exact HO.out j h
     ·rw [show j = k by omega]; exact e)
    have HNe := hid (fun (e : ¬ fK l1 k = fK l2 k) => HQ.out.symm.trans (decide_eq_false (fun e2 => e (by rw [e2]))))
    clear hb1 hb2 hr1 hr2
    generalize fK l1 k = p1 at RG1 HNx HNe
    generalize fK l2 k = p2 at RG2 HNx HNe
    obtain ⟨u1, m1⟩ := p1
    obtain ⟨u2, m2⟩ := p2
    dsimp only at RG1 RG2 HNx HNe
    by_cases e1 : u1 = u2
    ·have z1 : (u1 == u2) = true := by simpa using e1
     by_cases e2 : m1 = m2
     ·have y2 : (m1 == m2) = true := by simpa using e2
      have HO2 := hid (HNx.out (by rw [e1, e2]))
      clear HNx HNe e1 e2
      go_upto_region 6 with (fail)
      refine wp_region_held_drew (S := (fun y => Below wr.heap.size wr y)) (by kernel_rfl) ((Below.refl wr.heap.size wr).drew) (fun hH0 => ?_)
      generalize hy0 : World.drew _ = y0 at hH0 ⊢
      have RB0 : Hid (Below wr.heap.size wr y0) := hid hH0
      clear hy0
      refine mvA 0 (v := ?hv22) rfl ?hy22 ?hr22
      case hy22 => (intro w hSw; (try dsimp only at hSw); go_simp; (try with_reducible rfl))
      try simp only [Act.put, sA, s0, s1]
      refine mvA 1 (v := ?hv23) rfl ?hy23 ?hr23
      case hy23 => (intro w hSw; (try dsimp only at hSw); go_simp; (try with_reducible rfl))
      try simp only [Act.put, sA, s0, s1]
      refine mvA 2 (v := ?hv24) rfl ?hy24 ?hr24
      case hy24 => (intro w hSw; (try dsimp only at hSw); go_simp; (try with_reducible rfl))
      try simp only [Act.put, sA, s0, s1]
      refine mvY 3 (v := .agg #[.int .i64 u1, .int .i64 m1]) rfl (yieldsIf_load_mid (by rfl) 131 _ rfl b1 (o1 + k * 2) rfl [.int .i64 u1, .int .i64 m1] _ (fun w0 hw0 => rg_below RG1.out HB1.out hw0) Tryz.underlying131 rfl size88) ?_
      try simp only [Act.put, sA, s0, s1]
      refine mvA 4 (v := ?hv25) rfl ?hy25 ?hr25
      case hy25 => (intro w hSw; (try dsimp only at hSw); go_simp; (try with_reducible rfl))
      try simp only [Act.put, sA, s0, s1]
      refine mvA 5 (v := ?hv26) rfl ?hy26 ?hr26
      case hy26 => (intro w hSw; (try dsimp only at hSw); go_simp; (try with_reducible rfl))
      try simp only [Act.put, sA, s0, s1]
      refine mvA 6 (v := ?hv27) rfl ?hy27 ?hr27
      case hy27 => (intro w hSw; (try dsimp only at hSw); go_simp; (try with_reducible rfl))
      try simp only [Act.put, sA, s0, s1]
      refine mvY 7 (v := .agg #[.int .i64 u2, .int .i64 m2]) rfl (yieldsIf_load_mid (by rfl) 131 _ rfl b2 (o2 + k * 2) rfl [.int .i64 u2, .int .i64 m2] _ (fun w0 hw0 => rg_below RG2.out HB2.out hw0) Tryz.underlying131 rfl size88) ?_
      try simp only [Act.put, sA, s0, s1]
      refine mvA 8 (v := ?hv28) rfl ?hy28 ?hr28
      case hy28 => (intro w hSw; (try dsimp only at hSw); go_simp; (try with_reducible rfl))
      try simp only [Act.put, sA, s0, s1]
      refine wpAnyH_done (by kernel_rfl) ?_ _
      go_wp2
      go_roundw
      case rel => exact ⟨k + 1, by omega, by go_num, HO2, hid (BW.out.trans (RB0.out.mono BW.out.size))⟩
      case measure => simp [intOf]; omega
     ·have y2 : (m1 == m2) = false := by simpa using e2
      have HE := hid (HNe.out (fun e => e2 (congrArg Prod.snd e)))
      clear HNx HNe e1 e2
      go_upto_region 6 with (fail)
      refine wp_region_held_drew (S := (fun y => Below wr.heap.size wr y)) (by kernel_rfl) ((Below.refl wr.heap.size wr).drew) (fun hH0 => ?_)
      generalize hy0 : World.drew _ = y0 at hH0 ⊢
      have RB0 : Hid (Below wr.heap.size wr y0) := hid hH0
      clear hy0
      refine mvA 0 (v := ?hv29) rfl ?hy29 ?hr29
      case hy29 => (intro w hSw; (try dsimp only at hSw); go_simp; (try with_reducible rfl))
      try simp only [Act.put, sA, s0, s1]
      refine mvA 1 (v := ?hv30) rfl ?hy30 ?hr30
      case hy30 => (intro w hSw; (try dsimp only at hSw); go_simp; (try with_reducible rfl))
      try simp only [Act.put, sA, s0, s1]
      refine mvA 2 (v := ?hv31) rfl ?hy31 ?hr31
      case hy31 => (intro w hSw; (try dsimp only at hSw); go_simp; (try with_reducible rfl))
      try simp only [Act.put, sA, s0, s1]
      refine mvY 3 (v := .agg #[.int .i64 u1, .int .i64 m1]) rfl (yieldsIf_load_mid (by rfl) 131 _ rfl b1 (o1 + k * 2) rfl [.int .i64 u1, .int .i64 m1] _ (fun w0 hw0 => rg_below RG1.out HB1.out hw0) Tryz.underlying131 rfl size88) ?_
      try simp only [Act.put, sA, s0, s1]
      refine mvA 4 (v := ?hv32) rfl ?hy32 ?hr32
      case hy32 => (intro w hSw; (try dsimp only at hSw); go_simp; (try with_reducible rfl))
      try simp only [Act.put, sA, s0, s1]
      refine mvA 5 (v := ?hv33) rfl ?hy33 ?hr33
      case hy33 => (intro w hSw; (try dsimp only at hSw); go_simp; (try with_reducible rfl))
      try simp only [Act.put, sA, s0, s1]
      refine mvA 6 (v := ?hv34) rfl ?hy34 ?hr34
      case hy34 => (intro w hSw; (try dsimp only at hSw); go_simp; (try with_reducible rfl))
      try simp only [Act.put, sA, s0, s1]
      refine mvY 7 (v := .agg #[.int .i64 u2, .int .i64 m2]) rfl (yieldsIf_load_mid (by rfl) 131 _ rfl b2 (o2 + k * 2) rfl [.int .i64 u2, .int .i64 m2] _ (fun w0 hw0 => rg_below RG2.out HB2.out hw0) Tryz.underlying131 rfl size88) ?_
      try simp only [Act.put, sA, s0, s1]
      refine mvA 8 (v := ?hv35) rfl ?hy35 ?hr35
      case hy35 => (intro w hSw; (try dsimp only at hSw); go_simp; (try with_reducible rfl))
      try simp only [Act.put, sA, s0, s1]
      refine wpAnyH_done (by kernel_rfl) ?_ _
      go_wp2
      go_ret
      exact ⟨ret_b HE.out, BW.out.trans (RB0.out.mono BW.out.size)⟩
    ·have z1 : (u1 == u2) = false := by simpa using e1
     have HE := hid (HNe.out (fun e => e1 (congrArg Prod.fst e)))
     clear HNx HNe e1
     go_upto_region 6 with (fail)
     refine wp_region_held_drew (S := (fun y => Below wr.heap.size wr y)) (by kernel_rfl) ((Below.refl wr.heap.size wr).drew) (fun hH0 => ?_)
     generalize hy0 : World.drew _ = y0 at hH0 ⊢
     have RB0 : Hid (Below wr.heap.size wr y0) := hid hH0
     clear hy0
     refine mvA 0 (v := ?hv36) rfl ?hy36 ?hr36
     case hy36 => (intro w hSw; (try dsimp only at hSw); go_simp; (try with_reducible rfl))
     try simp only [Act.put, sA, s0, s1]
     refine mvA 1 (v := ?hv37) rfl ?hy37 ?hr37
     case hy37 => (intro w hSw; (try dsimp only at hSw); go_simp; (try with_reducible rfl))
     try simp only [Act.put, sA, s0, s1]
     refine mvA 2 (v := ?hv38) rfl ?hy38 ?hr38
     case hy38 => (intro w hSw; (try dsimp only at hSw); go_simp; (try with_reducible rfl))
     try simp only [Act.put, sA, s0, s1]
     refine mvY 3 (v := .agg #[.int .i64 u1, .int .i64 m1]) rfl (yieldsIf_load_mid (by rfl) 131 _ rfl b1 (o1 + k * 2) rfl [.int .i64 u1, .int .i64 m1] _ (fun w0 hw0 => rg_below RG1.out HB1.out hw0) Tryz.underlying131 rfl size88) ?_
     try simp only [Act.put, sA, s0, s1]
     refine mvA 4 (v := ?hv39) rfl ?hy39 ?hr39
     case hy39 => (intro w hSw; (try dsimp only at hSw); go_simp; (try with_reducible rfl))
     try simp only [Act.put, sA, s0, s1]
     refine mvA 5 (v := ?hv40) rfl ?hy40 ?hr40
     case hy40 => (intro w hSw; (try dsimp only at hSw); go_simp; (try with_reducible rfl))
     try simp only [Act.put, sA, s0, s1]
     refine mvA 6 (v := ?hv41) rfl ?hy41 ?hr41
     case hy41 => (intro w hSw; (try dsimp only at hSw); go_simp; (try with_reducible rfl))
     try simp only [Act.put, sA, s0, s1]
     refine mvY 7 (v := .agg #[.int .i64 u2, .int .i64 m2]) rfl (yieldsIf_load_mid (by rfl) 131 _ rfl b2 (o2 + k * 2) rfl [.int .i64 u2, .int .i64 m2] _ (fun w0 hw0 => rg_below RG2.out HB2.out hw0) Tryz.underlying131 rfl size88) ?_
     try simp only [Act.put, sA, s0, s1]
     refine mvA 8 (v := ?hv42) rfl ?hy42 ?hr42
     case hy42 => (intro w hSw; (try dsimp only at hSw); go_simp; (try with_reducible rfl))
     try simp only [Act.put, sA, s0, s1]
     refine wpAnyH_done (by kernel_rfl) ?_ _
     go_wp2
     go_ret
     exact ⟨ret_b HE.out, BW.out.trans (RB0.out.mono BW.out.size)⟩
   ·have hltz : ¬ (k : Int) < (n1 : Int) := by omega
    have HE := hid (HQ.out.symm.trans (decide_eq_true (extK (HL1.out.trans HL2.out.symm) (fun j hj => HO.out j (by have := HL1.out; omega)))))
    go_wp2
    go_ret
    exact ⟨ret_b HE.out, BW.out⟩
 ·have e1 : ((n1 : Int) != (n2 : Int)) = true := by rw [bne_iff_ne]; omega
  have HE := hid (HQ.out.symm.trans (decide_eq_false (fun e => hn (by rw [← HL1.out, ← HL2.out, e]))))
  clear hn
  go_enter Tryz.func193, Tryz.ntmps193
  go_wp2
  go_ret
  exact ⟨ret_b HE.out, Below.refl _ _⟩
end Go.Proofs.YtablocpcgknmaaaGreatDoor
