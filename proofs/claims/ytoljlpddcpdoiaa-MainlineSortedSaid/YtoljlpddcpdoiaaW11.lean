/- The mainline: the reference's Power. Bound: at most 900000 events. -/
import Derived.Test.YtoljlpddcpdoiaaW10
namespace Go.Proofs.Ytoljlpddcpdoiaa
open Go Go.RowKit Go.Maps
set_option linter.unusedVariables false
set_option linter.unusedSimpArgs false

theorem store_mid_as {P : Program} {ops : Array Oper} {rest : List Oper} {op : Oper} {a : Act} {w : World} {Q : Exit → Act → World → Prop} (hgd : op.guard = none) (ty : TypeId) (x y : Operand) (ho : op.op = .store ty x y)
    (b o : Nat) (cells : Array Value) (hx : a.eval x = .pointer (some ⟨b, o, none⟩)) (hy : a.eval y = .agg cells)
    (ht : w.there b o cells.size) (hi : (P.info? ty).map (·.size) = some cells.size) (h1 : cells.all (·.oneCell') = true)
    (h : ∀ w4, w4 = w.setCells b o cells.toList → wpList P ops Q rest (a.put op.dst undef) w4) : wpList P ops Q (op :: rest) a w :=
  wpList_store_mid hgd ty x y ho b o cells hx hy ht hi h1 (h _ rfl)
set_option maxRecDepth 100000 in
set_option maxHeartbeats 8000000 in
theorem rpower23 (A : Option Addr) (n c : Nat) (E : Nat → Me) (j : Nat) (w : World) (h : Evm w A n E) (hn : n ≤ 900000) (hj : j < n) : Calls Try.prog 23 #[.slice A n c, .agg (E j).cs.toArray] w (PowP w (pow E n j)) := by
  have H := Lib.hid h
  have HIt := Lib.hid (h.au j hj)
  have HF := Lib.hid (h.fit j hj)
  have HG := Lib.hid (fun x v (hb : Below w.heap.size w v) => get17 A n c E x v (h.below hb) hn)
  unfold GetP at HG
  have HP := Lib.hid (show pow E n j = (E j).zs.find? (powq E n) from rfl)
  unfold PowP
  clear h
  generalize pow E n j = po at HP ⊢
  generalize hE : E j = e0 at HIt HF HP ⊢
  obtain ⟨id0, kd0, tm0, aA, nA, cA, zs, cs⟩ := e0
  simp only at HIt HP ⊢
  have HL := Lib.hid HIt.out.len
  have hbig := HIt.out.rws.big
  unfold maxLen at hbig
  clear hE
  have BA := Lib.hid ((Below.refl w.heap.size w).alloc (Nat.le_refl _) (.cells cs.toArray 44))
  have XA := Lib.hid (blk_new w cs 44)
  go_enter Try.func23, Try.ntmps23
  go_wp2
  go_loopg [6, 7, 8] nA (fun gg s6 _ _ wr => ∃ kk : Nat, kk ≤ nA ∧ nA - kk ≤ gg ∧ s6 = .int .i64 kk ∧ Hid (∀ i, i < kk → powq E n (zs.getD i 0) = false) ∧ Hid (Below w.heap.size w wr) ∧ Hid (Blk wr w.heap.size cs 44))
  case atStart => exact ⟨0, Nat.zero_le _, by omega, rfl, Lib.hid (fun i hi => absurd hi (Nat.not_lt_zero _)), BA, XA⟩
  case round =>
    obtain ⟨kk, hkk, hg, rfl, HJ, BW, XW⟩ := hrel
    have k9 := XW.out.cell (i := 9) HF.out.c9
    by_cases hlt : kk < nA
    · have hltz : (kk : Int) < (nA : Int) := by omega
      have hk0 : (0 : Int) ≤ (kk : Int) := by omega
      obtain ⟨b2, off2, eA, hbl2, q0, hfit⟩ := (HIt.out.below BW.out).at_ hlt
      subst eA
      have HAt := Lib.hid (fun v (hb : Below w.heap.size w v) => show v.cell? ⟨b2, off2 + kk, none⟩ = some (.int .i64 (zs.getD kk 0)) by
        obtain ⟨b5, off5, e5, _, q5, _⟩ := (HIt.out.below hb).at_ hlt
        simp only [Option.some.injEq, Addr.mk.injEq, and_true] at e5
        obtain ⟨rfl, rfl⟩ := e5
        exact q5)
      have HQ := Lib.hid (show powq E n (zs.getD kk 0) = (match plc E n (zs.getD kk 0) with | some i => (E i.toNat).kd == 3 | none => false) from rfl)
      have HFi0 := Lib.hid (fun (h : powq E n (zs.getD kk 0) = true) => find_first (q := powq E n) (by rw [HL.out]; exact hlt) h HJ.out)
      have HNo : Hid (powq E n (zs.getD kk 0) = false → ∀ i, i < kk + 1 → powq E n (zs.getD i 0) = false) := Lib.hid (fun h i hi => by
        by_cases e : i = kk
        · subst e; exact h
        · exact HJ.out i (by omega))
      generalize zs.getD kk 0 = x at q0 hfit HQ HFi0 HNo HAt
      have HG := Lib.hid (fun v hb => HG.out x v hb)
      cases hp : plc E n x with
      | none =>
        rw [hp] at HG HQ
        have HN2 := Lib.hid (HNo.out HQ.out)
        clear hp HFi0 HNo HQ
        go_wp2_with (first
          | (go_at_call 17; (with_reducible refine (HG.out _ BW.out).mono ?_); rintro e w1 ⟨cs', rfl, hl', ho', hq', hb⟩; have HL' := Lib.hid hl'; have HO' := Lib.hid ho'; have HQ' := Lib.hid hq'; have B1 := Lib.hid (BW.out.trans (hb.mono BW.out.size)); have X1 := Lib.hid (XW.out.below hb); clear hb hl' ho' hq' k9 q0)
          | (refine store_mid_as rfl 44 _ _ rfl w1.heap.size 0 cs'.toArray rfl rfl (show World.there (w1.alloc (.cells #[.int .i64 0, .string ⟨#[]⟩, .string ⟨#[]⟩, .int .i64 0, .bool false, .string ⟨#[]⟩, .int .i64 0, .int .i64 0, .slice none 0 0, .slice none 0 0, .string ⟨#[]⟩, .int .i64 0, .int .i64 0, .bool false, .string ⟨#[]⟩, .slice none 0 0, .slice none 0 0, .slice none 0 0, .slice none 0 0, .int .i64 0, .int .i64 0, .int .i64 0, .int .i64 0, .int .i64 0, .int .i64 0, .int .i64 0, .int .i64 0, .string ⟨#[]⟩, .int .i64 0] 44)) w1.heap.size 0 _ from (show Blk (w1.alloc (.cells #[.int .i64 0, .string ⟨#[]⟩, .string ⟨#[]⟩, .int .i64 0, .bool false, .string ⟨#[]⟩, .int .i64 0, .int .i64 0, .slice none 0 0, .slice none 0 0, .string ⟨#[]⟩, .int .i64 0, .int .i64 0, .bool false, .string ⟨#[]⟩, .slice none 0 0, .slice none 0 0, .slice none 0 0, .slice none 0 0, .int .i64 0, .int .i64 0, .int .i64 0, .int .i64 0, .int .i64 0, .int .i64 0, .int .i64 0, .int .i64 0, .string ⟨#[]⟩, .int .i64 0] 44)) w1.heap.size zE 44 from blk_new w1 zE 44).there (by rw [List.size_toArray, HL'.out]; decide)) (size44a HL'.out) (all_arr HO'.out) ?_; intro w3 e3; have B3 := Lib.hid (show Below w.heap.size w w3 by rw [e3]; exact below_setRow (B1.out.alloc B1.out.size _) B1.out.size _ _); have X3 := Lib.hid (show Blk w3 w.heap.size cs 44 by rw [e3]; exact (X1.out.alloc _).otherAll _ _ _ (Nat.ne_of_lt X1.out.lt)); have X7 := Lib.hid (show Blk w3 w1.heap.size cs' 44 by rw [e3]; exact (show Blk (w1.alloc (.cells #[.int .i64 0, .string ⟨#[]⟩, .string ⟨#[]⟩, .int .i64 0, .bool false, .string ⟨#[]⟩, .int .i64 0, .int .i64 0, .slice none 0 0, .slice none 0 0, .string ⟨#[]⟩, .int .i64 0, .int .i64 0, .bool false, .string ⟨#[]⟩, .slice none 0 0, .slice none 0 0, .slice none 0 0, .slice none 0 0, .int .i64 0, .int .i64 0, .int .i64 0, .int .i64 0, .int .i64 0, .int .i64 0, .int .i64 0, .int .i64 0, .string ⟨#[]⟩, .int .i64 0] 44)) w1.heap.size zE 44 from blk_new w1 zE 44).setAll cs' HL'.out); clear e3; have k9 := X3.out.cell (i := 9) HF.out.c9; have q0 := HAt.out _ B3.out)
          | go_in)
        go_roundg (nA - (kk + 1))
        case measure => omega
        case rel => exact ⟨kk + 1, by omega, by omega, by go_num, HN2, B3, X3⟩
      | some i =>
        obtain ⟨i', rfl, hi', _⟩ := plc_lt hp
        have HFi := Lib.hid (H.out.fit i' hi')
        rw [hp] at HG HQ
        have HQ2 := Lib.hid (show powq E n x = ((E i').kd == 3) from HQ.out)
        clear hp HQ
        cases hk3 : ((E i').kd == 3)
        · have HN2 := Lib.hid (HNo.out (HQ2.out.trans hk3))
          clear HQ2 HFi0 HNo
          go_wp2_with (first
            | (go_at_call 17; (with_reducible refine (HG.out _ BW.out).mono ?_); rintro e w1 ⟨cs', rfl, hl', ho', hq', hb⟩; have HL' := Lib.hid hl'; have HO' := Lib.hid ho'; have HQ' := Lib.hid hq'; have B1 := Lib.hid (BW.out.trans (hb.mono BW.out.size)); have X1 := Lib.hid (XW.out.below hb); clear hb hl' ho' hq' k9 q0)
            | (refine store_mid_as rfl 44 _ _ rfl w1.heap.size 0 cs'.toArray rfl rfl (show World.there (w1.alloc (.cells #[.int .i64 0, .string ⟨#[]⟩, .string ⟨#[]⟩, .int .i64 0, .bool false, .string ⟨#[]⟩, .int .i64 0, .int .i64 0, .slice none 0 0, .slice none 0 0, .string ⟨#[]⟩, .int .i64 0, .int .i64 0, .bool false, .string ⟨#[]⟩, .slice none 0 0, .slice none 0 0, .slice none 0 0, .slice none 0 0, .int .i64 0, .int .i64 0, .int .i64 0, .int .i64 0, .int .i64 0, .int .i64 0, .int .i64 0, .int .i64 0, .string ⟨#[]⟩, .int .i64 0] 44)) w1.heap.size 0 _ from (show Blk (w1.alloc (.cells #[.int .i64 0, .string ⟨#[]⟩, .string ⟨#[]⟩, .int .i64 0, .bool false, .string ⟨#[]⟩, .int .i64 0, .int .i64 0, .slice none 0 0, .slice none 0 0, .string ⟨#[]⟩, .int .i64 0, .int .i64 0, .bool false, .string ⟨#[]⟩, .slice none 0 0, .slice none 0 0, .slice none 0 0, .slice none 0 0, .int .i64 0, .int .i64 0, .int .i64 0, .int .i64 0, .int .i64 0, .int .i64 0, .int .i64 0, .int .i64 0, .string ⟨#[]⟩, .int .i64 0] 44)) w1.heap.size zE 44 from blk_new w1 zE 44).there (by rw [List.size_toArray, HL'.out]; decide)) (size44a HL'.out) (all_arr HO'.out) ?_; intro w3 e3; have B3 := Lib.hid (show Below w.heap.size w w3 by rw [e3]; exact below_setRow (B1.out.alloc B1.out.size _) B1.out.size _ _); have X3 := Lib.hid (show Blk w3 w.heap.size cs 44 by rw [e3]; exact (X1.out.alloc _).otherAll _ _ _ (Nat.ne_of_lt X1.out.lt)); have X7 := Lib.hid (show Blk w3 w1.heap.size cs' 44 by rw [e3]; exact (show Blk (w1.alloc (.cells #[.int .i64 0, .string ⟨#[]⟩, .string ⟨#[]⟩, .int .i64 0, .bool false, .string ⟨#[]⟩, .int .i64 0, .int .i64 0, .slice none 0 0, .slice none 0 0, .string ⟨#[]⟩, .int .i64 0, .int .i64 0, .bool false, .string ⟨#[]⟩, .slice none 0 0, .slice none 0 0, .slice none 0 0, .slice none 0 0, .int .i64 0, .int .i64 0, .int .i64 0, .int .i64 0, .int .i64 0, .int .i64 0, .int .i64 0, .int .i64 0, .string ⟨#[]⟩, .int .i64 0] 44)) w1.heap.size zE 44 from blk_new w1 zE 44).setAll cs' HL'.out); clear e3; have k9 := X3.out.cell (i := 9) HF.out.c9; have q0 := HAt.out _ B3.out; have q3 := X7.out.cell (i := 3) (by rw [HQ'.out i' rfl]; exact HFi.out.c3))
            | go_in)
          go_roundg (nA - (kk + 1))
          case measure => omega
          case rel => exact ⟨kk + 1, by omega, by omega, by go_num, HN2, B3, X3⟩
        · have HF2 := Lib.hid (HP.out.trans (HFi0.out (HQ2.out.trans hk3)))
          clear HQ2 HFi0 HNo
          go_wp2_with (first
            | (go_at_call 17; (with_reducible refine (HG.out _ BW.out).mono ?_); rintro e w1 ⟨cs', rfl, hl', ho', hq', hb⟩; have HL' := Lib.hid hl'; have HO' := Lib.hid ho'; have HQ' := Lib.hid hq'; have B1 := Lib.hid (BW.out.trans (hb.mono BW.out.size)); have X1 := Lib.hid (XW.out.below hb); clear hb hl' ho' hq' k9 q0)
            | (refine store_mid_as rfl 44 _ _ rfl w1.heap.size 0 cs'.toArray rfl rfl (show World.there (w1.alloc (.cells #[.int .i64 0, .string ⟨#[]⟩, .string ⟨#[]⟩, .int .i64 0, .bool false, .string ⟨#[]⟩, .int .i64 0, .int .i64 0, .slice none 0 0, .slice none 0 0, .string ⟨#[]⟩, .int .i64 0, .int .i64 0, .bool false, .string ⟨#[]⟩, .slice none 0 0, .slice none 0 0, .slice none 0 0, .slice none 0 0, .int .i64 0, .int .i64 0, .int .i64 0, .int .i64 0, .int .i64 0, .int .i64 0, .int .i64 0, .int .i64 0, .string ⟨#[]⟩, .int .i64 0] 44)) w1.heap.size 0 _ from (show Blk (w1.alloc (.cells #[.int .i64 0, .string ⟨#[]⟩, .string ⟨#[]⟩, .int .i64 0, .bool false, .string ⟨#[]⟩, .int .i64 0, .int .i64 0, .slice none 0 0, .slice none 0 0, .string ⟨#[]⟩, .int .i64 0, .int .i64 0, .bool false, .string ⟨#[]⟩, .slice none 0 0, .slice none 0 0, .slice none 0 0, .slice none 0 0, .int .i64 0, .int .i64 0, .int .i64 0, .int .i64 0, .int .i64 0, .int .i64 0, .int .i64 0, .int .i64 0, .string ⟨#[]⟩, .int .i64 0] 44)) w1.heap.size zE 44 from blk_new w1 zE 44).there (by rw [List.size_toArray, HL'.out]; decide)) (size44a HL'.out) (all_arr HO'.out) ?_; intro w3 e3; have B3 := Lib.hid (show Below w.heap.size w w3 by rw [e3]; exact below_setRow (B1.out.alloc B1.out.size _) B1.out.size _ _); have X3 := Lib.hid (show Blk w3 w.heap.size cs 44 by rw [e3]; exact (X1.out.alloc _).otherAll _ _ _ (Nat.ne_of_lt X1.out.lt)); have X7 := Lib.hid (show Blk w3 w1.heap.size cs' 44 by rw [e3]; exact (show Blk (w1.alloc (.cells #[.int .i64 0, .string ⟨#[]⟩, .string ⟨#[]⟩, .int .i64 0, .bool false, .string ⟨#[]⟩, .int .i64 0, .int .i64 0, .slice none 0 0, .slice none 0 0, .string ⟨#[]⟩, .int .i64 0, .int .i64 0, .bool false, .string ⟨#[]⟩, .slice none 0 0, .slice none 0 0, .slice none 0 0, .slice none 0 0, .int .i64 0, .int .i64 0, .int .i64 0, .int .i64 0, .int .i64 0, .int .i64 0, .int .i64 0, .int .i64 0, .string ⟨#[]⟩, .int .i64 0] 44)) w1.heap.size zE 44 from blk_new w1 zE 44).setAll cs' HL'.out); clear e3; have k9 := X3.out.cell (i := 9) HF.out.c9; have q0 := HAt.out _ B3.out; have q3 := X7.out.cell (i := 3) (by rw [HQ'.out i' rfl]; exact HFi.out.c3))
            | go_in)
          go_ret2
          exact ⟨ret_ib (by rw [HF2.out]; rfl) (by rw [HF2.out]; rfl), B3.out⟩
    · have hltz : ¬ (kk : Int) < (nA : Int) := by omega
      obtain rfl : kk = nA := by omega
      have HF2 := Lib.hid (HP.out.trans (find_nil (q := powq E n) (fun i hi => HJ.out i (by rw [HL.out] at hi; exact hi))))
      go_wp2
      go_ret2
      exact ⟨ret_ib (by rw [HF2.out]; rfl) (by rw [HF2.out]; rfl), BW.out⟩
end Go.Proofs.Ytoljlpddcpdoiaa
