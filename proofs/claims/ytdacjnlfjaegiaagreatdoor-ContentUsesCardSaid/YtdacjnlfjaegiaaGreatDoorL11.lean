/- ContentUses: its walk. No condition. -/
import Derived.Test.YtdacjnlfjaegiaaGreatDoorK40
import Derived.Test.YtdacjnlfjaegiaaGreatDoorK37
namespace Go.Proofs.YtdacjnlfjaegiaaGreatDoor
open Go Go.RowKit
set_option linter.unusedVariables false
set_option linter.unusedSimpArgs false
set_option maxRecDepth 100000

theorem sx0 : (⟨#[120]⟩ : ByteArray).size ≤ 9223372036854775807 := by decide
theorem sx4 : (⟨#[64, 97, 58, 98]⟩ : ByteArray).size ≤ 9223372036854775807 := by decide
theorem on1 : i64B 1 := by unfold i64B; decide
abbrev z16 : List Value := [.string ⟨#[]⟩, .int .i64 0, .int .i64 0, .bool false, .string ⟨#[]⟩, .slice none 0 0, .slice none 0 0, .slice none 0 0, .slice none 0 0, .int .i64 0, .int .i64 0, .int .i64 0, .int .i64 0, .int .i64 0, .int .i64 0, .int .i64 0]
abbrev oq0 : Oper := ({ dst := some 23, op := Op.load 29 (Operand.tmp 3), type := 29, pos := "law.go:138", after := #[], guard := none } : Oper)
abbrev oq1 : Oper := ({ dst := some 24, op := Op.load 29 (Operand.tmp 3), type := 29, pos := "law.go:138", after := #[{ on := 8, ground := Ground.gcOnly Departure.lateStores }], guard := none } : Oper)
abbrev oq2 : Oper := ({ dst := some 25, op := Op.load 29 (Operand.tmp 3), type := 29, pos := "law.go:138", after := #[{ on := 9, ground := Ground.gcOnly Departure.lateStores }], guard := none } : Oper)
abbrev oq3 : Oper := ({ dst := some 26, op := Op.load 29 (Operand.tmp 3), type := 29, pos := "law.go:138", after := #[{ on := 10, ground := Ground.gcOnly Departure.lateStores }], guard := none } : Oper)
abbrev oq4 : Oper := ({ dst := some 5, op := Op.alloc 29, type := 0, pos := "law.go:138", after := #[], guard := none } : Oper)
abbrev oq5 : Oper := ({ dst := some 6, op := Op.alloc 29, type := 0, pos := "law.go:138", after := #[], guard := none } : Oper)
abbrev oq6 : Oper := ({ dst := some 7, op := Op.alloc 29, type := 0, pos := "law.go:138", after := #[], guard := none } : Oper)
abbrev oq7 : Oper := ({ dst := some 8, op := Op.alloc 29, type := 0, pos := "law.go:138", after := #[], guard := none } : Oper)
abbrev oq8 : Oper := ({ dst := none, op := Op.store 29 (Operand.tmp 5) (Operand.tmp 23), type := 0, pos := "law.go:138", after := #[{ on := 4, ground := Ground.data }, { on := 0, ground := Ground.data }, { on := 0, ground := Ground.phase }, { on := 1, ground := Ground.textOnly Departure.lateStores }, { on := 2, ground := Ground.textOnly Departure.lateStores }, { on := 3, ground := Ground.textOnly Departure.lateStores }, { on := 4, ground := Ground.phase }, { on := 5, ground := Ground.phase }, { on := 6, ground := Ground.phase }, { on := 7, ground := Ground.phase }], guard := none } : Oper)
abbrev oq9 : Oper := ({ dst := none, op := Op.store 29 (Operand.tmp 6) (Operand.tmp 24), type := 0, pos := "law.go:138", after := #[{ on := 5, ground := Ground.data }, { on := 1, ground := Ground.data }, { on := 8, ground := Ground.chain }, { on := 0, ground := Ground.phase }, { on := 1, ground := Ground.phase }, { on := 2, ground := Ground.textOnly Departure.lateStores }, { on := 3, ground := Ground.textOnly Departure.lateStores }, { on := 4, ground := Ground.phase }, { on := 5, ground := Ground.phase }, { on := 6, ground := Ground.phase }, { on := 7, ground := Ground.phase }, { on := 8, ground := Ground.phase }], guard := none } : Oper)
abbrev oq10 : Oper := ({ dst := none, op := Op.store 29 (Operand.tmp 7) (Operand.tmp 25), type := 0, pos := "law.go:138", after := #[{ on := 6, ground := Ground.data }, { on := 2, ground := Ground.data }, { on := 9, ground := Ground.chain }, { on := 0, ground := Ground.phase }, { on := 1, ground := Ground.phase }, { on := 2, ground := Ground.phase }, { on := 3, ground := Ground.textOnly Departure.lateStores }, { on := 4, ground := Ground.phase }, { on := 5, ground := Ground.phase }, { on := 6, ground := Ground.phase }, { on := 7, ground := Ground.phase }, { on := 8, ground := Ground.phase }, { on := 9, ground := Ground.phase }], guard := none } : Oper)
abbrev oq11 : Oper := ({ dst := none, op := Op.store 29 (Operand.tmp 8) (Operand.tmp 26), type := 0, pos := "law.go:138", after := #[{ on := 7, ground := Ground.data }, { on := 3, ground := Ground.data }, { on := 10, ground := Ground.chain }, { on := 0, ground := Ground.phase }, { on := 1, ground := Ground.phase }, { on := 2, ground := Ground.phase }, { on := 3, ground := Ground.phase }, { on := 4, ground := Ground.phase }, { on := 5, ground := Ground.phase }, { on := 6, ground := Ground.phase }, { on := 7, ground := Ground.phase }, { on := 8, ground := Ground.phase }, { on := 9, ground := Ground.phase }, { on := 10, ground := Ground.phase }], guard := none } : Oper)
abbrev oq12 : Oper := ({ dst := some 31, op := Op.load 29 (Operand.tmp 3), type := 29, pos := "law.go:140", after := #[], guard := none } : Oper)
abbrev oq13 : Oper := ({ dst := some 32, op := Op.load 29 (Operand.tmp 3), type := 29, pos := "law.go:140", after := #[{ on := 8, ground := Ground.gcOnly Departure.lateStores }], guard := none } : Oper)
abbrev oq14 : Oper := ({ dst := some 33, op := Op.load 29 (Operand.tmp 3), type := 29, pos := "law.go:140", after := #[{ on := 9, ground := Ground.gcOnly Departure.lateStores }], guard := none } : Oper)
abbrev oq15 : Oper := ({ dst := some 34, op := Op.load 29 (Operand.tmp 3), type := 29, pos := "law.go:140", after := #[{ on := 10, ground := Ground.gcOnly Departure.lateStores }], guard := none } : Oper)
abbrev oq16 : Oper := ({ dst := some 9, op := Op.alloc 29, type := 0, pos := "law.go:140", after := #[], guard := none } : Oper)
abbrev oq17 : Oper := ({ dst := some 10, op := Op.alloc 29, type := 0, pos := "law.go:140", after := #[], guard := none } : Oper)
abbrev oq18 : Oper := ({ dst := some 11, op := Op.alloc 29, type := 0, pos := "law.go:140", after := #[], guard := none } : Oper)
abbrev oq19 : Oper := ({ dst := some 12, op := Op.alloc 29, type := 0, pos := "law.go:140", after := #[], guard := none } : Oper)
abbrev oq20 : Oper := ({ dst := none, op := Op.store 29 (Operand.tmp 9) (Operand.tmp 31), type := 0, pos := "law.go:140", after := #[{ on := 4, ground := Ground.data }, { on := 0, ground := Ground.data }, { on := 0, ground := Ground.phase }, { on := 1, ground := Ground.textOnly Departure.lateStores }, { on := 2, ground := Ground.textOnly Departure.lateStores }, { on := 3, ground := Ground.textOnly Departure.lateStores }, { on := 4, ground := Ground.phase }, { on := 5, ground := Ground.phase }, { on := 6, ground := Ground.phase }, { on := 7, ground := Ground.phase }], guard := none } : Oper)
abbrev oq21 : Oper := ({ dst := none, op := Op.store 29 (Operand.tmp 10) (Operand.tmp 32), type := 0, pos := "law.go:140", after := #[{ on := 5, ground := Ground.data }, { on := 1, ground := Ground.data }, { on := 8, ground := Ground.chain }, { on := 0, ground := Ground.phase }, { on := 1, ground := Ground.phase }, { on := 2, ground := Ground.textOnly Departure.lateStores }, { on := 3, ground := Ground.textOnly Departure.lateStores }, { on := 4, ground := Ground.phase }, { on := 5, ground := Ground.phase }, { on := 6, ground := Ground.phase }, { on := 7, ground := Ground.phase }, { on := 8, ground := Ground.phase }], guard := none } : Oper)
abbrev oq22 : Oper := ({ dst := none, op := Op.store 29 (Operand.tmp 11) (Operand.tmp 33), type := 0, pos := "law.go:140", after := #[{ on := 6, ground := Ground.data }, { on := 2, ground := Ground.data }, { on := 9, ground := Ground.chain }, { on := 0, ground := Ground.phase }, { on := 1, ground := Ground.phase }, { on := 2, ground := Ground.phase }, { on := 3, ground := Ground.textOnly Departure.lateStores }, { on := 4, ground := Ground.phase }, { on := 5, ground := Ground.phase }, { on := 6, ground := Ground.phase }, { on := 7, ground := Ground.phase }, { on := 8, ground := Ground.phase }, { on := 9, ground := Ground.phase }], guard := none } : Oper)
abbrev oq23 : Oper := ({ dst := none, op := Op.store 29 (Operand.tmp 12) (Operand.tmp 34), type := 0, pos := "law.go:140", after := #[{ on := 7, ground := Ground.data }, { on := 3, ground := Ground.data }, { on := 10, ground := Ground.chain }, { on := 0, ground := Ground.phase }, { on := 1, ground := Ground.phase }, { on := 2, ground := Ground.phase }, { on := 3, ground := Ground.phase }, { on := 4, ground := Ground.phase }, { on := 5, ground := Ground.phase }, { on := 6, ground := Ground.phase }, { on := 7, ground := Ground.phase }, { on := 8, ground := Ground.phase }, { on := 9, ground := Ground.phase }, { on := 10, ground := Ground.phase }], guard := none } : Oper)
theorem j0 : 0 < 16 := by decide
theorem j1 : 1 < 16 := by decide
theorem j2 : 2 < 16 := by decide
theorem j3 : 3 < 16 := by decide
theorem j4 : 4 < 16 := by decide
theorem j5 : 5 < 16 := by decide
theorem j6 : 6 < 16 := by decide
theorem j13 : 13 < 16 := by decide
set_option maxHeartbeats 64000000 in
theorem uses_walk (k : Int) (C : Cn) (a : Ads) (w : World) (h : IsC w C a) (hl : Lt w) : Calls Tryz.prog 11 #[.int .i64 k, .agg (ccs C a).toArray] w fun e w' => e = .returned (.bool true) ∧ Below w.heap.size w w' := by
  obtain ⟨tx, n, tg, th, via, al, dn, us, ks, d, x3, x4, x5, x6, x7, x8⟩ := C
  obtain ⟨aA, aC, dA, dC, uA, uC, kA, kC⟩ := a
  have BA := Lib.hid ((Below.refl w.heap.size w).alloc (Nat.le_refl _) (.cells #[.string tx, .int .i64 n, .int .i64 tg, .bool th, .string via, .slice aA al.length aC, .slice dA dn.length dC, .slice uA us.length uC, .slice kA ks.length kC, .int .i64 d, .int .i64 x3, .int .i64 x4, .int .i64 x5, .int .i64 x6, .int .i64 x7, .int .i64 x8] 29))
  have XA := Lib.hid (blk_new w [.string tx, .int .i64 n, .int .i64 tg, .bool th, .string via, .slice aA al.length aC, .slice dA dn.length dC, .slice uA us.length uC, .slice kA ks.length kC, .int .i64 d, .int .i64 x3, .int .i64 x4, .int .i64 x5, .int .i64 x6, .int .i64 x7, .int .i64 x8] 29)
  have HF := Lib.hid (small13 _ _ _ (h.below BA.out))
  have HH := Lib.hid h
  have HL := Lib.hid hl
  clear h hl
  dsimp only [ccs] at HF
  show Calls Tryz.prog 11 #[.int .i64 k, .agg #[.string tx, .int .i64 n, .int .i64 tg, .bool th, .string via, .slice aA al.length aC, .slice dA dn.length dC, .slice uA us.length uC, .slice kA ks.length kC, .int .i64 d, .int .i64 x3, .int .i64 x4, .int .i64 x5, .int .i64 x6, .int .i64 x7, .int .i64 x8]] w _
  have HC := Lib.hid (fun y (hb : Below w.heap.size w y) => check14 k _ _ y (HH.out.below hb) (HL.out.below hb))
  have HP := Lib.hid (fun (q : pchk k ⟨tx, n, tg, th, via, al, dn, us, ks, d, x3, x4, x5, x6, x7, x8⟩ = 0) => (pchk_zero q).1)
  dsimp only [ccs] at HC
  generalize hpc : pchk k ⟨tx, n, tg, th, via, al, dn, us, ks, d, x3, x4, x5, x6, x7, x8⟩ = pc at HC HP
  clear hpc
  by_cases e1 : pc = 0
  · subst e1
    have HK := Lib.hid (HP.out rfl)
    clear HP
    have n1 : ((0 : Int) != 0) = false := rfl
    go_enter Tryz.func11, Tryz.ntmps11
    go_upto_region 3 with (first
      | (refine wpList_load_mid rfl 29 _ rfl w.heap.size 0 rfl [.string tx, .int .i64 n, .int .i64 tg, .bool th, .string via, .slice aA al.length aC, .slice dA dn.length dC, .slice uA us.length uC, .slice kA ks.length kC, .int .i64 d, .int .i64 x3, .int .i64 x4, .int .i64 x5, .int .i64 x6, .int .i64 x7, .int .i64 x8] _ XA.out.range Tryz.underlying29 rfl size29 ?_)
      | (go_at_call 13; (with_reducible refine HF.out.mono ?_); rintro e w1 ⟨q, rfl, hq, hb⟩; have B1 := Lib.hid (BA.out.trans (hb.mono BA.out.size)); have X1 := Lib.hid (XA.out.below hb); have Q1 := Lib.hid hq; clear hq hb; cases q)
      | (refine load_mid_g (by rfl) 29 _ rfl w.heap.size 0 rfl [.string tx, .int .i64 n, .int .i64 tg, .bool th, .string via, .slice aA al.length aC, .slice dA dn.length dC, .slice uA us.length uC, .slice kA ks.length kC, .int .i64 d, .int .i64 x3, .int .i64 x4, .int .i64 x5, .int .i64 x6, .int .i64 x7, .int .i64 x8] _ X1.out.range Tryz.underlying29 rfl size29 ?_)
      | (go_at_call 14; (with_reducible refine (HC.out _ B1.out).mono ?_); rintro e w2 ⟨rfl, hb⟩; have B2 := Lib.hid (B1.out.trans (hb.mono B1.out.size)); have X2 := Lib.hid (X1.out.below hb); clear hb)
      | (go_at_call 16; (with_reducible refine (live16 _ (HL.out.below B1.out)).mono ?_); rintro e w9 ⟨rfl, hb⟩; have B9 := Lib.hid (B1.out.trans (hb.mono B1.out.size)); clear hb)
      | fail)
    · go_ret
      exact ⟨rfl, B9.out⟩
    · skip
      clear HF XA BA Q1 HC
      go_cut [5, 6, 7, 8] from 23 to 26 (fun s5 s6 s7 s8 wx => ∃ b5 b6 b7 b8 : Nat, s5 = .pointer (some ⟨b5, 0, none⟩) ∧ s6 = .pointer (some ⟨b6, 0, none⟩) ∧ s7 = .pointer (some ⟨b7, 0, none⟩) ∧ s8 = .pointer (some ⟨b8, 0, none⟩) ∧ Hid (F4 w2 wx [.string tx, .int .i64 n, .int .i64 tg, .bool th, .string via, .slice aA al.length aC, .slice dA dn.length dC, .slice uA us.length uC, .slice kA ks.length kC, .int .i64 d, .int .i64 x3, .int .i64 x4, .int .i64 x5, .int .i64 x6, .int .i64 x7, .int .i64 x8] b5 b6 b7 b8))
      case first =>
        refine wp_region_held_drew (S := (fun y => Below w2.heap.size w2 y)) (by kernel_rfl) ((Below.refl w2.heap.size w2).drew) (fun hH0 => ?_)
        generalize hy0 : World.drew _ = y0 at hH0 ⊢
        have S0 := Lib.hid (S4.nil (w := w2) hH0)
        clear hy0
        refine wpAnyH_take (i := 0) (oi := oq0) (v := .agg #[.string tx, .int .i64 n, .int .i64 tg, .bool th, .string via, .slice aA al.length aC, .slice dA dn.length dC, .slice uA us.length uC, .slice kA ks.length kC, .int .i64 d, .int .i64 x3, .int .i64 x4, .int .i64 x5, .int .i64 x6, .int .i64 x7, .int .i64 x8]) rfl (by kernel_rfl) (by kernel_rfl) (by kernel_rfl) (fun _ _ _ h => h) (yieldsIf_load_mid (by rfl) 29 _ rfl w.heap.size 0 rfl [.string tx, .int .i64 n, .int .i64 tg, .bool th, .string via, .slice aA al.length aC, .slice dA dn.length dC, .slice uA us.length uC, .slice kA ks.length kC, .int .i64 d, .int .i64 x3, .int .i64 x4, .int .i64 x5, .int .i64 x6, .int .i64 x7, .int .i64 x8] _ (fun w0 hw0 => (X2.out.below hw0).range) Tryz.underlying29 rfl size29) (by assumption) ?_
        try simp only [Act.put, List.setIfInBounds_toArray, List.set_cons_zero, List.set_cons_succ]
        refine wpAnyH_take (i := 1) (oi := oq1) (v := .agg #[.string tx, .int .i64 n, .int .i64 tg, .bool th, .string via, .slice aA al.length aC, .slice dA dn.length dC, .slice uA us.length uC, .slice kA ks.length kC, .int .i64 d, .int .i64 x3, .int .i64 x4, .int .i64 x5, .int .i64 x6, .int .i64 x7, .int .i64 x8]) rfl (by kernel_rfl) (by kernel_rfl) (by kernel_rfl) (fun _ _ _ h => h) (yieldsIf_load_mid (by rfl) 29 _ rfl w.heap.size 0 rfl [.string tx, .int .i64 n, .int .i64 tg, .bool th, .string via, .slice aA al.length aC, .slice dA dn.length dC, .slice uA us.length uC, .slice kA ks.length kC, .int .i64 d, .int .i64 x3, .int .i64 x4, .int .i64 x5, .int .i64 x6, .int .i64 x7, .int .i64 x8] _ (fun w0 hw0 => (X2.out.below hw0).range) Tryz.underlying29 rfl size29) (by assumption) ?_
        try simp only [Act.put, List.setIfInBounds_toArray, List.set_cons_zero, List.set_cons_succ]
        refine wpAnyH_take (i := 2) (oi := oq2) (v := .agg #[.string tx, .int .i64 n, .int .i64 tg, .bool th, .string via, .slice aA al.length aC, .slice dA dn.length dC, .slice uA us.length uC, .slice kA ks.length kC, .int .i64 d, .int .i64 x3, .int .i64 x4, .int .i64 x5, .int .i64 x6, .int .i64 x7, .int .i64 x8]) rfl (by kernel_rfl) (by kernel_rfl) (by kernel_rfl) (fun _ _ _ h => h) (yieldsIf_load_mid (by rfl) 29 _ rfl w.heap.size 0 rfl [.string tx, .int .i64 n, .int .i64 tg, .bool th, .string via, .slice aA al.length aC, .slice dA dn.length dC, .slice uA us.length uC, .slice kA ks.length kC, .int .i64 d, .int .i64 x3, .int .i64 x4, .int .i64 x5, .int .i64 x6, .int .i64 x7, .int .i64 x8] _ (fun w0 hw0 => (X2.out.below hw0).range) Tryz.underlying29 rfl size29) (by assumption) ?_
        try simp only [Act.put, List.setIfInBounds_toArray, List.set_cons_zero, List.set_cons_succ]
        refine wpAnyH_take (i := 3) (oi := oq3) (v := .agg #[.string tx, .int .i64 n, .int .i64 tg, .bool th, .string via, .slice aA al.length aC, .slice dA dn.length dC, .slice uA us.length uC, .slice kA ks.length kC, .int .i64 d, .int .i64 x3, .int .i64 x4, .int .i64 x5, .int .i64 x6, .int .i64 x7, .int .i64 x8]) rfl (by kernel_rfl) (by kernel_rfl) (by kernel_rfl) (fun _ _ _ h => h) (yieldsIf_load_mid (by rfl) 29 _ rfl w.heap.size 0 rfl [.string tx, .int .i64 n, .int .i64 tg, .bool th, .string via, .slice aA al.length aC, .slice dA dn.length dC, .slice uA us.length uC, .slice kA ks.length kC, .int .i64 d, .int .i64 x3, .int .i64 x4, .int .i64 x5, .int .i64 x6, .int .i64 x7, .int .i64 x8] _ (fun w0 hw0 => (X2.out.below hw0).range) Tryz.underlying29 rfl size29) (by assumption) ?_
        try simp only [Act.put, List.setIfInBounds_toArray, List.set_cons_zero, List.set_cons_succ]
        refine wpAnyH_ready (rs := [4, 5, 6, 7]) (by kernel_rfl) (by simp) ?_
        refine AllReadyH.cons (o := oq4) rfl (fun KK hKK => ?_) ?_
        · refine step_alloc_new rfl 29 rfl z16 alloc29 ?_
          intro b5 y1 hx hb ht
          have S1 := Lib.hid (S0.out.ins [] [] hx hb ht)
          clear hx hb ht S0
          refine hKK.out _ _ (S1.out.bel) (fun hH1 => ?_)
          clear hKK KK
          try simp only [Act.put, List.setIfInBounds_toArray, List.set_cons_zero, List.set_cons_succ]
          refine wpAnyH_ready (rs := [5, 6, 7]) (by kernel_rfl) (by simp) ?_
          refine AllReadyH.cons (o := oq5) rfl (fun KK hKK => ?_) ?_
          · refine step_alloc_new rfl 29 rfl z16 alloc29 ?_
            intro b6 y2 hx hb ht
            have S2 := Lib.hid (S1.out.ins [b5] [] hx hb ht)
            clear hx hb ht S1
            refine hKK.out _ _ (S2.out.bel) (fun hH2 => ?_)
            clear hKK KK
            try simp only [Act.put, List.setIfInBounds_toArray, List.set_cons_zero, List.set_cons_succ]
            refine wpAnyH_ready (rs := [6, 7]) (by kernel_rfl) (by simp) ?_
            refine AllReadyH.cons (o := oq6) rfl (fun KK hKK => ?_) ?_
            · refine step_alloc_new rfl 29 rfl z16 alloc29 ?_
              intro b7 y3 hx hb ht
              have S3 := Lib.hid (S2.out.ins [b5, b6] [] hx hb ht)
              clear hx hb ht S2
              refine hKK.out _ _ (S3.out.bel) (fun hH3 => ?_)
              clear hKK KK
              try simp only [Act.put, List.setIfInBounds_toArray, List.set_cons_zero, List.set_cons_succ]
              refine wpAnyH_ready (rs := [7]) (by kernel_rfl) (by simp) ?_
              refine AllReadyH.cons (o := oq7) rfl (fun KK hKK => ?_) AllReadyH.nil
              refine step_alloc_new rfl 29 rfl z16 alloc29 ?_
              intro b8 y4 hx hb ht
              have S4 := Lib.hid (S3.out.ins [b5, b6, b7] [] hx hb ht)
              clear hx hb ht S3
              refine hKK.out _ _ (S4.out.bel) (fun hH4 => ?_)
              clear hKK KK
              try simp only [Act.put, List.setIfInBounds_toArray, List.set_cons_zero, List.set_cons_succ]
              refine wpAnyH_ready (rs := [8]) (by kernel_rfl) (by simp) ?_
              refine AllReadyH.cons (o := oq8) rfl (fun KK hKK => ?_) AllReadyH.nil
              have G4 := Lib.hid S4.out.g4
              refine step_store_blk rfl 29 _ _ rfl b5 z16 29 _ rfl rfl G4.out.xa rfl size29 (by simp [Value.oneCell']) ?_
              intro y5 hb hp
              have G5 := Lib.hid (G4.out.sa hb hp)
              clear hb hp G4
              refine hKK.out _ _ (G5.out.bel) (fun hH5 => ?_)
              clear hKK KK
              try simp only [Act.put, List.setIfInBounds_toArray, List.set_cons_zero, List.set_cons_succ]
              refine wpAnyH_ready (rs := [9]) (by kernel_rfl) (by simp) ?_
              refine AllReadyH.cons (o := oq9) rfl (fun KK hKK => ?_) AllReadyH.nil
              refine step_store_blk rfl 29 _ _ rfl b6 z16 29 _ rfl rfl G5.out.xb rfl size29 (by simp [Value.oneCell']) ?_
              intro y6 hb hp
              have G6 := Lib.hid (G5.out.sb hb hp)
              clear hb hp G5
              refine hKK.out _ _ (G6.out.bel) (fun hH6 => ?_)
              clear hKK KK
              try simp only [Act.put, List.setIfInBounds_toArray, List.set_cons_zero, List.set_cons_succ]
              refine wpAnyH_ready (rs := [10]) (by kernel_rfl) (by simp) ?_
              refine AllReadyH.cons (o := oq10) rfl (fun KK hKK => ?_) AllReadyH.nil
              refine step_store_blk rfl 29 _ _ rfl b7 z16 29 _ rfl rfl G6.out.xc rfl size29 (by simp [Value.oneCell']) ?_
              intro y7 hb hp
              have G7 := Lib.hid (G6.out.sc hb hp)
              clear hb hp G6
              refine hKK.out _ _ (G7.out.bel) (fun hH7 => ?_)
              clear hKK KK
              try simp only [Act.put, List.setIfInBounds_toArray, List.set_cons_zero, List.set_cons_succ]
              refine wpAnyH_ready (rs := [11]) (by kernel_rfl) (by simp) ?_
              refine AllReadyH.cons (o := oq11) rfl (fun KK hKK => ?_) AllReadyH.nil
              refine step_store_blk rfl 29 _ _ rfl b8 z16 29 _ rfl rfl G7.out.xd rfl size29 (by simp [Value.oneCell']) ?_
              intro y8 hb hp
              have G8 := Lib.hid (G7.out.sd hb hp)
              clear hb hp G7
              refine hKK.out _ _ (G8.out.bel) (fun hH8 => ?_)
              clear hKK KK
              try simp only [Act.put, List.setIfInBounds_toArray, List.set_cons_zero, List.set_cons_succ]
              refine wpAnyH_done (by kernel_rfl) ?_ _
              go_wp2_with (fail)
              go_meet
              exact ⟨_, _, _, _, rfl, rfl, rfl, rfl, Lib.hid G8.out.f4⟩
            refine AllReadyH.cons (o := oq7) rfl (fun KK hKK => ?_) AllReadyH.nil
            refine step_alloc_new rfl 29 rfl z16 alloc29 ?_
            intro b8 y3 hx hb ht
            have S3 := Lib.hid (S2.out.ins [b5, b6] [] hx hb ht)
            clear hx hb ht S2
            refine hKK.out _ _ (S3.out.bel) (fun hH3 => ?_)
            clear hKK KK
            try simp only [Act.put, List.setIfInBounds_toArray, List.set_cons_zero, List.set_cons_succ]
            refine wpAnyH_ready (rs := [6]) (by kernel_rfl) (by simp) ?_
            refine AllReadyH.cons (o := oq6) rfl (fun KK hKK => ?_) AllReadyH.nil
            refine step_alloc_new rfl 29 rfl z16 alloc29 ?_
            intro b7 y4 hx hb ht
            have S4 := Lib.hid (S3.out.ins [b5, b6] [b8] hx hb ht)
            clear hx hb ht S3
            refine hKK.out _ _ (S4.out.bel) (fun hH4 => ?_)
            clear hKK KK
            try simp only [Act.put, List.setIfInBounds_toArray, List.set_cons_zero, List.set_cons_succ]
            refine wpAnyH_ready (rs := [8]) (by kernel_rfl) (by simp) ?_
            refine AllReadyH.cons (o := oq8) rfl (fun KK hKK => ?_) AllReadyH.nil
            have G4 := Lib.hid S4.out.g4
            refine step_store_blk rfl 29 _ _ rfl b5 z16 29 _ rfl rfl G4.out.xa rfl size29 (by simp [Value.oneCell']) ?_
            intro y5 hb hp
            have G5 := Lib.hid (G4.out.sa hb hp)
            clear hb hp G4
            refine hKK.out _ _ (G5.out.bel) (fun hH5 => ?_)
            clear hKK KK
            try simp only [Act.put, List.setIfInBounds_toArray, List.set_cons_zero, List.set_cons_succ]
            refine wpAnyH_ready (rs := [9]) (by kernel_rfl) (by simp) ?_
            refine AllReadyH.cons (o := oq9) rfl (fun KK hKK => ?_) AllReadyH.nil
            refine step_store_blk rfl 29 _ _ rfl b6 z16 29 _ rfl rfl G5.out.xb rfl size29 (by simp [Value.oneCell']) ?_
            intro y6 hb hp
            have G6 := Lib.hid (G5.out.sb hb hp)
            clear hb hp G5
            refine hKK.out _ _ (G6.out.bel) (fun hH6 => ?_)
            clear hKK KK
            try simp only [Act.put, List.setIfInBounds_toArray, List.set_cons_zero, List.set_cons_succ]
            refine wpAnyH_ready (rs := [10]) (by kernel_rfl) (by simp) ?_
            refine AllReadyH.cons (o := oq10) rfl (fun KK hKK => ?_) AllReadyH.nil
            refine step_store_blk rfl 29 _ _ rfl b7 z16 29 _ rfl rfl G6.out.xc rfl size29 (by simp [Value.oneCell']) ?_
            intro y7 hb hp
            have G7 := Lib.hid (G6.out.sc hb hp)
            clear hb hp G6
            refine hKK.out _ _ (G7.out.bel) (fun hH7 => ?_)
            clear hKK KK
            try simp only [Act.put, List.setIfInBounds_toArray, List.set_cons_zero, List.set_cons_succ]
            refine wpAnyH_ready (rs := [11]) (by kernel_rfl) (by simp) ?_
            refine AllReadyH.cons (o := oq11) rfl (fun KK hKK => ?_) AllReadyH.nil
            refine step_store_blk rfl 29 _ _ rfl b8 z16 29 _ rfl rfl G7.out.xd rfl size29 (by simp [Value.oneCell']) ?_
            intro y8 hb hp
            have G8 := Lib.hid (G7.out.sd hb hp)
            clear hb hp G7
            refine hKK.out _ _ (G8.out.bel) (fun hH8 => ?_)
            clear hKK KK
            try simp only [Act.put, List.setIfInBounds_toArray, List.set_cons_zero, List.set_cons_succ]
            refine wpAnyH_done (by kernel_rfl) ?_ _
            go_wp2_with (fail)
            go_meet
            exact ⟨_, _, _, _, rfl, rfl, rfl, rfl, Lib.hid G8.out.f4⟩
          refine AllReadyH.cons (o := oq6) rfl (fun KK hKK => ?_) ?_
          · refine step_alloc_new rfl 29 rfl z16 alloc29 ?_
            intro b7 y2 hx hb ht
            have S2 := Lib.hid (S1.out.ins [b5] [] hx hb ht)
            clear hx hb ht S1
            refine hKK.out _ _ (S2.out.bel) (fun hH2 => ?_)
            clear hKK KK
            try simp only [Act.put, List.setIfInBounds_toArray, List.set_cons_zero, List.set_cons_succ]
            refine wpAnyH_ready (rs := [5, 7]) (by kernel_rfl) (by simp) ?_
            refine AllReadyH.cons (o := oq5) rfl (fun KK hKK => ?_) ?_
            · refine step_alloc_new rfl 29 rfl z16 alloc29 ?_
              intro b6 y3 hx hb ht
              have S3 := Lib.hid (S2.out.ins [b5] [b7] hx hb ht)
              clear hx hb ht S2
              refine hKK.out _ _ (S3.out.bel) (fun hH3 => ?_)
              clear hKK KK
              try simp only [Act.put, List.setIfInBounds_toArray, List.set_cons_zero, List.set_cons_succ]
              refine wpAnyH_ready (rs := [7]) (by kernel_rfl) (by simp) ?_
              refine AllReadyH.cons (o := oq7) rfl (fun KK hKK => ?_) AllReadyH.nil
              refine step_alloc_new rfl 29 rfl z16 alloc29 ?_
              intro b8 y4 hx hb ht
              have S4 := Lib.hid (S3.out.ins [b5, b6, b7] [] hx hb ht)
              clear hx hb ht S3
              refine hKK.out _ _ (S4.out.bel) (fun hH4 => ?_)
              clear hKK KK
              try simp only [Act.put, List.setIfInBounds_toArray, List.set_cons_zero, List.set_cons_succ]
              refine wpAnyH_ready (rs := [8]) (by kernel_rfl) (by simp) ?_
              refine AllReadyH.cons (o := oq8) rfl (fun KK hKK => ?_) AllReadyH.nil
              have G4 := Lib.hid S4.out.g4
              refine step_store_blk rfl 29 _ _ rfl b5 z16 29 _ rfl rfl G4.out.xa rfl size29 (by simp [Value.oneCell']) ?_
              intro y5 hb hp
              have G5 := Lib.hid (G4.out.sa hb hp)
              clear hb hp G4
              refine hKK.out _ _ (G5.out.bel) (fun hH5 => ?_)
              clear hKK KK
              try simp only [Act.put, List.setIfInBounds_toArray, List.set_cons_zero, List.set_cons_succ]
              refine wpAnyH_ready (rs := [9]) (by kernel_rfl) (by simp) ?_
              refine AllReadyH.cons (o := oq9) rfl (fun KK hKK => ?_) AllReadyH.nil
              refine step_store_blk rfl 29 _ _ rfl b6 z16 29 _ rfl rfl G5.out.xb rfl size29 (by simp [Value.oneCell']) ?_
              intro y6 hb hp
              have G6 := Lib.hid (G5.out.sb hb hp)
              clear hb hp G5
              refine hKK.out _ _ (G6.out.bel) (fun hH6 => ?_)
              clear hKK KK
              try simp only [Act.put, List.setIfInBounds_toArray, List.set_cons_zero, List.set_cons_succ]
              refine wpAnyH_ready (rs := [10]) (by kernel_rfl) (by simp) ?_
              refine AllReadyH.cons (o := oq10) rfl (fun KK hKK => ?_) AllReadyH.nil
              refine step_store_blk rfl 29 _ _ rfl b7 z16 29 _ rfl rfl G6.out.xc rfl size29 (by simp [Value.oneCell']) ?_
              intro y7 hb hp
              have G7 := Lib.hid (G6.out.sc hb hp)
              clear hb hp G6
              refine hKK.out _ _ (G7.out.bel) (fun hH7 => ?_)
              clear hKK KK
              try simp only [Act.put, List.setIfInBounds_toArray, List.set_cons_zero, List.set_cons_succ]
              refine wpAnyH_ready (rs := [11]) (by kernel_rfl) (by simp) ?_
              refine AllReadyH.cons (o := oq11) rfl (fun KK hKK => ?_) AllReadyH.nil
              refine step_store_blk rfl 29 _ _ rfl b8 z16 29 _ rfl rfl G7.out.xd rfl size29 (by simp [Value.oneCell']) ?_
              intro y8 hb hp
              have G8 := Lib.hid (G7.out.sd hb hp)
              clear hb hp G7
              refine hKK.out _ _ (G8.out.bel) (fun hH8 => ?_)
              clear hKK KK
              try simp only [Act.put, List.setIfInBounds_toArray, List.set_cons_zero, List.set_cons_succ]
              refine wpAnyH_done (by kernel_rfl) ?_ _
              go_wp2_with (fail)
              go_meet
              exact ⟨_, _, _, _, rfl, rfl, rfl, rfl, Lib.hid G8.out.f4⟩
            refine AllReadyH.cons (o := oq7) rfl (fun KK hKK => ?_) AllReadyH.nil
            refine step_alloc_new rfl 29 rfl z16 alloc29 ?_
            intro b8 y3 hx hb ht
            have S3 := Lib.hid (S2.out.ins [b5, b7] [] hx hb ht)
            clear hx hb ht S2
            refine hKK.out _ _ (S3.out.bel) (fun hH3 => ?_)
            clear hKK KK
            try simp only [Act.put, List.setIfInBounds_toArray, List.set_cons_zero, List.set_cons_succ]
            refine wpAnyH_ready (rs := [5]) (by kernel_rfl) (by simp) ?_
            refine AllReadyH.cons (o := oq5) rfl (fun KK hKK => ?_) AllReadyH.nil
            refine step_alloc_new rfl 29 rfl z16 alloc29 ?_
            intro b6 y4 hx hb ht
            have S4 := Lib.hid (S3.out.ins [b5] [b7, b8] hx hb ht)
            clear hx hb ht S3
            refine hKK.out _ _ (S4.out.bel) (fun hH4 => ?_)
            clear hKK KK
            try simp only [Act.put, List.setIfInBounds_toArray, List.set_cons_zero, List.set_cons_succ]
            refine wpAnyH_ready (rs := [8]) (by kernel_rfl) (by simp) ?_
            refine AllReadyH.cons (o := oq8) rfl (fun KK hKK => ?_) AllReadyH.nil
            have G4 := Lib.hid S4.out.g4
            refine step_store_blk rfl 29 _ _ rfl b5 z16 29 _ rfl rfl G4.out.xa rfl size29 (by simp [Value.oneCell']) ?_
            intro y5 hb hp
            have G5 := Lib.hid (G4.out.sa hb hp)
            clear hb hp G4
            refine hKK.out _ _ (G5.out.bel) (fun hH5 => ?_)
            clear hKK KK
            try simp only [Act.put, List.setIfInBounds_toArray, List.set_cons_zero, List.set_cons_succ]
            refine wpAnyH_ready (rs := [9]) (by kernel_rfl) (by simp) ?_
            refine AllReadyH.cons (o := oq9) rfl (fun KK hKK => ?_) AllReadyH.nil
            refine step_store_blk rfl 29 _ _ rfl b6 z16 29 _ rfl rfl G5.out.xb rfl size29 (by simp [Value.oneCell']) ?_
            intro y6 hb hp
            have G6 := Lib.hid (G5.out.sb hb hp)
            clear hb hp G5
            refine hKK.out _ _ (G6.out.bel) (fun hH6 => ?_)
            clear hKK KK
            try simp only [Act.put, List.setIfInBounds_toArray, List.set_cons_zero, List.set_cons_succ]
            refine wpAnyH_ready (rs := [10]) (by kernel_rfl) (by simp) ?_
            refine AllReadyH.cons (o := oq10) rfl (fun KK hKK => ?_) AllReadyH.nil
            refine step_store_blk rfl 29 _ _ rfl b7 z16 29 _ rfl rfl G6.out.xc rfl size29 (by simp [Value.oneCell']) ?_
            intro y7 hb hp
            have G7 := Lib.hid (G6.out.sc hb hp)
            clear hb hp G6
            refine hKK.out _ _ (G7.out.bel) (fun hH7 => ?_)
            clear hKK KK
            try simp only [Act.put, List.setIfInBounds_toArray, List.set_cons_zero, List.set_cons_succ]
            refine wpAnyH_ready (rs := [11]) (by kernel_rfl) (by simp) ?_
            refine AllReadyH.cons (o := oq11) rfl (fun KK hKK => ?_) AllReadyH.nil
            refine step_store_blk rfl 29 _ _ rfl b8 z16 29 _ rfl rfl G7.out.xd rfl size29 (by simp [Value.oneCell']) ?_
            intro y8 hb hp
            have G8 := Lib.hid (G7.out.sd hb hp)
            clear hb hp G7
            refine hKK.out _ _ (G8.out.bel) (fun hH8 => ?_)
            clear hKK KK
            try simp only [Act.put, List.setIfInBounds_toArray, List.set_cons_zero, List.set_cons_succ]
            refine wpAnyH_done (by kernel_rfl) ?_ _
            go_wp2_with (fail)
            go_meet
            exact ⟨_, _, _, _, rfl, rfl, rfl, rfl, Lib.hid G8.out.f4⟩
          refine AllReadyH.cons (o := oq7) rfl (fun KK hKK => ?_) AllReadyH.nil
          refine step_alloc_new rfl 29 rfl z16 alloc29 ?_
          intro b8 y2 hx hb ht
          have S2 := Lib.hid (S1.out.ins [b5] [] hx hb ht)
          clear hx hb ht S1
          refine hKK.out _ _ (S2.out.bel) (fun hH2 => ?_)
          clear hKK KK
          try simp only [Act.put, List.setIfInBounds_toArray, List.set_cons_zero, List.set_cons_succ]
          refine wpAnyH_ready (rs := [5, 6]) (by kernel_rfl) (by simp) ?_
          refine AllReadyH.cons (o := oq5) rfl (fun KK hKK => ?_) ?_
          · refine step_alloc_new rfl 29 rfl z16 alloc29 ?_
            intro b6 y3 hx hb ht
            have S3 := Lib.hid (S2.out.ins [b5] [b8] hx hb ht)
            clear hx hb ht S2
            refine hKK.out _ _ (S3.out.bel) (fun hH3 => ?_)
            clear hKK KK
            try simp only [Act.put, List.setIfInBounds_toArray, List.set_cons_zero, List.set_cons_succ]
            refine wpAnyH_ready (rs := [6]) (by kernel_rfl) (by simp) ?_
            refine AllReadyH.cons (o := oq6) rfl (fun KK hKK => ?_) AllReadyH.nil
            refine step_alloc_new rfl 29 rfl z16 alloc29 ?_
            intro b7 y4 hx hb ht
            have S4 := Lib.hid (S3.out.ins [b5, b6] [b8] hx hb ht)
            clear hx hb ht S3
            refine hKK.out _ _ (S4.out.bel) (fun hH4 => ?_)
            clear hKK KK
            try simp only [Act.put, List.setIfInBounds_toArray, List.set_cons_zero, List.set_cons_succ]
            refine wpAnyH_ready (rs := [8]) (by kernel_rfl) (by simp) ?_
            refine AllReadyH.cons (o := oq8) rfl (fun KK hKK => ?_) AllReadyH.nil
            have G4 := Lib.hid S4.out.g4
            refine step_store_blk rfl 29 _ _ rfl b5 z16 29 _ rfl rfl G4.out.xa rfl size29 (by simp [Value.oneCell']) ?_
            intro y5 hb hp
            have G5 := Lib.hid (G4.out.sa hb hp)
            clear hb hp G4
            refine hKK.out _ _ (G5.out.bel) (fun hH5 => ?_)
            clear hKK KK
            try simp only [Act.put, List.setIfInBounds_toArray, List.set_cons_zero, List.set_cons_succ]
            refine wpAnyH_ready (rs := [9]) (by kernel_rfl) (by simp) ?_
            refine AllReadyH.cons (o := oq9) rfl (fun KK hKK => ?_) AllReadyH.nil
            refine step_store_blk rfl 29 _ _ rfl b6 z16 29 _ rfl rfl G5.out.xb rfl size29 (by simp [Value.oneCell']) ?_
            intro y6 hb hp
            have G6 := Lib.hid (G5.out.sb hb hp)
            clear hb hp G5
            refine hKK.out _ _ (G6.out.bel) (fun hH6 => ?_)
            clear hKK KK
            try simp only [Act.put, List.setIfInBounds_toArray, List.set_cons_zero, List.set_cons_succ]
            refine wpAnyH_ready (rs := [10]) (by kernel_rfl) (by simp) ?_
            refine AllReadyH.cons (o := oq10) rfl (fun KK hKK => ?_) AllReadyH.nil
            refine step_store_blk rfl 29 _ _ rfl b7 z16 29 _ rfl rfl G6.out.xc rfl size29 (by simp [Value.oneCell']) ?_
            intro y7 hb hp
            have G7 := Lib.hid (G6.out.sc hb hp)
            clear hb hp G6
            refine hKK.out _ _ (G7.out.bel) (fun hH7 => ?_)
            clear hKK KK
            try simp only [Act.put, List.setIfInBounds_toArray, List.set_cons_zero, List.set_cons_succ]
            refine wpAnyH_ready (rs := [11]) (by kernel_rfl) (by simp) ?_
            refine AllReadyH.cons (o := oq11) rfl (fun KK hKK => ?_) AllReadyH.nil
            refine step_store_blk rfl 29 _ _ rfl b8 z16 29 _ rfl rfl G7.out.xd rfl size29 (by simp [Value.oneCell']) ?_
            intro y8 hb hp
            have G8 := Lib.hid (G7.out.sd hb hp)
            clear hb hp G7
            refine hKK.out _ _ (G8.out.bel) (fun hH8 => ?_)
            clear hKK KK
            try simp only [Act.put, List.setIfInBounds_toArray, List.set_cons_zero, List.set_cons_succ]
            refine wpAnyH_done (by kernel_rfl) ?_ _
            go_wp2_with (fail)
            go_meet
            exact ⟨_, _, _, _, rfl, rfl, rfl, rfl, Lib.hid G8.out.f4⟩
          refine AllReadyH.cons (o := oq6) rfl (fun KK hKK => ?_) AllReadyH.nil
          refine step_alloc_new rfl 29 rfl z16 alloc29 ?_
          intro b7 y3 hx hb ht
          have S3 := Lib.hid (S2.out.ins [b5] [b8] hx hb ht)
          clear hx hb ht S2
          refine hKK.out _ _ (S3.out.bel) (fun hH3 => ?_)
          clear hKK KK
          try simp only [Act.put, List.setIfInBounds_toArray, List.set_cons_zero, List.set_cons_succ]
          refine wpAnyH_ready (rs := [5]) (by kernel_rfl) (by simp) ?_
          refine AllReadyH.cons (o := oq5) rfl (fun KK hKK => ?_) AllReadyH.nil
          refine step_alloc_new rfl 29 rfl z16 alloc29 ?_
          intro b6 y4 hx hb ht
          have S4 := Lib.hid (S3.out.ins [b5] [b7, b8] hx hb ht)
          clear hx hb ht S3
          refine hKK.out _ _ (S4.out.bel) (fun hH4 => ?_)
          clear hKK KK
          try simp only [Act.put, List.setIfInBounds_toArray, List.set_cons_zero, List.set_cons_succ]
          refine wpAnyH_ready (rs := [8]) (by kernel_rfl) (by simp) ?_
          refine AllReadyH.cons (o := oq8) rfl (fun KK hKK => ?_) AllReadyH.nil
          have G4 := Lib.hid S4.out.g4
          refine step_store_blk rfl 29 _ _ rfl b5 z16 29 _ rfl rfl G4.out.xa rfl size29 (by simp [Value.oneCell']) ?_
          intro y5 hb hp
          have G5 := Lib.hid (G4.out.sa hb hp)
          clear hb hp G4
          refine hKK.out _ _ (G5.out.bel) (fun hH5 => ?_)
          clear hKK KK
          try simp only [Act.put, List.setIfInBounds_toArray, List.set_cons_zero, List.set_cons_succ]
          refine wpAnyH_ready (rs := [9]) (by kernel_rfl) (by simp) ?_
          refine AllReadyH.cons (o := oq9) rfl (fun KK hKK => ?_) AllReadyH.nil
          refine step_store_blk rfl 29 _ _ rfl b6 z16 29 _ rfl rfl G5.out.xb rfl size29 (by simp [Value.oneCell']) ?_
          intro y6 hb hp
          have G6 := Lib.hid (G5.out.sb hb hp)
          clear hb hp G5
          refine hKK.out _ _ (G6.out.bel) (fun hH6 => ?_)
          clear hKK KK
          try simp only [Act.put, List.setIfInBounds_toArray, List.set_cons_zero, List.set_cons_succ]
          refine wpAnyH_ready (rs := [10]) (by kernel_rfl) (by simp) ?_
          refine AllReadyH.cons (o := oq10) rfl (fun KK hKK => ?_) AllReadyH.nil
          refine step_store_blk rfl 29 _ _ rfl b7 z16 29 _ rfl rfl G6.out.xc rfl size29 (by simp [Value.oneCell']) ?_
          intro y7 hb hp
          have G7 := Lib.hid (G6.out.sc hb hp)
          clear hb hp G6
          refine hKK.out _ _ (G7.out.bel) (fun hH7 => ?_)
          clear hKK KK
          try simp only [Act.put, List.setIfInBounds_toArray, List.set_cons_zero, List.set_cons_succ]
          refine wpAnyH_ready (rs := [11]) (by kernel_rfl) (by simp) ?_
          refine AllReadyH.cons (o := oq11) rfl (fun KK hKK => ?_) AllReadyH.nil
          refine step_store_blk rfl 29 _ _ rfl b8 z16 29 _ rfl rfl G7.out.xd rfl size29 (by simp [Value.oneCell']) ?_
          intro y8 hb hp
          have G8 := Lib.hid (G7.out.sd hb hp)
          clear hb hp G7
          refine hKK.out _ _ (G8.out.bel) (fun hH8 => ?_)
          clear hKK KK
          try simp only [Act.put, List.setIfInBounds_toArray, List.set_cons_zero, List.set_cons_succ]
          refine wpAnyH_done (by kernel_rfl) ?_ _
          go_wp2_with (fail)
          go_meet
          exact ⟨_, _, _, _, rfl, rfl, rfl, rfl, Lib.hid G8.out.f4⟩
        refine AllReadyH.cons (o := oq5) rfl (fun KK hKK => ?_) ?_
        · refine step_alloc_new rfl 29 rfl z16 alloc29 ?_
          intro b6 y1 hx hb ht
          have S1 := Lib.hid (S0.out.ins [] [] hx hb ht)
          clear hx hb ht S0
          refine hKK.out _ _ (S1.out.bel) (fun hH1 => ?_)
          clear hKK KK
          try simp only [Act.put, List.setIfInBounds_toArray, List.set_cons_zero, List.set_cons_succ]
          refine wpAnyH_ready (rs := [4, 6, 7]) (by kernel_rfl) (by simp) ?_
          refine AllReadyH.cons (o := oq4) rfl (fun KK hKK => ?_) ?_
          · refine step_alloc_new rfl 29 rfl z16 alloc29 ?_
            intro b5 y2 hx hb ht
            have S2 := Lib.hid (S1.out.ins [] [b6] hx hb ht)
            clear hx hb ht S1
            refine hKK.out _ _ (S2.out.bel) (fun hH2 => ?_)
            clear hKK KK
            try simp only [Act.put, List.setIfInBounds_toArray, List.set_cons_zero, List.set_cons_succ]
            refine wpAnyH_ready (rs := [6, 7]) (by kernel_rfl) (by simp) ?_
            refine AllReadyH.cons (o := oq6) rfl (fun KK hKK => ?_) ?_
            · refine step_alloc_new rfl 29 rfl z16 alloc29 ?_
              intro b7 y3 hx hb ht
              have S3 := Lib.hid (S2.out.ins [b5, b6] [] hx hb ht)
              clear hx hb ht S2
              refine hKK.out _ _ (S3.out.bel) (fun hH3 => ?_)
              clear hKK KK
              try simp only [Act.put, List.setIfInBounds_toArray, List.set_cons_zero, List.set_cons_succ]
              refine wpAnyH_ready (rs := [7]) (by kernel_rfl) (by simp) ?_
              refine AllReadyH.cons (o := oq7) rfl (fun KK hKK => ?_) AllReadyH.nil
              refine step_alloc_new rfl 29 rfl z16 alloc29 ?_
              intro b8 y4 hx hb ht
              have S4 := Lib.hid (S3.out.ins [b5, b6, b7] [] hx hb ht)
              clear hx hb ht S3
              refine hKK.out _ _ (S4.out.bel) (fun hH4 => ?_)
              clear hKK KK
              try simp only [Act.put, List.setIfInBounds_toArray, List.set_cons_zero, List.set_cons_succ]
              refine wpAnyH_ready (rs := [8]) (by kernel_rfl) (by simp) ?_
              refine AllReadyH.cons (o := oq8) rfl (fun KK hKK => ?_) AllReadyH.nil
              have G4 := Lib.hid S4.out.g4
              refine step_store_blk rfl 29 _ _ rfl b5 z16 29 _ rfl rfl G4.out.xa rfl size29 (by simp [Value.oneCell']) ?_
              intro y5 hb hp
              have G5 := Lib.hid (G4.out.sa hb hp)
              clear hb hp G4
              refine hKK.out _ _ (G5.out.bel) (fun hH5 => ?_)
              clear hKK KK
              try simp only [Act.put, List.setIfInBounds_toArray, List.set_cons_zero, List.set_cons_succ]
              refine wpAnyH_ready (rs := [9]) (by kernel_rfl) (by simp) ?_
              refine AllReadyH.cons (o := oq9) rfl (fun KK hKK => ?_) AllReadyH.nil
              refine step_store_blk rfl 29 _ _ rfl b6 z16 29 _ rfl rfl G5.out.xb rfl size29 (by simp [Value.oneCell']) ?_
              intro y6 hb hp
              have G6 := Lib.hid (G5.out.sb hb hp)
              clear hb hp G5
              refine hKK.out _ _ (G6.out.bel) (fun hH6 => ?_)
              clear hKK KK
              try simp only [Act.put, List.setIfInBounds_toArray, List.set_cons_zero, List.set_cons_succ]
              refine wpAnyH_ready (rs := [10]) (by kernel_rfl) (by simp) ?_
              refine AllReadyH.cons (o := oq10) rfl (fun KK hKK => ?_) AllReadyH.nil
              refine step_store_blk rfl 29 _ _ rfl b7 z16 29 _ rfl rfl G6.out.xc rfl size29 (by simp [Value.oneCell']) ?_
              intro y7 hb hp
              have G7 := Lib.hid (G6.out.sc hb hp)
              clear hb hp G6
              refine hKK.out _ _ (G7.out.bel) (fun hH7 => ?_)
              clear hKK KK
              try simp only [Act.put, List.setIfInBounds_toArray, List.set_cons_zero, List.set_cons_succ]
              refine wpAnyH_ready (rs := [11]) (by kernel_rfl) (by simp) ?_
              refine AllReadyH.cons (o := oq11) rfl (fun KK hKK => ?_) AllReadyH.nil
              refine step_store_blk rfl 29 _ _ rfl b8 z16 29 _ rfl rfl G7.out.xd rfl size29 (by simp [Value.oneCell']) ?_
              intro y8 hb hp
              have G8 := Lib.hid (G7.out.sd hb hp)
              clear hb hp G7
              refine hKK.out _ _ (G8.out.bel) (fun hH8 => ?_)
              clear hKK KK
              try simp only [Act.put, List.setIfInBounds_toArray, List.set_cons_zero, List.set_cons_succ]
              refine wpAnyH_done (by kernel_rfl) ?_ _
              go_wp2_with (fail)
              go_meet
              exact ⟨_, _, _, _, rfl, rfl, rfl, rfl, Lib.hid G8.out.f4⟩
            refine AllReadyH.cons (o := oq7) rfl (fun KK hKK => ?_) AllReadyH.nil
            refine step_alloc_new rfl 29 rfl z16 alloc29 ?_
            intro b8 y3 hx hb ht
            have S3 := Lib.hid (S2.out.ins [b5, b6] [] hx hb ht)
            clear hx hb ht S2
            refine hKK.out _ _ (S3.out.bel) (fun hH3 => ?_)
            clear hKK KK
            try simp only [Act.put, List.setIfInBounds_toArray, List.set_cons_zero, List.set_cons_succ]
            refine wpAnyH_ready (rs := [6]) (by kernel_rfl) (by simp) ?_
            refine AllReadyH.cons (o := oq6) rfl (fun KK hKK => ?_) AllReadyH.nil
            refine step_alloc_new rfl 29 rfl z16 alloc29 ?_
            intro b7 y4 hx hb ht
            have S4 := Lib.hid (S3.out.ins [b5, b6] [b8] hx hb ht)
            clear hx hb ht S3
            refine hKK.out _ _ (S4.out.bel) (fun hH4 => ?_)
            clear hKK KK
            try simp only [Act.put, List.setIfInBounds_toArray, List.set_cons_zero, List.set_cons_succ]
            refine wpAnyH_ready (rs := [8]) (by kernel_rfl) (by simp) ?_
            refine AllReadyH.cons (o := oq8) rfl (fun KK hKK => ?_) AllReadyH.nil
            have G4 := Lib.hid S4.out.g4
            refine step_store_blk rfl 29 _ _ rfl b5 z16 29 _ rfl rfl G4.out.xa rfl size29 (by simp [Value.oneCell']) ?_
            intro y5 hb hp
            have G5 := Lib.hid (G4.out.sa hb hp)
            clear hb hp G4
            refine hKK.out _ _ (G5.out.bel) (fun hH5 => ?_)
            clear hKK KK
            try simp only [Act.put, List.setIfInBounds_toArray, List.set_cons_zero, List.set_cons_succ]
            refine wpAnyH_ready (rs := [9]) (by kernel_rfl) (by simp) ?_
            refine AllReadyH.cons (o := oq9) rfl (fun KK hKK => ?_) AllReadyH.nil
            refine step_store_blk rfl 29 _ _ rfl b6 z16 29 _ rfl rfl G5.out.xb rfl size29 (by simp [Value.oneCell']) ?_
            intro y6 hb hp
            have G6 := Lib.hid (G5.out.sb hb hp)
            clear hb hp G5
            refine hKK.out _ _ (G6.out.bel) (fun hH6 => ?_)
            clear hKK KK
            try simp only [Act.put, List.setIfInBounds_toArray, List.set_cons_zero, List.set_cons_succ]
            refine wpAnyH_ready (rs := [10]) (by kernel_rfl) (by simp) ?_
            refine AllReadyH.cons (o := oq10) rfl (fun KK hKK => ?_) AllReadyH.nil
            refine step_store_blk rfl 29 _ _ rfl b7 z16 29 _ rfl rfl G6.out.xc rfl size29 (by simp [Value.oneCell']) ?_
            intro y7 hb hp
            have G7 := Lib.hid (G6.out.sc hb hp)
            clear hb hp G6
            refine hKK.out _ _ (G7.out.bel) (fun hH7 => ?_)
            clear hKK KK
            try simp only [Act.put, List.setIfInBounds_toArray, List.set_cons_zero, List.set_cons_succ]
            refine wpAnyH_ready (rs := [11]) (by kernel_rfl) (by simp) ?_
            refine AllReadyH.cons (o := oq11) rfl (fun KK hKK => ?_) AllReadyH.nil
            refine step_store_blk rfl 29 _ _ rfl b8 z16 29 _ rfl rfl G7.out.xd rfl size29 (by simp [Value.oneCell']) ?_
            intro y8 hb hp
            have G8 := Lib.hid (G7.out.sd hb hp)
            clear hb hp G7
            refine hKK.out _ _ (G8.out.bel) (fun hH8 => ?_)
            clear hKK KK
            try simp only [Act.put, List.setIfInBounds_toArray, List.set_cons_zero, List.set_cons_succ]
            refine wpAnyH_done (by kernel_rfl) ?_ _
            go_wp2_with (fail)
            go_meet
            exact ⟨_, _, _, _, rfl, rfl, rfl, rfl, Lib.hid G8.out.f4⟩
          refine AllReadyH.cons (o := oq6) rfl (fun KK hKK => ?_) ?_
          · refine step_alloc_new rfl 29 rfl z16 alloc29 ?_
            intro b7 y2 hx hb ht
            have S2 := Lib.hid (S1.out.ins [b6] [] hx hb ht)
            clear hx hb ht S1
            refine hKK.out _ _ (S2.out.bel) (fun hH2 => ?_)
            clear hKK KK
            try simp only [Act.put, List.setIfInBounds_toArray, List.set_cons_zero, List.set_cons_succ]
            refine wpAnyH_ready (rs := [4, 7]) (by kernel_rfl) (by simp) ?_
            refine AllReadyH.cons (o := oq4) rfl (fun KK hKK => ?_) ?_
            · refine step_alloc_new rfl 29 rfl z16 alloc29 ?_
              intro b5 y3 hx hb ht
              have S3 := Lib.hid (S2.out.ins [] [b6, b7] hx hb ht)
              clear hx hb ht S2
              refine hKK.out _ _ (S3.out.bel) (fun hH3 => ?_)
              clear hKK KK
              try simp only [Act.put, List.setIfInBounds_toArray, List.set_cons_zero, List.set_cons_succ]
              refine wpAnyH_ready (rs := [7]) (by kernel_rfl) (by simp) ?_
              refine AllReadyH.cons (o := oq7) rfl (fun KK hKK => ?_) AllReadyH.nil
              refine step_alloc_new rfl 29 rfl z16 alloc29 ?_
              intro b8 y4 hx hb ht
              have S4 := Lib.hid (S3.out.ins [b5, b6, b7] [] hx hb ht)
              clear hx hb ht S3
              refine hKK.out _ _ (S4.out.bel) (fun hH4 => ?_)
              clear hKK KK
              try simp only [Act.put, List.setIfInBounds_toArray, List.set_cons_zero, List.set_cons_succ]
              refine wpAnyH_ready (rs := [8]) (by kernel_rfl) (by simp) ?_
              refine AllReadyH.cons (o := oq8) rfl (fun KK hKK => ?_) AllReadyH.nil
              have G4 := Lib.hid S4.out.g4
              refine step_store_blk rfl 29 _ _ rfl b5 z16 29 _ rfl rfl G4.out.xa rfl size29 (by simp [Value.oneCell']) ?_
              intro y5 hb hp
              have G5 := Lib.hid (G4.out.sa hb hp)
              clear hb hp G4
              refine hKK.out _ _ (G5.out.bel) (fun hH5 => ?_)
              clear hKK KK
              try simp only [Act.put, List.setIfInBounds_toArray, List.set_cons_zero, List.set_cons_succ]
              refine wpAnyH_ready (rs := [9]) (by kernel_rfl) (by simp) ?_
              refine AllReadyH.cons (o := oq9) rfl (fun KK hKK => ?_) AllReadyH.nil
              refine step_store_blk rfl 29 _ _ rfl b6 z16 29 _ rfl rfl G5.out.xb rfl size29 (by simp [Value.oneCell']) ?_
              intro y6 hb hp
              have G6 := Lib.hid (G5.out.sb hb hp)
              clear hb hp G5
              refine hKK.out _ _ (G6.out.bel) (fun hH6 => ?_)
              clear hKK KK
              try simp only [Act.put, List.setIfInBounds_toArray, List.set_cons_zero, List.set_cons_succ]
              refine wpAnyH_ready (rs := [10]) (by kernel_rfl) (by simp) ?_
              refine AllReadyH.cons (o := oq10) rfl (fun KK hKK => ?_) AllReadyH.nil
              refine step_store_blk rfl 29 _ _ rfl b7 z16 29 _ rfl rfl G6.out.xc rfl size29 (by simp [Value.oneCell']) ?_
              intro y7 hb hp
              have G7 := Lib.hid (G6.out.sc hb hp)
              clear hb hp G6
              refine hKK.out _ _ (G7.out.bel) (fun hH7 => ?_)
              clear hKK KK
              try simp only [Act.put, List.setIfInBounds_toArray, List.set_cons_zero, List.set_cons_succ]
              refine wpAnyH_ready (rs := [11]) (by kernel_rfl) (by simp) ?_
              refine AllReadyH.cons (o := oq11) rfl (fun KK hKK => ?_) AllReadyH.nil
              refine step_store_blk rfl 29 _ _ rfl b8 z16 29 _ rfl rfl G7.out.xd rfl size29 (by simp [Value.oneCell']) ?_
              intro y8 hb hp
              have G8 := Lib.hid (G7.out.sd hb hp)
              clear hb hp G7
              refine hKK.out _ _ (G8.out.bel) (fun hH8 => ?_)
              clear hKK KK
              try simp only [Act.put, List.setIfInBounds_toArray, List.set_cons_zero, List.set_cons_succ]
              refine wpAnyH_done (by kernel_rfl) ?_ _
              go_wp2_with (fail)
              go_meet
              exact ⟨_, _, _, _, rfl, rfl, rfl, rfl, Lib.hid G8.out.f4⟩
            refine AllReadyH.cons (o := oq7) rfl (fun KK hKK => ?_) AllReadyH.nil
            refine step_alloc_new rfl 29 rfl z16 alloc29 ?_
            intro b8 y3 hx hb ht
            have S3 := Lib.hid (S2.out.ins [b6, b7] [] hx hb ht)
            clear hx hb ht S2
            refine hKK.out _ _ (S3.out.bel) (fun hH3 => ?_)
            clear hKK KK
            try simp only [Act.put, List.setIfInBounds_toArray, List.set_cons_zero, List.set_cons_succ]
            refine wpAnyH_ready (rs := [4]) (by kernel_rfl) (by simp) ?_
            refine AllReadyH.cons (o := oq4) rfl (fun KK hKK => ?_) AllReadyH.nil
            refine step_alloc_new rfl 29 rfl z16 alloc29 ?_
            intro b5 y4 hx hb ht
            have S4 := Lib.hid (S3.out.ins [] [b6, b7, b8] hx hb ht)
            clear hx hb ht S3
            refine hKK.out _ _ (S4.out.bel) (fun hH4 => ?_)
            clear hKK KK
            try simp only [Act.put, List.setIfInBounds_toArray, List.set_cons_zero, List.set_cons_succ]
            refine wpAnyH_ready (rs := [8]) (by kernel_rfl) (by simp) ?_
            refine AllReadyH.cons (o := oq8) rfl (fun KK hKK => ?_) AllReadyH.nil
            have G4 := Lib.hid S4.out.g4
            refine step_store_blk rfl 29 _ _ rfl b5 z16 29 _ rfl rfl G4.out.xa rfl size29 (by simp [Value.oneCell']) ?_
            intro y5 hb hp
            have G5 := Lib.hid (G4.out.sa hb hp)
            clear hb hp G4
            refine hKK.out _ _ (G5.out.bel) (fun hH5 => ?_)
            clear hKK KK
            try simp only [Act.put, List.setIfInBounds_toArray, List.set_cons_zero, List.set_cons_succ]
            refine wpAnyH_ready (rs := [9]) (by kernel_rfl) (by simp) ?_
            refine AllReadyH.cons (o := oq9) rfl (fun KK hKK => ?_) AllReadyH.nil
            refine step_store_blk rfl 29 _ _ rfl b6 z16 29 _ rfl rfl G5.out.xb rfl size29 (by simp [Value.oneCell']) ?_
            intro y6 hb hp
            have G6 := Lib.hid (G5.out.sb hb hp)
            clear hb hp G5
            refine hKK.out _ _ (G6.out.bel) (fun hH6 => ?_)
            clear hKK KK
            try simp only [Act.put, List.setIfInBounds_toArray, List.set_cons_zero, List.set_cons_succ]
            refine wpAnyH_ready (rs := [10]) (by kernel_rfl) (by simp) ?_
            refine AllReadyH.cons (o := oq10) rfl (fun KK hKK => ?_) AllReadyH.nil
            refine step_store_blk rfl 29 _ _ rfl b7 z16 29 _ rfl rfl G6.out.xc rfl size29 (by simp [Value.oneCell']) ?_
            intro y7 hb hp
            have G7 := Lib.hid (G6.out.sc hb hp)
            clear hb hp G6
            refine hKK.out _ _ (G7.out.bel) (fun hH7 => ?_)
            clear hKK KK
            try simp only [Act.put, List.setIfInBounds_toArray, List.set_cons_zero, List.set_cons_succ]
            refine wpAnyH_ready (rs := [11]) (by kernel_rfl) (by simp) ?_
            refine AllReadyH.cons (o := oq11) rfl (fun KK hKK => ?_) AllReadyH.nil
            refine step_store_blk rfl 29 _ _ rfl b8 z16 29 _ rfl rfl G7.out.xd rfl size29 (by simp [Value.oneCell']) ?_
            intro y8 hb hp
            have G8 := Lib.hid (G7.out.sd hb hp)
            clear hb hp G7
            refine hKK.out _ _ (G8.out.bel) (fun hH8 => ?_)
            clear hKK KK
            try simp only [Act.put, List.setIfInBounds_toArray, List.set_cons_zero, List.set_cons_succ]
            refine wpAnyH_done (by kernel_rfl) ?_ _
            go_wp2_with (fail)
            go_meet
            exact ⟨_, _, _, _, rfl, rfl, rfl, rfl, Lib.hid G8.out.f4⟩
          refine AllReadyH.cons (o := oq7) rfl (fun KK hKK => ?_) AllReadyH.nil
          refine step_alloc_new rfl 29 rfl z16 alloc29 ?_
          intro b8 y2 hx hb ht
          have S2 := Lib.hid (S1.out.ins [b6] [] hx hb ht)
          clear hx hb ht S1
          refine hKK.out _ _ (S2.out.bel) (fun hH2 => ?_)
          clear hKK KK
          try simp only [Act.put, List.setIfInBounds_toArray, List.set_cons_zero, List.set_cons_succ]
          refine wpAnyH_ready (rs := [4, 6]) (by kernel_rfl) (by simp) ?_
          refine AllReadyH.cons (o := oq4) rfl (fun KK hKK => ?_) ?_
          · refine step_alloc_new rfl 29 rfl z16 alloc29 ?_
            intro b5 y3 hx hb ht
            have S3 := Lib.hid (S2.out.ins [] [b6, b8] hx hb ht)
            clear hx hb ht S2
            refine hKK.out _ _ (S3.out.bel) (fun hH3 => ?_)
            clear hKK KK
            try simp only [Act.put, List.setIfInBounds_toArray, List.set_cons_zero, List.set_cons_succ]
            refine wpAnyH_ready (rs := [6]) (by kernel_rfl) (by simp) ?_
            refine AllReadyH.cons (o := oq6) rfl (fun KK hKK => ?_) AllReadyH.nil
            refine step_alloc_new rfl 29 rfl z16 alloc29 ?_
            intro b7 y4 hx hb ht
            have S4 := Lib.hid (S3.out.ins [b5, b6] [b8] hx hb ht)
            clear hx hb ht S3
            refine hKK.out _ _ (S4.out.bel) (fun hH4 => ?_)
            clear hKK KK
            try simp only [Act.put, List.setIfInBounds_toArray, List.set_cons_zero, List.set_cons_succ]
            refine wpAnyH_ready (rs := [8]) (by kernel_rfl) (by simp) ?_
            refine AllReadyH.cons (o := oq8) rfl (fun KK hKK => ?_) AllReadyH.nil
            have G4 := Lib.hid S4.out.g4
            refine step_store_blk rfl 29 _ _ rfl b5 z16 29 _ rfl rfl G4.out.xa rfl size29 (by simp [Value.oneCell']) ?_
            intro y5 hb hp
            have G5 := Lib.hid (G4.out.sa hb hp)
            clear hb hp G4
            refine hKK.out _ _ (G5.out.bel) (fun hH5 => ?_)
            clear hKK KK
            try simp only [Act.put, List.setIfInBounds_toArray, List.set_cons_zero, List.set_cons_succ]
            refine wpAnyH_ready (rs := [9]) (by kernel_rfl) (by simp) ?_
            refine AllReadyH.cons (o := oq9) rfl (fun KK hKK => ?_) AllReadyH.nil
            refine step_store_blk rfl 29 _ _ rfl b6 z16 29 _ rfl rfl G5.out.xb rfl size29 (by simp [Value.oneCell']) ?_
            intro y6 hb hp
            have G6 := Lib.hid (G5.out.sb hb hp)
            clear hb hp G5
            refine hKK.out _ _ (G6.out.bel) (fun hH6 => ?_)
            clear hKK KK
            try simp only [Act.put, List.setIfInBounds_toArray, List.set_cons_zero, List.set_cons_succ]
            refine wpAnyH_ready (rs := [10]) (by kernel_rfl) (by simp) ?_
            refine AllReadyH.cons (o := oq10) rfl (fun KK hKK => ?_) AllReadyH.nil
            refine step_store_blk rfl 29 _ _ rfl b7 z16 29 _ rfl rfl G6.out.xc rfl size29 (by simp [Value.oneCell']) ?_
            intro y7 hb hp
            have G7 := Lib.hid (G6.out.sc hb hp)
            clear hb hp G6
            refine hKK.out _ _ (G7.out.bel) (fun hH7 => ?_)
            clear hKK KK
            try simp only [Act.put, List.setIfInBounds_toArray, List.set_cons_zero, List.set_cons_succ]
            refine wpAnyH_ready (rs := [11]) (by kernel_rfl) (by simp) ?_
            refine AllReadyH.cons (o := oq11) rfl (fun KK hKK => ?_) AllReadyH.nil
            refine step_store_blk rfl 29 _ _ rfl b8 z16 29 _ rfl rfl G7.out.xd rfl size29 (by simp [Value.oneCell']) ?_
            intro y8 hb hp
            have G8 := Lib.hid (G7.out.sd hb hp)
            clear hb hp G7
            refine hKK.out _ _ (G8.out.bel) (fun hH8 => ?_)
            clear hKK KK
            try simp only [Act.put, List.setIfInBounds_toArray, List.set_cons_zero, List.set_cons_succ]
            refine wpAnyH_done (by kernel_rfl) ?_ _
            go_wp2_with (fail)
            go_meet
            exact ⟨_, _, _, _, rfl, rfl, rfl, rfl, Lib.hid G8.out.f4⟩
          refine AllReadyH.cons (o := oq6) rfl (fun KK hKK => ?_) AllReadyH.nil
          refine step_alloc_new rfl 29 rfl z16 alloc29 ?_
          intro b7 y3 hx hb ht
          have S3 := Lib.hid (S2.out.ins [b6] [b8] hx hb ht)
          clear hx hb ht S2
          refine hKK.out _ _ (S3.out.bel) (fun hH3 => ?_)
          clear hKK KK
          try simp only [Act.put, List.setIfInBounds_toArray, List.set_cons_zero, List.set_cons_succ]
          refine wpAnyH_ready (rs := [4]) (by kernel_rfl) (by simp) ?_
          refine AllReadyH.cons (o := oq4) rfl (fun KK hKK => ?_) AllReadyH.nil
          refine step_alloc_new rfl 29 rfl z16 alloc29 ?_
          intro b5 y4 hx hb ht
          have S4 := Lib.hid (S3.out.ins [] [b6, b7, b8] hx hb ht)
          clear hx hb ht S3
          refine hKK.out _ _ (S4.out.bel) (fun hH4 => ?_)
          clear hKK KK
          try simp only [Act.put, List.setIfInBounds_toArray, List.set_cons_zero, List.set_cons_succ]
          refine wpAnyH_ready (rs := [8]) (by kernel_rfl) (by simp) ?_
          refine AllReadyH.cons (o := oq8) rfl (fun KK hKK => ?_) AllReadyH.nil
          have G4 := Lib.hid S4.out.g4
          refine step_store_blk rfl 29 _ _ rfl b5 z16 29 _ rfl rfl G4.out.xa rfl size29 (by simp [Value.oneCell']) ?_
          intro y5 hb hp
          have G5 := Lib.hid (G4.out.sa hb hp)
          clear hb hp G4
          refine hKK.out _ _ (G5.out.bel) (fun hH5 => ?_)
          clear hKK KK
          try simp only [Act.put, List.setIfInBounds_toArray, List.set_cons_zero, List.set_cons_succ]
          refine wpAnyH_ready (rs := [9]) (by kernel_rfl) (by simp) ?_
          refine AllReadyH.cons (o := oq9) rfl (fun KK hKK => ?_) AllReadyH.nil
          refine step_store_blk rfl 29 _ _ rfl b6 z16 29 _ rfl rfl G5.out.xb rfl size29 (by simp [Value.oneCell']) ?_
          intro y6 hb hp
          have G6 := Lib.hid (G5.out.sb hb hp)
          clear hb hp G5
          refine hKK.out _ _ (G6.out.bel) (fun hH6 => ?_)
          clear hKK KK
          try simp only [Act.put, List.setIfInBounds_toArray, List.set_cons_zero, List.set_cons_succ]
          refine wpAnyH_ready (rs := [10]) (by kernel_rfl) (by simp) ?_
          refine AllReadyH.cons (o := oq10) rfl (fun KK hKK => ?_) AllReadyH.nil
          refine step_store_blk rfl 29 _ _ rfl b7 z16 29 _ rfl rfl G6.out.xc rfl size29 (by simp [Value.oneCell']) ?_
          intro y7 hb hp
          have G7 := Lib.hid (G6.out.sc hb hp)
          clear hb hp G6
          refine hKK.out _ _ (G7.out.bel) (fun hH7 => ?_)
          clear hKK KK
          try simp only [Act.put, List.setIfInBounds_toArray, List.set_cons_zero, List.set_cons_succ]
          refine wpAnyH_ready (rs := [11]) (by kernel_rfl) (by simp) ?_
          refine AllReadyH.cons (o := oq11) rfl (fun KK hKK => ?_) AllReadyH.nil
          refine step_store_blk rfl 29 _ _ rfl b8 z16 29 _ rfl rfl G7.out.xd rfl size29 (by simp [Value.oneCell']) ?_
          intro y8 hb hp
          have G8 := Lib.hid (G7.out.sd hb hp)
          clear hb hp G7
          refine hKK.out _ _ (G8.out.bel) (fun hH8 => ?_)
          clear hKK KK
          try simp only [Act.put, List.setIfInBounds_toArray, List.set_cons_zero, List.set_cons_succ]
          refine wpAnyH_done (by kernel_rfl) ?_ _
          go_wp2_with (fail)
          go_meet
          exact ⟨_, _, _, _, rfl, rfl, rfl, rfl, Lib.hid G8.out.f4⟩
        refine AllReadyH.cons (o := oq6) rfl (fun KK hKK => ?_) ?_
        · refine step_alloc_new rfl 29 rfl z16 alloc29 ?_
          intro b7 y1 hx hb ht
          have S1 := Lib.hid (S0.out.ins [] [] hx hb ht)
          clear hx hb ht S0
          refine hKK.out _ _ (S1.out.bel) (fun hH1 => ?_)
          clear hKK KK
          try simp only [Act.put, List.setIfInBounds_toArray, List.set_cons_zero, List.set_cons_succ]
          refine wpAnyH_ready (rs := [4, 5, 7]) (by kernel_rfl) (by simp) ?_
          refine AllReadyH.cons (o := oq4) rfl (fun KK hKK => ?_) ?_
          · refine step_alloc_new rfl 29 rfl z16 alloc29 ?_
            intro b5 y2 hx hb ht
            have S2 := Lib.hid (S1.out.ins [] [b7] hx hb ht)
            clear hx hb ht S1
            refine hKK.out _ _ (S2.out.bel) (fun hH2 => ?_)
            clear hKK KK
            try simp only [Act.put, List.setIfInBounds_toArray, List.set_cons_zero, List.set_cons_succ]
            refine wpAnyH_ready (rs := [5, 7]) (by kernel_rfl) (by simp) ?_
            refine AllReadyH.cons (o := oq5) rfl (fun KK hKK => ?_) ?_
            · refine step_alloc_new rfl 29 rfl z16 alloc29 ?_
              intro b6 y3 hx hb ht
              have S3 := Lib.hid (S2.out.ins [b5] [b7] hx hb ht)
              clear hx hb ht S2
              refine hKK.out _ _ (S3.out.bel) (fun hH3 => ?_)
              clear hKK KK
              try simp only [Act.put, List.setIfInBounds_toArray, List.set_cons_zero, List.set_cons_succ]
              refine wpAnyH_ready (rs := [7]) (by kernel_rfl) (by simp) ?_
              refine AllReadyH.cons (o := oq7) rfl (fun KK hKK => ?_) AllReadyH.nil
              refine step_alloc_new rfl 29 rfl z16 alloc29 ?_
              intro b8 y4 hx hb ht
              have S4 := Lib.hid (S3.out.ins [b5, b6, b7] [] hx hb ht)
              clear hx hb ht S3
              refine hKK.out _ _ (S4.out.bel) (fun hH4 => ?_)
              clear hKK KK
              try simp only [Act.put, List.setIfInBounds_toArray, List.set_cons_zero, List.set_cons_succ]
              refine wpAnyH_ready (rs := [8]) (by kernel_rfl) (by simp) ?_
              refine AllReadyH.cons (o := oq8) rfl (fun KK hKK => ?_) AllReadyH.nil
              have G4 := Lib.hid S4.out.g4
              refine step_store_blk rfl 29 _ _ rfl b5 z16 29 _ rfl rfl G4.out.xa rfl size29 (by simp [Value.oneCell']) ?_
              intro y5 hb hp
              have G5 := Lib.hid (G4.out.sa hb hp)
              clear hb hp G4
              refine hKK.out _ _ (G5.out.bel) (fun hH5 => ?_)
              clear hKK KK
              try simp only [Act.put, List.setIfInBounds_toArray, List.set_cons_zero, List.set_cons_succ]
              refine wpAnyH_ready (rs := [9]) (by kernel_rfl) (by simp) ?_
              refine AllReadyH.cons (o := oq9) rfl (fun KK hKK => ?_) AllReadyH.nil
              refine step_store_blk rfl 29 _ _ rfl b6 z16 29 _ rfl rfl G5.out.xb rfl size29 (by simp [Value.oneCell']) ?_
              intro y6 hb hp
              have G6 := Lib.hid (G5.out.sb hb hp)
              clear hb hp G5
              refine hKK.out _ _ (G6.out.bel) (fun hH6 => ?_)
              clear hKK KK
              try simp only [Act.put, List.setIfInBounds_toArray, List.set_cons_zero, List.set_cons_succ]
              refine wpAnyH_ready (rs := [10]) (by kernel_rfl) (by simp) ?_
              refine AllReadyH.cons (o := oq10) rfl (fun KK hKK => ?_) AllReadyH.nil
              refine step_store_blk rfl 29 _ _ rfl b7 z16 29 _ rfl rfl G6.out.xc rfl size29 (by simp [Value.oneCell']) ?_
              intro y7 hb hp
              have G7 := Lib.hid (G6.out.sc hb hp)
              clear hb hp G6
              refine hKK.out _ _ (G7.out.bel) (fun hH7 => ?_)
              clear hKK KK
              try simp only [Act.put, List.setIfInBounds_toArray, List.set_cons_zero, List.set_cons_succ]
              refine wpAnyH_ready (rs := [11]) (by kernel_rfl) (by simp) ?_
              refine AllReadyH.cons (o := oq11) rfl (fun KK hKK => ?_) AllReadyH.nil
              refine step_store_blk rfl 29 _ _ rfl b8 z16 29 _ rfl rfl G7.out.xd rfl size29 (by simp [Value.oneCell']) ?_
              intro y8 hb hp
              have G8 := Lib.hid (G7.out.sd hb hp)
              clear hb hp G7
              refine hKK.out _ _ (G8.out.bel) (fun hH8 => ?_)
              clear hKK KK
              try simp only [Act.put, List.setIfInBounds_toArray, List.set_cons_zero, List.set_cons_succ]
              refine wpAnyH_done (by kernel_rfl) ?_ _
              go_wp2_with (fail)
              go_meet
              exact ⟨_, _, _, _, rfl, rfl, rfl, rfl, Lib.hid G8.out.f4⟩
            refine AllReadyH.cons (o := oq7) rfl (fun KK hKK => ?_) AllReadyH.nil
            refine step_alloc_new rfl 29 rfl z16 alloc29 ?_
            intro b8 y3 hx hb ht
            have S3 := Lib.hid (S2.out.ins [b5, b7] [] hx hb ht)
            clear hx hb ht S2
            refine hKK.out _ _ (S3.out.bel) (fun hH3 => ?_)
            clear hKK KK
            try simp only [Act.put, List.setIfInBounds_toArray, List.set_cons_zero, List.set_cons_succ]
            refine wpAnyH_ready (rs := [5]) (by kernel_rfl) (by simp) ?_
            refine AllReadyH.cons (o := oq5) rfl (fun KK hKK => ?_) AllReadyH.nil
            refine step_alloc_new rfl 29 rfl z16 alloc29 ?_
            intro b6 y4 hx hb ht
            have S4 := Lib.hid (S3.out.ins [b5] [b7, b8] hx hb ht)
            clear hx hb ht S3
            refine hKK.out _ _ (S4.out.bel) (fun hH4 => ?_)
            clear hKK KK
            try simp only [Act.put, List.setIfInBounds_toArray, List.set_cons_zero, List.set_cons_succ]
            refine wpAnyH_ready (rs := [8]) (by kernel_rfl) (by simp) ?_
            refine AllReadyH.cons (o := oq8) rfl (fun KK hKK => ?_) AllReadyH.nil
            have G4 := Lib.hid S4.out.g4
            refine step_store_blk rfl 29 _ _ rfl b5 z16 29 _ rfl rfl G4.out.xa rfl size29 (by simp [Value.oneCell']) ?_
            intro y5 hb hp
            have G5 := Lib.hid (G4.out.sa hb hp)
            clear hb hp G4
            refine hKK.out _ _ (G5.out.bel) (fun hH5 => ?_)
            clear hKK KK
            try simp only [Act.put, List.setIfInBounds_toArray, List.set_cons_zero, List.set_cons_succ]
            refine wpAnyH_ready (rs := [9]) (by kernel_rfl) (by simp) ?_
            refine AllReadyH.cons (o := oq9) rfl (fun KK hKK => ?_) AllReadyH.nil
            refine step_store_blk rfl 29 _ _ rfl b6 z16 29 _ rfl rfl G5.out.xb rfl size29 (by simp [Value.oneCell']) ?_
            intro y6 hb hp
            have G6 := Lib.hid (G5.out.sb hb hp)
            clear hb hp G5
            refine hKK.out _ _ (G6.out.bel) (fun hH6 => ?_)
            clear hKK KK
            try simp only [Act.put, List.setIfInBounds_toArray, List.set_cons_zero, List.set_cons_succ]
            refine wpAnyH_ready (rs := [10]) (by kernel_rfl) (by simp) ?_
            refine AllReadyH.cons (o := oq10) rfl (fun KK hKK => ?_) AllReadyH.nil
            refine step_store_blk rfl 29 _ _ rfl b7 z16 29 _ rfl rfl G6.out.xc rfl size29 (by simp [Value.oneCell']) ?_
            intro y7 hb hp
            have G7 := Lib.hid (G6.out.sc hb hp)
            clear hb hp G6
            refine hKK.out _ _ (G7.out.bel) (fun hH7 => ?_)
            clear hKK KK
            try simp only [Act.put, List.setIfInBounds_toArray, List.set_cons_zero, List.set_cons_succ]
            refine wpAnyH_ready (rs := [11]) (by kernel_rfl) (by simp) ?_
            refine AllReadyH.cons (o := oq11) rfl (fun KK hKK => ?_) AllReadyH.nil
            refine step_store_blk rfl 29 _ _ rfl b8 z16 29 _ rfl rfl G7.out.xd rfl size29 (by simp [Value.oneCell']) ?_
            intro y8 hb hp
            have G8 := Lib.hid (G7.out.sd hb hp)
            clear hb hp G7
            refine hKK.out _ _ (G8.out.bel) (fun hH8 => ?_)
            clear hKK KK
            try simp only [Act.put, List.setIfInBounds_toArray, List.set_cons_zero, List.set_cons_succ]
            refine wpAnyH_done (by kernel_rfl) ?_ _
            go_wp2_with (fail)
            go_meet
            exact ⟨_, _, _, _, rfl, rfl, rfl, rfl, Lib.hid G8.out.f4⟩
          refine AllReadyH.cons (o := oq5) rfl (fun KK hKK => ?_) ?_
          · refine step_alloc_new rfl 29 rfl z16 alloc29 ?_
            intro b6 y2 hx hb ht
            have S2 := Lib.hid (S1.out.ins [] [b7] hx hb ht)
            clear hx hb ht S1
            refine hKK.out _ _ (S2.out.bel) (fun hH2 => ?_)
            clear hKK KK
            try simp only [Act.put, List.setIfInBounds_toArray, List.set_cons_zero, List.set_cons_succ]
            refine wpAnyH_ready (rs := [4, 7]) (by kernel_rfl) (by simp) ?_
            refine AllReadyH.cons (o := oq4) rfl (fun KK hKK => ?_) ?_
            · refine step_alloc_new rfl 29 rfl z16 alloc29 ?_
              intro b5 y3 hx hb ht
              have S3 := Lib.hid (S2.out.ins [] [b6, b7] hx hb ht)
              clear hx hb ht S2
              refine hKK.out _ _ (S3.out.bel) (fun hH3 => ?_)
              clear hKK KK
              try simp only [Act.put, List.setIfInBounds_toArray, List.set_cons_zero, List.set_cons_succ]
              refine wpAnyH_ready (rs := [7]) (by kernel_rfl) (by simp) ?_
              refine AllReadyH.cons (o := oq7) rfl (fun KK hKK => ?_) AllReadyH.nil
              refine step_alloc_new rfl 29 rfl z16 alloc29 ?_
              intro b8 y4 hx hb ht
              have S4 := Lib.hid (S3.out.ins [b5, b6, b7] [] hx hb ht)
              clear hx hb ht S3
              refine hKK.out _ _ (S4.out.bel) (fun hH4 => ?_)
              clear hKK KK
              try simp only [Act.put, List.setIfInBounds_toArray, List.set_cons_zero, List.set_cons_succ]
              refine wpAnyH_ready (rs := [8]) (by kernel_rfl) (by simp) ?_
              refine AllReadyH.cons (o := oq8) rfl (fun KK hKK => ?_) AllReadyH.nil
              have G4 := Lib.hid S4.out.g4
              refine step_store_blk rfl 29 _ _ rfl b5 z16 29 _ rfl rfl G4.out.xa rfl size29 (by simp [Value.oneCell']) ?_
              intro y5 hb hp
              have G5 := Lib.hid (G4.out.sa hb hp)
              clear hb hp G4
              refine hKK.out _ _ (G5.out.bel) (fun hH5 => ?_)
              clear hKK KK
              try simp only [Act.put, List.setIfInBounds_toArray, List.set_cons_zero, List.set_cons_succ]
              refine wpAnyH_ready (rs := [9]) (by kernel_rfl) (by simp) ?_
              refine AllReadyH.cons (o := oq9) rfl (fun KK hKK => ?_) AllReadyH.nil
              refine step_store_blk rfl 29 _ _ rfl b6 z16 29 _ rfl rfl G5.out.xb rfl size29 (by simp [Value.oneCell']) ?_
              intro y6 hb hp
              have G6 := Lib.hid (G5.out.sb hb hp)
              clear hb hp G5
              refine hKK.out _ _ (G6.out.bel) (fun hH6 => ?_)
              clear hKK KK
              try simp only [Act.put, List.setIfInBounds_toArray, List.set_cons_zero, List.set_cons_succ]
              refine wpAnyH_ready (rs := [10]) (by kernel_rfl) (by simp) ?_
              refine AllReadyH.cons (o := oq10) rfl (fun KK hKK => ?_) AllReadyH.nil
              refine step_store_blk rfl 29 _ _ rfl b7 z16 29 _ rfl rfl G6.out.xc rfl size29 (by simp [Value.oneCell']) ?_
              intro y7 hb hp
              have G7 := Lib.hid (G6.out.sc hb hp)
              clear hb hp G6
              refine hKK.out _ _ (G7.out.bel) (fun hH7 => ?_)
              clear hKK KK
              try simp only [Act.put, List.setIfInBounds_toArray, List.set_cons_zero, List.set_cons_succ]
              refine wpAnyH_ready (rs := [11]) (by kernel_rfl) (by simp) ?_
              refine AllReadyH.cons (o := oq11) rfl (fun KK hKK => ?_) AllReadyH.nil
              refine step_store_blk rfl 29 _ _ rfl b8 z16 29 _ rfl rfl G7.out.xd rfl size29 (by simp [Value.oneCell']) ?_
              intro y8 hb hp
              have G8 := Lib.hid (G7.out.sd hb hp)
              clear hb hp G7
              refine hKK.out _ _ (G8.out.bel) (fun hH8 => ?_)
              clear hKK KK
              try simp only [Act.put, List.setIfInBounds_toArray, List.set_cons_zero, List.set_cons_succ]
              refine wpAnyH_done (by kernel_rfl) ?_ _
              go_wp2_with (fail)
              go_meet
              exact ⟨_, _, _, _, rfl, rfl, rfl, rfl, Lib.hid G8.out.f4⟩
            refine AllReadyH.cons (o := oq7) rfl (fun KK hKK => ?_) AllReadyH.nil
            refine step_alloc_new rfl 29 rfl z16 alloc29 ?_
            intro b8 y3 hx hb ht
            have S3 := Lib.hid (S2.out.ins [b6, b7] [] hx hb ht)
            clear hx hb ht S2
            refine hKK.out _ _ (S3.out.bel) (fun hH3 => ?_)
            clear hKK KK
            try simp only [Act.put, List.setIfInBounds_toArray, List.set_cons_zero, List.set_cons_succ]
            refine wpAnyH_ready (rs := [4]) (by kernel_rfl) (by simp) ?_
            refine AllReadyH.cons (o := oq4) rfl (fun KK hKK => ?_) AllReadyH.nil
            refine step_alloc_new rfl 29 rfl z16 alloc29 ?_
            intro b5 y4 hx hb ht
            have S4 := Lib.hid (S3.out.ins [] [b6, b7, b8] hx hb ht)
            clear hx hb ht S3
            refine hKK.out _ _ (S4.out.bel) (fun hH4 => ?_)
            clear hKK KK
            try simp only [Act.put, List.setIfInBounds_toArray, List.set_cons_zero, List.set_cons_succ]
            refine wpAnyH_ready (rs := [8]) (by kernel_rfl) (by simp) ?_
            refine AllReadyH.cons (o := oq8) rfl (fun KK hKK => ?_) AllReadyH.nil
            have G4 := Lib.hid S4.out.g4
            refine step_store_blk rfl 29 _ _ rfl b5 z16 29 _ rfl rfl G4.out.xa rfl size29 (by simp [Value.oneCell']) ?_
            intro y5 hb hp
            have G5 := Lib.hid (G4.out.sa hb hp)
            clear hb hp G4
            refine hKK.out _ _ (G5.out.bel) (fun hH5 => ?_)
            clear hKK KK
            try simp only [Act.put, List.setIfInBounds_toArray, List.set_cons_zero, List.set_cons_succ]
            refine wpAnyH_ready (rs := [9]) (by kernel_rfl) (by simp) ?_
            refine AllReadyH.cons (o := oq9) rfl (fun KK hKK => ?_) AllReadyH.nil
            refine step_store_blk rfl 29 _ _ rfl b6 z16 29 _ rfl rfl G5.out.xb rfl size29 (by simp [Value.oneCell']) ?_
            intro y6 hb hp
            have G6 := Lib.hid (G5.out.sb hb hp)
            clear hb hp G5
            refine hKK.out _ _ (G6.out.bel) (fun hH6 => ?_)
            clear hKK KK
            try simp only [Act.put, List.setIfInBounds_toArray, List.set_cons_zero, List.set_cons_succ]
            refine wpAnyH_ready (rs := [10]) (by kernel_rfl) (by simp) ?_
            refine AllReadyH.cons (o := oq10) rfl (fun KK hKK => ?_) AllReadyH.nil
            refine step_store_blk rfl 29 _ _ rfl b7 z16 29 _ rfl rfl G6.out.xc rfl size29 (by simp [Value.oneCell']) ?_
            intro y7 hb hp
            have G7 := Lib.hid (G6.out.sc hb hp)
            clear hb hp G6
            refine hKK.out _ _ (G7.out.bel) (fun hH7 => ?_)
            clear hKK KK
            try simp only [Act.put, List.setIfInBounds_toArray, List.set_cons_zero, List.set_cons_succ]
            refine wpAnyH_ready (rs := [11]) (by kernel_rfl) (by simp) ?_
            refine AllReadyH.cons (o := oq11) rfl (fun KK hKK => ?_) AllReadyH.nil
            refine step_store_blk rfl 29 _ _ rfl b8 z16 29 _ rfl rfl G7.out.xd rfl size29 (by simp [Value.oneCell']) ?_
            intro y8 hb hp
            have G8 := Lib.hid (G7.out.sd hb hp)
            clear hb hp G7
            refine hKK.out _ _ (G8.out.bel) (fun hH8 => ?_)
            clear hKK KK
            try simp only [Act.put, List.setIfInBounds_toArray, List.set_cons_zero, List.set_cons_succ]
            refine wpAnyH_done (by kernel_rfl) ?_ _
            go_wp2_with (fail)
            go_meet
            exact ⟨_, _, _, _, rfl, rfl, rfl, rfl, Lib.hid G8.out.f4⟩
          refine AllReadyH.cons (o := oq7) rfl (fun KK hKK => ?_) AllReadyH.nil
          refine step_alloc_new rfl 29 rfl z16 alloc29 ?_
          intro b8 y2 hx hb ht
          have S2 := Lib.hid (S1.out.ins [b7] [] hx hb ht)
          clear hx hb ht S1
          refine hKK.out _ _ (S2.out.bel) (fun hH2 => ?_)
          clear hKK KK
          try simp only [Act.put, List.setIfInBounds_toArray, List.set_cons_zero, List.set_cons_succ]
          refine wpAnyH_ready (rs := [4, 5]) (by kernel_rfl) (by simp) ?_
          refine AllReadyH.cons (o := oq4) rfl (fun KK hKK => ?_) ?_
          · refine step_alloc_new rfl 29 rfl z16 alloc29 ?_
            intro b5 y3 hx hb ht
            have S3 := Lib.hid (S2.out.ins [] [b7, b8] hx hb ht)
            clear hx hb ht S2
            refine hKK.out _ _ (S3.out.bel) (fun hH3 => ?_)
            clear hKK KK
            try simp only [Act.put, List.setIfInBounds_toArray, List.set_cons_zero, List.set_cons_succ]
            refine wpAnyH_ready (rs := [5]) (by kernel_rfl) (by simp) ?_
            refine AllReadyH.cons (o := oq5) rfl (fun KK hKK => ?_) AllReadyH.nil
            refine step_alloc_new rfl 29 rfl z16 alloc29 ?_
            intro b6 y4 hx hb ht
            have S4 := Lib.hid (S3.out.ins [b5] [b7, b8] hx hb ht)
            clear hx hb ht S3
            refine hKK.out _ _ (S4.out.bel) (fun hH4 => ?_)
            clear hKK KK
            try simp only [Act.put, List.setIfInBounds_toArray, List.set_cons_zero, List.set_cons_succ]
            refine wpAnyH_ready (rs := [8]) (by kernel_rfl) (by simp) ?_
            refine AllReadyH.cons (o := oq8) rfl (fun KK hKK => ?_) AllReadyH.nil
            have G4 := Lib.hid S4.out.g4
            refine step_store_blk rfl 29 _ _ rfl b5 z16 29 _ rfl rfl G4.out.xa rfl size29 (by simp [Value.oneCell']) ?_
            intro y5 hb hp
            have G5 := Lib.hid (G4.out.sa hb hp)
            clear hb hp G4
            refine hKK.out _ _ (G5.out.bel) (fun hH5 => ?_)
            clear hKK KK
            try simp only [Act.put, List.setIfInBounds_toArray, List.set_cons_zero, List.set_cons_succ]
            refine wpAnyH_ready (rs := [9]) (by kernel_rfl) (by simp) ?_
            refine AllReadyH.cons (o := oq9) rfl (fun KK hKK => ?_) AllReadyH.nil
            refine step_store_blk rfl 29 _ _ rfl b6 z16 29 _ rfl rfl G5.out.xb rfl size29 (by simp [Value.oneCell']) ?_
            intro y6 hb hp
            have G6 := Lib.hid (G5.out.sb hb hp)
            clear hb hp G5
            refine hKK.out _ _ (G6.out.bel) (fun hH6 => ?_)
            clear hKK KK
            try simp only [Act.put, List.setIfInBounds_toArray, List.set_cons_zero, List.set_cons_succ]
            refine wpAnyH_ready (rs := [10]) (by kernel_rfl) (by simp) ?_
            refine AllReadyH.cons (o := oq10) rfl (fun KK hKK => ?_) AllReadyH.nil
            refine step_store_blk rfl 29 _ _ rfl b7 z16 29 _ rfl rfl G6.out.xc rfl size29 (by simp [Value.oneCell']) ?_
            intro y7 hb hp
            have G7 := Lib.hid (G6.out.sc hb hp)
            clear hb hp G6
            refine hKK.out _ _ (G7.out.bel) (fun hH7 => ?_)
            clear hKK KK
            try simp only [Act.put, List.setIfInBounds_toArray, List.set_cons_zero, List.set_cons_succ]
            refine wpAnyH_ready (rs := [11]) (by kernel_rfl) (by simp) ?_
            refine AllReadyH.cons (o := oq11) rfl (fun KK hKK => ?_) AllReadyH.nil
            refine step_store_blk rfl 29 _ _ rfl b8 z16 29 _ rfl rfl G7.out.xd rfl size29 (by simp [Value.oneCell']) ?_
            intro y8 hb hp
            have G8 := Lib.hid (G7.out.sd hb hp)
            clear hb hp G7
            refine hKK.out _ _ (G8.out.bel) (fun hH8 => ?_)
            clear hKK KK
            try simp only [Act.put, List.setIfInBounds_toArray, List.set_cons_zero, List.set_cons_succ]
            refine wpAnyH_done (by kernel_rfl) ?_ _
            go_wp2_with (fail)
            go_meet
            exact ⟨_, _, _, _, rfl, rfl, rfl, rfl, Lib.hid G8.out.f4⟩
          refine AllReadyH.cons (o := oq5) rfl (fun KK hKK => ?_) AllReadyH.nil
          refine step_alloc_new rfl 29 rfl z16 alloc29 ?_
          intro b6 y3 hx hb ht
          have S3 := Lib.hid (S2.out.ins [] [b7, b8] hx hb ht)
          clear hx hb ht S2
          refine hKK.out _ _ (S3.out.bel) (fun hH3 => ?_)
          clear hKK KK
          try simp only [Act.put, List.setIfInBounds_toArray, List.set_cons_zero, List.set_cons_succ]
          refine wpAnyH_ready (rs := [4]) (by kernel_rfl) (by simp) ?_
          refine AllReadyH.cons (o := oq4) rfl (fun KK hKK => ?_) AllReadyH.nil
          refine step_alloc_new rfl 29 rfl z16 alloc29 ?_
          intro b5 y4 hx hb ht
          have S4 := Lib.hid (S3.out.ins [] [b6, b7, b8] hx hb ht)
          clear hx hb ht S3
          refine hKK.out _ _ (S4.out.bel) (fun hH4 => ?_)
          clear hKK KK
          try simp only [Act.put, List.setIfInBounds_toArray, List.set_cons_zero, List.set_cons_succ]
          refine wpAnyH_ready (rs := [8]) (by kernel_rfl) (by simp) ?_
          refine AllReadyH.cons (o := oq8) rfl (fun KK hKK => ?_) AllReadyH.nil
          have G4 := Lib.hid S4.out.g4
          refine step_store_blk rfl 29 _ _ rfl b5 z16 29 _ rfl rfl G4.out.xa rfl size29 (by simp [Value.oneCell']) ?_
          intro y5 hb hp
          have G5 := Lib.hid (G4.out.sa hb hp)
          clear hb hp G4
          refine hKK.out _ _ (G5.out.bel) (fun hH5 => ?_)
          clear hKK KK
          try simp only [Act.put, List.setIfInBounds_toArray, List.set_cons_zero, List.set_cons_succ]
          refine wpAnyH_ready (rs := [9]) (by kernel_rfl) (by simp) ?_
          refine AllReadyH.cons (o := oq9) rfl (fun KK hKK => ?_) AllReadyH.nil
          refine step_store_blk rfl 29 _ _ rfl b6 z16 29 _ rfl rfl G5.out.xb rfl size29 (by simp [Value.oneCell']) ?_
          intro y6 hb hp
          have G6 := Lib.hid (G5.out.sb hb hp)
          clear hb hp G5
          refine hKK.out _ _ (G6.out.bel) (fun hH6 => ?_)
          clear hKK KK
          try simp only [Act.put, List.setIfInBounds_toArray, List.set_cons_zero, List.set_cons_succ]
          refine wpAnyH_ready (rs := [10]) (by kernel_rfl) (by simp) ?_
          refine AllReadyH.cons (o := oq10) rfl (fun KK hKK => ?_) AllReadyH.nil
          refine step_store_blk rfl 29 _ _ rfl b7 z16 29 _ rfl rfl G6.out.xc rfl size29 (by simp [Value.oneCell']) ?_
          intro y7 hb hp
          have G7 := Lib.hid (G6.out.sc hb hp)
          clear hb hp G6
          refine hKK.out _ _ (G7.out.bel) (fun hH7 => ?_)
          clear hKK KK
          try simp only [Act.put, List.setIfInBounds_toArray, List.set_cons_zero, List.set_cons_succ]
          refine wpAnyH_ready (rs := [11]) (by kernel_rfl) (by simp) ?_
          refine AllReadyH.cons (o := oq11) rfl (fun KK hKK => ?_) AllReadyH.nil
          refine step_store_blk rfl 29 _ _ rfl b8 z16 29 _ rfl rfl G7.out.xd rfl size29 (by simp [Value.oneCell']) ?_
          intro y8 hb hp
          have G8 := Lib.hid (G7.out.sd hb hp)
          clear hb hp G7
          refine hKK.out _ _ (G8.out.bel) (fun hH8 => ?_)
          clear hKK KK
          try simp only [Act.put, List.setIfInBounds_toArray, List.set_cons_zero, List.set_cons_succ]
          refine wpAnyH_done (by kernel_rfl) ?_ _
          go_wp2_with (fail)
          go_meet
          exact ⟨_, _, _, _, rfl, rfl, rfl, rfl, Lib.hid G8.out.f4⟩
        refine AllReadyH.cons (o := oq7) rfl (fun KK hKK => ?_) AllReadyH.nil
        refine step_alloc_new rfl 29 rfl z16 alloc29 ?_
        intro b8 y1 hx hb ht
        have S1 := Lib.hid (S0.out.ins [] [] hx hb ht)
        clear hx hb ht S0
        refine hKK.out _ _ (S1.out.bel) (fun hH1 => ?_)
        clear hKK KK
        try simp only [Act.put, List.setIfInBounds_toArray, List.set_cons_zero, List.set_cons_succ]
        refine wpAnyH_ready (rs := [4, 5, 6]) (by kernel_rfl) (by simp) ?_
        refine AllReadyH.cons (o := oq4) rfl (fun KK hKK => ?_) ?_
        · refine step_alloc_new rfl 29 rfl z16 alloc29 ?_
          intro b5 y2 hx hb ht
          have S2 := Lib.hid (S1.out.ins [] [b8] hx hb ht)
          clear hx hb ht S1
          refine hKK.out _ _ (S2.out.bel) (fun hH2 => ?_)
          clear hKK KK
          try simp only [Act.put, List.setIfInBounds_toArray, List.set_cons_zero, List.set_cons_succ]
          refine wpAnyH_ready (rs := [5, 6]) (by kernel_rfl) (by simp) ?_
          refine AllReadyH.cons (o := oq5) rfl (fun KK hKK => ?_) ?_
          · refine step_alloc_new rfl 29 rfl z16 alloc29 ?_
            intro b6 y3 hx hb ht
            have S3 := Lib.hid (S2.out.ins [b5] [b8] hx hb ht)
            clear hx hb ht S2
            refine hKK.out _ _ (S3.out.bel) (fun hH3 => ?_)
            clear hKK KK
            try simp only [Act.put, List.setIfInBounds_toArray, List.set_cons_zero, List.set_cons_succ]
            refine wpAnyH_ready (rs := [6]) (by kernel_rfl) (by simp) ?_
            refine AllReadyH.cons (o := oq6) rfl (fun KK hKK => ?_) AllReadyH.nil
            refine step_alloc_new rfl 29 rfl z16 alloc29 ?_
            intro b7 y4 hx hb ht
            have S4 := Lib.hid (S3.out.ins [b5, b6] [b8] hx hb ht)
            clear hx hb ht S3
            refine hKK.out _ _ (S4.out.bel) (fun hH4 => ?_)
            clear hKK KK
            try simp only [Act.put, List.setIfInBounds_toArray, List.set_cons_zero, List.set_cons_succ]
            refine wpAnyH_ready (rs := [8]) (by kernel_rfl) (by simp) ?_
            refine AllReadyH.cons (o := oq8) rfl (fun KK hKK => ?_) AllReadyH.nil
            have G4 := Lib.hid S4.out.g4
            refine step_store_blk rfl 29 _ _ rfl b5 z16 29 _ rfl rfl G4.out.xa rfl size29 (by simp [Value.oneCell']) ?_
            intro y5 hb hp
            have G5 := Lib.hid (G4.out.sa hb hp)
            clear hb hp G4
            refine hKK.out _ _ (G5.out.bel) (fun hH5 => ?_)
            clear hKK KK
            try simp only [Act.put, List.setIfInBounds_toArray, List.set_cons_zero, List.set_cons_succ]
            refine wpAnyH_ready (rs := [9]) (by kernel_rfl) (by simp) ?_
            refine AllReadyH.cons (o := oq9) rfl (fun KK hKK => ?_) AllReadyH.nil
            refine step_store_blk rfl 29 _ _ rfl b6 z16 29 _ rfl rfl G5.out.xb rfl size29 (by simp [Value.oneCell']) ?_
            intro y6 hb hp
            have G6 := Lib.hid (G5.out.sb hb hp)
            clear hb hp G5
            refine hKK.out _ _ (G6.out.bel) (fun hH6 => ?_)
            clear hKK KK
            try simp only [Act.put, List.setIfInBounds_toArray, List.set_cons_zero, List.set_cons_succ]
            refine wpAnyH_ready (rs := [10]) (by kernel_rfl) (by simp) ?_
            refine AllReadyH.cons (o := oq10) rfl (fun KK hKK => ?_) AllReadyH.nil
            refine step_store_blk rfl 29 _ _ rfl b7 z16 29 _ rfl rfl G6.out.xc rfl size29 (by simp [Value.oneCell']) ?_
            intro y7 hb hp
            have G7 := Lib.hid (G6.out.sc hb hp)
            clear hb hp G6
            refine hKK.out _ _ (G7.out.bel) (fun hH7 => ?_)
            clear hKK KK
            try simp only [Act.put, List.setIfInBounds_toArray, List.set_cons_zero, List.set_cons_succ]
            refine wpAnyH_ready (rs := [11]) (by kernel_rfl) (by simp) ?_
            refine AllReadyH.cons (o := oq11) rfl (fun KK hKK => ?_) AllReadyH.nil
            refine step_store_blk rfl 29 _ _ rfl b8 z16 29 _ rfl rfl G7.out.xd rfl size29 (by simp [Value.oneCell']) ?_
            intro y8 hb hp
            have G8 := Lib.hid (G7.out.sd hb hp)
            clear hb hp G7
            refine hKK.out _ _ (G8.out.bel) (fun hH8 => ?_)
            clear hKK KK
            try simp only [Act.put, List.setIfInBounds_toArray, List.set_cons_zero, List.set_cons_succ]
            refine wpAnyH_done (by kernel_rfl) ?_ _
            go_wp2_with (fail)
            go_meet
            exact ⟨_, _, _, _, rfl, rfl, rfl, rfl, Lib.hid G8.out.f4⟩
          refine AllReadyH.cons (o := oq6) rfl (fun KK hKK => ?_) AllReadyH.nil
          refine step_alloc_new rfl 29 rfl z16 alloc29 ?_
          intro b7 y3 hx hb ht
          have S3 := Lib.hid (S2.out.ins [b5] [b8] hx hb ht)
          clear hx hb ht S2
          refine hKK.out _ _ (S3.out.bel) (fun hH3 => ?_)
          clear hKK KK
          try simp only [Act.put, List.setIfInBounds_toArray, List.set_cons_zero, List.set_cons_succ]
          refine wpAnyH_ready (rs := [5]) (by kernel_rfl) (by simp) ?_
          refine AllReadyH.cons (o := oq5) rfl (fun KK hKK => ?_) AllReadyH.nil
          refine step_alloc_new rfl 29 rfl z16 alloc29 ?_
          intro b6 y4 hx hb ht
          have S4 := Lib.hid (S3.out.ins [b5] [b7, b8] hx hb ht)
          clear hx hb ht S3
          refine hKK.out _ _ (S4.out.bel) (fun hH4 => ?_)
          clear hKK KK
          try simp only [Act.put, List.setIfInBounds_toArray, List.set_cons_zero, List.set_cons_succ]
          refine wpAnyH_ready (rs := [8]) (by kernel_rfl) (by simp) ?_
          refine AllReadyH.cons (o := oq8) rfl (fun KK hKK => ?_) AllReadyH.nil
          have G4 := Lib.hid S4.out.g4
          refine step_store_blk rfl 29 _ _ rfl b5 z16 29 _ rfl rfl G4.out.xa rfl size29 (by simp [Value.oneCell']) ?_
          intro y5 hb hp
          have G5 := Lib.hid (G4.out.sa hb hp)
          clear hb hp G4
          refine hKK.out _ _ (G5.out.bel) (fun hH5 => ?_)
          clear hKK KK
          try simp only [Act.put, List.setIfInBounds_toArray, List.set_cons_zero, List.set_cons_succ]
          refine wpAnyH_ready (rs := [9]) (by kernel_rfl) (by simp) ?_
          refine AllReadyH.cons (o := oq9) rfl (fun KK hKK => ?_) AllReadyH.nil
          refine step_store_blk rfl 29 _ _ rfl b6 z16 29 _ rfl rfl G5.out.xb rfl size29 (by simp [Value.oneCell']) ?_
          intro y6 hb hp
          have G6 := Lib.hid (G5.out.sb hb hp)
          clear hb hp G5
          refine hKK.out _ _ (G6.out.bel) (fun hH6 => ?_)
          clear hKK KK
          try simp only [Act.put, List.setIfInBounds_toArray, List.set_cons_zero, List.set_cons_succ]
          refine wpAnyH_ready (rs := [10]) (by kernel_rfl) (by simp) ?_
          refine AllReadyH.cons (o := oq10) rfl (fun KK hKK => ?_) AllReadyH.nil
          refine step_store_blk rfl 29 _ _ rfl b7 z16 29 _ rfl rfl G6.out.xc rfl size29 (by simp [Value.oneCell']) ?_
          intro y7 hb hp
          have G7 := Lib.hid (G6.out.sc hb hp)
          clear hb hp G6
          refine hKK.out _ _ (G7.out.bel) (fun hH7 => ?_)
          clear hKK KK
          try simp only [Act.put, List.setIfInBounds_toArray, List.set_cons_zero, List.set_cons_succ]
          refine wpAnyH_ready (rs := [11]) (by kernel_rfl) (by simp) ?_
          refine AllReadyH.cons (o := oq11) rfl (fun KK hKK => ?_) AllReadyH.nil
          refine step_store_blk rfl 29 _ _ rfl b8 z16 29 _ rfl rfl G7.out.xd rfl size29 (by simp [Value.oneCell']) ?_
          intro y8 hb hp
          have G8 := Lib.hid (G7.out.sd hb hp)
          clear hb hp G7
          refine hKK.out _ _ (G8.out.bel) (fun hH8 => ?_)
          clear hKK KK
          try simp only [Act.put, List.setIfInBounds_toArray, List.set_cons_zero, List.set_cons_succ]
          refine wpAnyH_done (by kernel_rfl) ?_ _
          go_wp2_with (fail)
          go_meet
          exact ⟨_, _, _, _, rfl, rfl, rfl, rfl, Lib.hid G8.out.f4⟩
        refine AllReadyH.cons (o := oq5) rfl (fun KK hKK => ?_) ?_
        · refine step_alloc_new rfl 29 rfl z16 alloc29 ?_
          intro b6 y2 hx hb ht
          have S2 := Lib.hid (S1.out.ins [] [b8] hx hb ht)
          clear hx hb ht S1
          refine hKK.out _ _ (S2.out.bel) (fun hH2 => ?_)
          clear hKK KK
          try simp only [Act.put, List.setIfInBounds_toArray, List.set_cons_zero, List.set_cons_succ]
          refine wpAnyH_ready (rs := [4, 6]) (by kernel_rfl) (by simp) ?_
          refine AllReadyH.cons (o := oq4) rfl (fun KK hKK => ?_) ?_
          · refine step_alloc_new rfl 29 rfl z16 alloc29 ?_
            intro b5 y3 hx hb ht
            have S3 := Lib.hid (S2.out.ins [] [b6, b8] hx hb ht)
            clear hx hb ht S2
            refine hKK.out _ _ (S3.out.bel) (fun hH3 => ?_)
            clear hKK KK
            try simp only [Act.put, List.setIfInBounds_toArray, List.set_cons_zero, List.set_cons_succ]
            refine wpAnyH_ready (rs := [6]) (by kernel_rfl) (by simp) ?_
            refine AllReadyH.cons (o := oq6) rfl (fun KK hKK => ?_) AllReadyH.nil
            refine step_alloc_new rfl 29 rfl z16 alloc29 ?_
            intro b7 y4 hx hb ht
            have S4 := Lib.hid (S3.out.ins [b5, b6] [b8] hx hb ht)
            clear hx hb ht S3
            refine hKK.out _ _ (S4.out.bel) (fun hH4 => ?_)
            clear hKK KK
            try simp only [Act.put, List.setIfInBounds_toArray, List.set_cons_zero, List.set_cons_succ]
            refine wpAnyH_ready (rs := [8]) (by kernel_rfl) (by simp) ?_
            refine AllReadyH.cons (o := oq8) rfl (fun KK hKK => ?_) AllReadyH.nil
            have G4 := Lib.hid S4.out.g4
            refine step_store_blk rfl 29 _ _ rfl b5 z16 29 _ rfl rfl G4.out.xa rfl size29 (by simp [Value.oneCell']) ?_
            intro y5 hb hp
            have G5 := Lib.hid (G4.out.sa hb hp)
            clear hb hp G4
            refine hKK.out _ _ (G5.out.bel) (fun hH5 => ?_)
            clear hKK KK
            try simp only [Act.put, List.setIfInBounds_toArray, List.set_cons_zero, List.set_cons_succ]
            refine wpAnyH_ready (rs := [9]) (by kernel_rfl) (by simp) ?_
            refine AllReadyH.cons (o := oq9) rfl (fun KK hKK => ?_) AllReadyH.nil
            refine step_store_blk rfl 29 _ _ rfl b6 z16 29 _ rfl rfl G5.out.xb rfl size29 (by simp [Value.oneCell']) ?_
            intro y6 hb hp
            have G6 := Lib.hid (G5.out.sb hb hp)
            clear hb hp G5
            refine hKK.out _ _ (G6.out.bel) (fun hH6 => ?_)
            clear hKK KK
            try simp only [Act.put, List.setIfInBounds_toArray, List.set_cons_zero, List.set_cons_succ]
            refine wpAnyH_ready (rs := [10]) (by kernel_rfl) (by simp) ?_
            refine AllReadyH.cons (o := oq10) rfl (fun KK hKK => ?_) AllReadyH.nil
            refine step_store_blk rfl 29 _ _ rfl b7 z16 29 _ rfl rfl G6.out.xc rfl size29 (by simp [Value.oneCell']) ?_
            intro y7 hb hp
            have G7 := Lib.hid (G6.out.sc hb hp)
            clear hb hp G6
            refine hKK.out _ _ (G7.out.bel) (fun hH7 => ?_)
            clear hKK KK
            try simp only [Act.put, List.setIfInBounds_toArray, List.set_cons_zero, List.set_cons_succ]
            refine wpAnyH_ready (rs := [11]) (by kernel_rfl) (by simp) ?_
            refine AllReadyH.cons (o := oq11) rfl (fun KK hKK => ?_) AllReadyH.nil
            refine step_store_blk rfl 29 _ _ rfl b8 z16 29 _ rfl rfl G7.out.xd rfl size29 (by simp [Value.oneCell']) ?_
            intro y8 hb hp
            have G8 := Lib.hid (G7.out.sd hb hp)
            clear hb hp G7
            refine hKK.out _ _ (G8.out.bel) (fun hH8 => ?_)
            clear hKK KK
            try simp only [Act.put, List.setIfInBounds_toArray, List.set_cons_zero, List.set_cons_succ]
            refine wpAnyH_done (by kernel_rfl) ?_ _
            go_wp2_with (fail)
            go_meet
            exact ⟨_, _, _, _, rfl, rfl, rfl, rfl, Lib.hid G8.out.f4⟩
          refine AllReadyH.cons (o := oq6) rfl (fun KK hKK => ?_) AllReadyH.nil
          refine step_alloc_new rfl 29 rfl z16 alloc29 ?_
          intro b7 y3 hx hb ht
          have S3 := Lib.hid (S2.out.ins [b6] [b8] hx hb ht)
          clear hx hb ht S2
          refine hKK.out _ _ (S3.out.bel) (fun hH3 => ?_)
          clear hKK KK
          try simp only [Act.put, List.setIfInBounds_toArray, List.set_cons_zero, List.set_cons_succ]
          refine wpAnyH_ready (rs := [4]) (by kernel_rfl) (by simp) ?_
          refine AllReadyH.cons (o := oq4) rfl (fun KK hKK => ?_) AllReadyH.nil
          refine step_alloc_new rfl 29 rfl z16 alloc29 ?_
          intro b5 y4 hx hb ht
          have S4 := Lib.hid (S3.out.ins [] [b6, b7, b8] hx hb ht)
          clear hx hb ht S3
          refine hKK.out _ _ (S4.out.bel) (fun hH4 => ?_)
          clear hKK KK
          try simp only [Act.put, List.setIfInBounds_toArray, List.set_cons_zero, List.set_cons_succ]
          refine wpAnyH_ready (rs := [8]) (by kernel_rfl) (by simp) ?_
          refine AllReadyH.cons (o := oq8) rfl (fun KK hKK => ?_) AllReadyH.nil
          have G4 := Lib.hid S4.out.g4
          refine step_store_blk rfl 29 _ _ rfl b5 z16 29 _ rfl rfl G4.out.xa rfl size29 (by simp [Value.oneCell']) ?_
          intro y5 hb hp
          have G5 := Lib.hid (G4.out.sa hb hp)
          clear hb hp G4
          refine hKK.out _ _ (G5.out.bel) (fun hH5 => ?_)
          clear hKK KK
          try simp only [Act.put, List.setIfInBounds_toArray, List.set_cons_zero, List.set_cons_succ]
          refine wpAnyH_ready (rs := [9]) (by kernel_rfl) (by simp) ?_
          refine AllReadyH.cons (o := oq9) rfl (fun KK hKK => ?_) AllReadyH.nil
          refine step_store_blk rfl 29 _ _ rfl b6 z16 29 _ rfl rfl G5.out.xb rfl size29 (by simp [Value.oneCell']) ?_
          intro y6 hb hp
          have G6 := Lib.hid (G5.out.sb hb hp)
          clear hb hp G5
          refine hKK.out _ _ (G6.out.bel) (fun hH6 => ?_)
          clear hKK KK
          try simp only [Act.put, List.setIfInBounds_toArray, List.set_cons_zero, List.set_cons_succ]
          refine wpAnyH_ready (rs := [10]) (by kernel_rfl) (by simp) ?_
          refine AllReadyH.cons (o := oq10) rfl (fun KK hKK => ?_) AllReadyH.nil
          refine step_store_blk rfl 29 _ _ rfl b7 z16 29 _ rfl rfl G6.out.xc rfl size29 (by simp [Value.oneCell']) ?_
          intro y7 hb hp
          have G7 := Lib.hid (G6.out.sc hb hp)
          clear hb hp G6
          refine hKK.out _ _ (G7.out.bel) (fun hH7 => ?_)
          clear hKK KK
          try simp only [Act.put, List.setIfInBounds_toArray, List.set_cons_zero, List.set_cons_succ]
          refine wpAnyH_ready (rs := [11]) (by kernel_rfl) (by simp) ?_
          refine AllReadyH.cons (o := oq11) rfl (fun KK hKK => ?_) AllReadyH.nil
          refine step_store_blk rfl 29 _ _ rfl b8 z16 29 _ rfl rfl G7.out.xd rfl size29 (by simp [Value.oneCell']) ?_
          intro y8 hb hp
          have G8 := Lib.hid (G7.out.sd hb hp)
          clear hb hp G7
          refine hKK.out _ _ (G8.out.bel) (fun hH8 => ?_)
          clear hKK KK
          try simp only [Act.put, List.setIfInBounds_toArray, List.set_cons_zero, List.set_cons_succ]
          refine wpAnyH_done (by kernel_rfl) ?_ _
          go_wp2_with (fail)
          go_meet
          exact ⟨_, _, _, _, rfl, rfl, rfl, rfl, Lib.hid G8.out.f4⟩
        refine AllReadyH.cons (o := oq6) rfl (fun KK hKK => ?_) AllReadyH.nil
        refine step_alloc_new rfl 29 rfl z16 alloc29 ?_
        intro b7 y2 hx hb ht
        have S2 := Lib.hid (S1.out.ins [] [b8] hx hb ht)
        clear hx hb ht S1
        refine hKK.out _ _ (S2.out.bel) (fun hH2 => ?_)
        clear hKK KK
        try simp only [Act.put, List.setIfInBounds_toArray, List.set_cons_zero, List.set_cons_succ]
        refine wpAnyH_ready (rs := [4, 5]) (by kernel_rfl) (by simp) ?_
        refine AllReadyH.cons (o := oq4) rfl (fun KK hKK => ?_) ?_
        · refine step_alloc_new rfl 29 rfl z16 alloc29 ?_
          intro b5 y3 hx hb ht
          have S3 := Lib.hid (S2.out.ins [] [b7, b8] hx hb ht)
          clear hx hb ht S2
          refine hKK.out _ _ (S3.out.bel) (fun hH3 => ?_)
          clear hKK KK
          try simp only [Act.put, List.setIfInBounds_toArray, List.set_cons_zero, List.set_cons_succ]
          refine wpAnyH_ready (rs := [5]) (by kernel_rfl) (by simp) ?_
          refine AllReadyH.cons (o := oq5) rfl (fun KK hKK => ?_) AllReadyH.nil
          refine step_alloc_new rfl 29 rfl z16 alloc29 ?_
          intro b6 y4 hx hb ht
          have S4 := Lib.hid (S3.out.ins [b5] [b7, b8] hx hb ht)
          clear hx hb ht S3
          refine hKK.out _ _ (S4.out.bel) (fun hH4 => ?_)
          clear hKK KK
          try simp only [Act.put, List.setIfInBounds_toArray, List.set_cons_zero, List.set_cons_succ]
          refine wpAnyH_ready (rs := [8]) (by kernel_rfl) (by simp) ?_
          refine AllReadyH.cons (o := oq8) rfl (fun KK hKK => ?_) AllReadyH.nil
          have G4 := Lib.hid S4.out.g4
          refine step_store_blk rfl 29 _ _ rfl b5 z16 29 _ rfl rfl G4.out.xa rfl size29 (by simp [Value.oneCell']) ?_
          intro y5 hb hp
          have G5 := Lib.hid (G4.out.sa hb hp)
          clear hb hp G4
          refine hKK.out _ _ (G5.out.bel) (fun hH5 => ?_)
          clear hKK KK
          try simp only [Act.put, List.setIfInBounds_toArray, List.set_cons_zero, List.set_cons_succ]
          refine wpAnyH_ready (rs := [9]) (by kernel_rfl) (by simp) ?_
          refine AllReadyH.cons (o := oq9) rfl (fun KK hKK => ?_) AllReadyH.nil
          refine step_store_blk rfl 29 _ _ rfl b6 z16 29 _ rfl rfl G5.out.xb rfl size29 (by simp [Value.oneCell']) ?_
          intro y6 hb hp
          have G6 := Lib.hid (G5.out.sb hb hp)
          clear hb hp G5
          refine hKK.out _ _ (G6.out.bel) (fun hH6 => ?_)
          clear hKK KK
          try simp only [Act.put, List.setIfInBounds_toArray, List.set_cons_zero, List.set_cons_succ]
          refine wpAnyH_ready (rs := [10]) (by kernel_rfl) (by simp) ?_
          refine AllReadyH.cons (o := oq10) rfl (fun KK hKK => ?_) AllReadyH.nil
          refine step_store_blk rfl 29 _ _ rfl b7 z16 29 _ rfl rfl G6.out.xc rfl size29 (by simp [Value.oneCell']) ?_
          intro y7 hb hp
          have G7 := Lib.hid (G6.out.sc hb hp)
          clear hb hp G6
          refine hKK.out _ _ (G7.out.bel) (fun hH7 => ?_)
          clear hKK KK
          try simp only [Act.put, List.setIfInBounds_toArray, List.set_cons_zero, List.set_cons_succ]
          refine wpAnyH_ready (rs := [11]) (by kernel_rfl) (by simp) ?_
          refine AllReadyH.cons (o := oq11) rfl (fun KK hKK => ?_) AllReadyH.nil
          refine step_store_blk rfl 29 _ _ rfl b8 z16 29 _ rfl rfl G7.out.xd rfl size29 (by simp [Value.oneCell']) ?_
          intro y8 hb hp
          have G8 := Lib.hid (G7.out.sd hb hp)
          clear hb hp G7
          refine hKK.out _ _ (G8.out.bel) (fun hH8 => ?_)
          clear hKK KK
          try simp only [Act.put, List.setIfInBounds_toArray, List.set_cons_zero, List.set_cons_succ]
          refine wpAnyH_done (by kernel_rfl) ?_ _
          go_wp2_with (fail)
          go_meet
          exact ⟨_, _, _, _, rfl, rfl, rfl, rfl, Lib.hid G8.out.f4⟩
        refine AllReadyH.cons (o := oq5) rfl (fun KK hKK => ?_) AllReadyH.nil
        refine step_alloc_new rfl 29 rfl z16 alloc29 ?_
        intro b6 y3 hx hb ht
        have S3 := Lib.hid (S2.out.ins [] [b7, b8] hx hb ht)
        clear hx hb ht S2
        refine hKK.out _ _ (S3.out.bel) (fun hH3 => ?_)
        clear hKK KK
        try simp only [Act.put, List.setIfInBounds_toArray, List.set_cons_zero, List.set_cons_succ]
        refine wpAnyH_ready (rs := [4]) (by kernel_rfl) (by simp) ?_
        refine AllReadyH.cons (o := oq4) rfl (fun KK hKK => ?_) AllReadyH.nil
        refine step_alloc_new rfl 29 rfl z16 alloc29 ?_
        intro b5 y4 hx hb ht
        have S4 := Lib.hid (S3.out.ins [] [b6, b7, b8] hx hb ht)
        clear hx hb ht S3
        refine hKK.out _ _ (S4.out.bel) (fun hH4 => ?_)
        clear hKK KK
        try simp only [Act.put, List.setIfInBounds_toArray, List.set_cons_zero, List.set_cons_succ]
        refine wpAnyH_ready (rs := [8]) (by kernel_rfl) (by simp) ?_
        refine AllReadyH.cons (o := oq8) rfl (fun KK hKK => ?_) AllReadyH.nil
        have G4 := Lib.hid S4.out.g4
        refine step_store_blk rfl 29 _ _ rfl b5 z16 29 _ rfl rfl G4.out.xa rfl size29 (by simp [Value.oneCell']) ?_
        intro y5 hb hp
        have G5 := Lib.hid (G4.out.sa hb hp)
        clear hb hp G4
        refine hKK.out _ _ (G5.out.bel) (fun hH5 => ?_)
        clear hKK KK
        try simp only [Act.put, List.setIfInBounds_toArray, List.set_cons_zero, List.set_cons_succ]
        refine wpAnyH_ready (rs := [9]) (by kernel_rfl) (by simp) ?_
        refine AllReadyH.cons (o := oq9) rfl (fun KK hKK => ?_) AllReadyH.nil
        refine step_store_blk rfl 29 _ _ rfl b6 z16 29 _ rfl rfl G5.out.xb rfl size29 (by simp [Value.oneCell']) ?_
        intro y6 hb hp
        have G6 := Lib.hid (G5.out.sb hb hp)
        clear hb hp G5
        refine hKK.out _ _ (G6.out.bel) (fun hH6 => ?_)
        clear hKK KK
        try simp only [Act.put, List.setIfInBounds_toArray, List.set_cons_zero, List.set_cons_succ]
        refine wpAnyH_ready (rs := [10]) (by kernel_rfl) (by simp) ?_
        refine AllReadyH.cons (o := oq10) rfl (fun KK hKK => ?_) AllReadyH.nil
        refine step_store_blk rfl 29 _ _ rfl b7 z16 29 _ rfl rfl G6.out.xc rfl size29 (by simp [Value.oneCell']) ?_
        intro y7 hb hp
        have G7 := Lib.hid (G6.out.sc hb hp)
        clear hb hp G6
        refine hKK.out _ _ (G7.out.bel) (fun hH7 => ?_)
        clear hKK KK
        try simp only [Act.put, List.setIfInBounds_toArray, List.set_cons_zero, List.set_cons_succ]
        refine wpAnyH_ready (rs := [11]) (by kernel_rfl) (by simp) ?_
        refine AllReadyH.cons (o := oq11) rfl (fun KK hKK => ?_) AllReadyH.nil
        refine step_store_blk rfl 29 _ _ rfl b8 z16 29 _ rfl rfl G7.out.xd rfl size29 (by simp [Value.oneCell']) ?_
        intro y8 hb hp
        have G8 := Lib.hid (G7.out.sd hb hp)
        clear hb hp G7
        refine hKK.out _ _ (G8.out.bel) (fun hH8 => ?_)
        clear hKK KK
        try simp only [Act.put, List.setIfInBounds_toArray, List.set_cons_zero, List.set_cons_succ]
        refine wpAnyH_done (by kernel_rfl) ?_ _
        go_wp2_with (fail)
        go_meet
        exact ⟨_, _, _, _, rfl, rfl, rfl, rfl, Lib.hid G8.out.f4⟩
      case rest =>
        obtain ⟨wv, rfl⟩ : ∃ x : World, x = wc := ⟨_, rfl⟩
        obtain ⟨b5, b6, b7, b8, rfl, rfl, rfl, rfl, NF⟩ := hcut
        have Yb5 := Lib.hid NF.out.xa
        have Yb6 := Lib.hid NF.out.xb
        have Yb7 := Lib.hid NF.out.xc
        have Yb8 := Lib.hid NF.out.xd
        have XW0 := Lib.hid (X2.out.below NF.out.bel)
        have BF0 := Lib.hid NF.out.bel
        have HNb5 := Lib.hid (Nat.ne_of_lt (Nat.lt_of_lt_of_le X2.out.lt NF.out.la))
        have HNb6 := Lib.hid (Nat.ne_of_lt (Nat.lt_of_lt_of_le X2.out.lt NF.out.lb))
        have HNb7 := Lib.hid (Nat.ne_of_lt (Nat.lt_of_lt_of_le X2.out.lt NF.out.lc))
        have HNb8 := Lib.hid (Nat.ne_of_lt (Nat.lt_of_lt_of_le X2.out.lt NF.out.ld))
        clear X2
        go_upto_region 5 with (first
          | (refine store_one rfl 9 _ _ rfl b5 0 (.string ⟨#[120]⟩) [.string tx, .int .i64 n, .int .i64 tg, .bool th, .string via, .slice aA al.length aC, .slice dA dn.length dC, .slice uA us.length uC, .slice kA ks.length kC, .int .i64 d, .int .i64 x3, .int .i64 x4, .int .i64 x5, .int .i64 x6, .int .i64 x7, .int .i64 x8] 29 rfl rfl Yb5.out j0 size9 rfl ?_; intro wd0 hx hp; have P0_b5 := Lib.hid (show Blk wd0 b5 [.string ⟨#[120]⟩, .int .i64 n, .int .i64 tg, .bool th, .string via, .slice aA al.length aC, .slice dA dn.length dC, .slice uA us.length uC, .slice kA ks.length kC, .int .i64 d, .int .i64 x3, .int .i64 x4, .int .i64 x5, .int .i64 x6, .int .i64 x7, .int .i64 x8] 29 from hx); have P0_b6 := Lib.hid (hp.oth _ _ _ (Ne.symm NF.out.ab) Yb6.out); have P0_b7 := Lib.hid (hp.oth _ _ _ (Ne.symm NF.out.ac) Yb7.out); have P0_b8 := Lib.hid (hp.oth _ _ _ (Ne.symm NF.out.ad) Yb8.out); have XW1 := Lib.hid (hp.oth _ _ _ HNb5.out XW0.out); have BF1 := Lib.hid (bel_put BF0.out hp NF.out.la); clear hx hp XW0 BF0 Yb5 Yb6 Yb7 Yb8)
          | (refine store_one rfl 3 _ _ rfl b6 1 (.int .i64 1) [.string tx, .int .i64 n, .int .i64 tg, .bool th, .string via, .slice aA al.length aC, .slice dA dn.length dC, .slice uA us.length uC, .slice kA ks.length kC, .int .i64 d, .int .i64 x3, .int .i64 x4, .int .i64 x5, .int .i64 x6, .int .i64 x7, .int .i64 x8] 29 rfl rfl P0_b6.out j1 si3 rfl ?_; intro wd1 hx hp; have P1_b5 := Lib.hid (hp.oth _ _ _ NF.out.ab P0_b5.out); have P1_b6 := Lib.hid (show Blk wd1 b6 [.string tx, .int .i64 1, .int .i64 tg, .bool th, .string via, .slice aA al.length aC, .slice dA dn.length dC, .slice uA us.length uC, .slice kA ks.length kC, .int .i64 d, .int .i64 x3, .int .i64 x4, .int .i64 x5, .int .i64 x6, .int .i64 x7, .int .i64 x8] 29 from hx); have P1_b7 := Lib.hid (hp.oth _ _ _ (Ne.symm NF.out.bc) P0_b7.out); have P1_b8 := Lib.hid (hp.oth _ _ _ (Ne.symm NF.out.bd) P0_b8.out); have XW2 := Lib.hid (hp.oth _ _ _ HNb6.out XW1.out); have BF2 := Lib.hid (bel_put BF1.out hp NF.out.lb); clear hx hp XW1 BF1 P0_b5 P0_b6 P0_b7 P0_b8)
          | (refine store_one rfl 3 _ _ rfl b7 2 (.int .i64 1) [.string tx, .int .i64 n, .int .i64 tg, .bool th, .string via, .slice aA al.length aC, .slice dA dn.length dC, .slice uA us.length uC, .slice kA ks.length kC, .int .i64 d, .int .i64 x3, .int .i64 x4, .int .i64 x5, .int .i64 x6, .int .i64 x7, .int .i64 x8] 29 rfl rfl P1_b7.out j2 si3 rfl ?_; intro wd2 hx hp; have P2_b5 := Lib.hid (hp.oth _ _ _ NF.out.ac P1_b5.out); have P2_b6 := Lib.hid (hp.oth _ _ _ NF.out.bc P1_b6.out); have P2_b7 := Lib.hid (show Blk wd2 b7 [.string tx, .int .i64 n, .int .i64 1, .bool th, .string via, .slice aA al.length aC, .slice dA dn.length dC, .slice uA us.length uC, .slice kA ks.length kC, .int .i64 d, .int .i64 x3, .int .i64 x4, .int .i64 x5, .int .i64 x6, .int .i64 x7, .int .i64 x8] 29 from hx); have P2_b8 := Lib.hid (hp.oth _ _ _ (Ne.symm NF.out.cd) P1_b8.out); have XW3 := Lib.hid (hp.oth _ _ _ HNb7.out XW2.out); have BF3 := Lib.hid (bel_put BF2.out hp NF.out.lc); clear hx hp XW2 BF2 P1_b5 P1_b6 P1_b7 P1_b8)
          | (refine store_one rfl 9 _ _ rfl b8 4 (.string ⟨#[64, 97, 58, 98]⟩) [.string tx, .int .i64 n, .int .i64 tg, .bool th, .string via, .slice aA al.length aC, .slice dA dn.length dC, .slice uA us.length uC, .slice kA ks.length kC, .int .i64 d, .int .i64 x3, .int .i64 x4, .int .i64 x5, .int .i64 x6, .int .i64 x7, .int .i64 x8] 29 rfl rfl P2_b8.out j4 size9 rfl ?_; intro wd3 hx hp; have P3_b5 := Lib.hid (hp.oth _ _ _ NF.out.ad P2_b5.out); have P3_b6 := Lib.hid (hp.oth _ _ _ NF.out.bd P2_b6.out); have P3_b7 := Lib.hid (hp.oth _ _ _ NF.out.cd P2_b7.out); have P3_b8 := Lib.hid (show Blk wd3 b8 [.string tx, .int .i64 n, .int .i64 tg, .bool th, .string ⟨#[64, 97, 58, 98]⟩, .slice aA al.length aC, .slice dA dn.length dC, .slice uA us.length uC, .slice kA ks.length kC, .int .i64 d, .int .i64 x3, .int .i64 x4, .int .i64 x5, .int .i64 x6, .int .i64 x7, .int .i64 x8] 29 from hx); have XW4 := Lib.hid (hp.oth _ _ _ HNb8.out XW3.out); have BF4 := Lib.hid (bel_put BF3.out hp NF.out.ld); clear hx hp XW3 BF3 P2_b5 P2_b6 P2_b7 P2_b8)
          | fail)
        have BD := Lib.hid (B2.out.trans (BF4.out.mono B2.out.size))
        clear BF4 NF HNb5 HNb6 HNb7 HNb8 B2
        go_frame
        go_cut [9, 10, 11, 12] from 31 to 34 (fun s9 s10 s11 s12 wx => ∃ b9 b10 b11 b12 : Nat, s9 = .pointer (some ⟨b9, 0, none⟩) ∧ s10 = .pointer (some ⟨b10, 0, none⟩) ∧ s11 = .pointer (some ⟨b11, 0, none⟩) ∧ s12 = .pointer (some ⟨b12, 0, none⟩) ∧ Hid (F4 wd3 wx [.string tx, .int .i64 n, .int .i64 tg, .bool th, .string via, .slice aA al.length aC, .slice dA dn.length dC, .slice uA us.length uC, .slice kA ks.length kC, .int .i64 d, .int .i64 x3, .int .i64 x4, .int .i64 x5, .int .i64 x6, .int .i64 x7, .int .i64 x8] b9 b10 b11 b12))
        case first =>
          refine wp_region_held_drew (S := (fun y => Below wd3.heap.size wd3 y)) (by kernel_rfl) ((Below.refl wd3.heap.size wd3).drew) (fun hH0 => ?_)
          generalize hy0 : World.drew _ = y0 at hH0 ⊢
          have S0 := Lib.hid (S4.nil (w := wd3) hH0)
          clear hy0
          refine wpAnyH_take (i := 0) (oi := oq12) (v := .agg #[.string tx, .int .i64 n, .int .i64 tg, .bool th, .string via, .slice aA al.length aC, .slice dA dn.length dC, .slice uA us.length uC, .slice kA ks.length kC, .int .i64 d, .int .i64 x3, .int .i64 x4, .int .i64 x5, .int .i64 x6, .int .i64 x7, .int .i64 x8]) rfl (by kernel_rfl) (by kernel_rfl) (by kernel_rfl) (fun _ _ _ h => h) (yieldsIf_load_mid (by rfl) 29 _ rfl w.heap.size 0 rfl [.string tx, .int .i64 n, .int .i64 tg, .bool th, .string via, .slice aA al.length aC, .slice dA dn.length dC, .slice uA us.length uC, .slice kA ks.length kC, .int .i64 d, .int .i64 x3, .int .i64 x4, .int .i64 x5, .int .i64 x6, .int .i64 x7, .int .i64 x8] _ (fun w0 hw0 => (XW4.out.below hw0).range) Tryz.underlying29 rfl size29) (by assumption) ?_
          try simp only [Act.put, List.setIfInBounds_toArray, List.set_cons_zero, List.set_cons_succ]
          refine wpAnyH_take (i := 1) (oi := oq13) (v := .agg #[.string tx, .int .i64 n, .int .i64 tg, .bool th, .string via, .slice aA al.length aC, .slice dA dn.length dC, .slice uA us.length uC, .slice kA ks.length kC, .int .i64 d, .int .i64 x3, .int .i64 x4, .int .i64 x5, .int .i64 x6, .int .i64 x7, .int .i64 x8]) rfl (by kernel_rfl) (by kernel_rfl) (by kernel_rfl) (fun _ _ _ h => h) (yieldsIf_load_mid (by rfl) 29 _ rfl w.heap.size 0 rfl [.string tx, .int .i64 n, .int .i64 tg, .bool th, .string via, .slice aA al.length aC, .slice dA dn.length dC, .slice uA us.length uC, .slice kA ks.length kC, .int .i64 d, .int .i64 x3, .int .i64 x4, .int .i64 x5, .int .i64 x6, .int .i64 x7, .int .i64 x8] _ (fun w0 hw0 => (XW4.out.below hw0).range) Tryz.underlying29 rfl size29) (by assumption) ?_
          try simp only [Act.put, List.setIfInBounds_toArray, List.set_cons_zero, List.set_cons_succ]
          refine wpAnyH_take (i := 2) (oi := oq14) (v := .agg #[.string tx, .int .i64 n, .int .i64 tg, .bool th, .string via, .slice aA al.length aC, .slice dA dn.length dC, .slice uA us.length uC, .slice kA ks.length kC, .int .i64 d, .int .i64 x3, .int .i64 x4, .int .i64 x5, .int .i64 x6, .int .i64 x7, .int .i64 x8]) rfl (by kernel_rfl) (by kernel_rfl) (by kernel_rfl) (fun _ _ _ h => h) (yieldsIf_load_mid (by rfl) 29 _ rfl w.heap.size 0 rfl [.string tx, .int .i64 n, .int .i64 tg, .bool th, .string via, .slice aA al.length aC, .slice dA dn.length dC, .slice uA us.length uC, .slice kA ks.length kC, .int .i64 d, .int .i64 x3, .int .i64 x4, .int .i64 x5, .int .i64 x6, .int .i64 x7, .int .i64 x8] _ (fun w0 hw0 => (XW4.out.below hw0).range) Tryz.underlying29 rfl size29) (by assumption) ?_
          try simp only [Act.put, List.setIfInBounds_toArray, List.set_cons_zero, List.set_cons_succ]
          refine wpAnyH_take (i := 3) (oi := oq15) (v := .agg #[.string tx, .int .i64 n, .int .i64 tg, .bool th, .string via, .slice aA al.length aC, .slice dA dn.length dC, .slice uA us.length uC, .slice kA ks.length kC, .int .i64 d, .int .i64 x3, .int .i64 x4, .int .i64 x5, .int .i64 x6, .int .i64 x7, .int .i64 x8]) rfl (by kernel_rfl) (by kernel_rfl) (by kernel_rfl) (fun _ _ _ h => h) (yieldsIf_load_mid (by rfl) 29 _ rfl w.heap.size 0 rfl [.string tx, .int .i64 n, .int .i64 tg, .bool th, .string via, .slice aA al.length aC, .slice dA dn.length dC, .slice uA us.length uC, .slice kA ks.length kC, .int .i64 d, .int .i64 x3, .int .i64 x4, .int .i64 x5, .int .i64 x6, .int .i64 x7, .int .i64 x8] _ (fun w0 hw0 => (XW4.out.below hw0).range) Tryz.underlying29 rfl size29) (by assumption) ?_
          try simp only [Act.put, List.setIfInBounds_toArray, List.set_cons_zero, List.set_cons_succ]
          refine wpAnyH_ready (rs := [4, 5, 6, 7]) (by kernel_rfl) (by simp) ?_
          refine AllReadyH.cons (o := oq16) rfl (fun KK hKK => ?_) ?_
          · refine step_alloc_new rfl 29 rfl z16 alloc29 ?_
            intro b9 y1 hx hb ht
            have S1 := Lib.hid (S0.out.ins [] [] hx hb ht)
            clear hx hb ht S0
            refine hKK.out _ _ (S1.out.bel) (fun hH1 => ?_)
            clear hKK KK
            try simp only [Act.put, List.setIfInBounds_toArray, List.set_cons_zero, List.set_cons_succ]
            refine wpAnyH_ready (rs := [5, 6, 7]) (by kernel_rfl) (by simp) ?_
            refine AllReadyH.cons (o := oq17) rfl (fun KK hKK => ?_) ?_
            · refine step_alloc_new rfl 29 rfl z16 alloc29 ?_
              intro b10 y2 hx hb ht
              have S2 := Lib.hid (S1.out.ins [b9] [] hx hb ht)
              clear hx hb ht S1
              refine hKK.out _ _ (S2.out.bel) (fun hH2 => ?_)
              clear hKK KK
              try simp only [Act.put, List.setIfInBounds_toArray, List.set_cons_zero, List.set_cons_succ]
              refine wpAnyH_ready (rs := [6, 7]) (by kernel_rfl) (by simp) ?_
              refine AllReadyH.cons (o := oq18) rfl (fun KK hKK => ?_) ?_
              · refine step_alloc_new rfl 29 rfl z16 alloc29 ?_
                intro b11 y3 hx hb ht
                have S3 := Lib.hid (S2.out.ins [b9, b10] [] hx hb ht)
                clear hx hb ht S2
                refine hKK.out _ _ (S3.out.bel) (fun hH3 => ?_)
                clear hKK KK
                try simp only [Act.put, List.setIfInBounds_toArray, List.set_cons_zero, List.set_cons_succ]
                refine wpAnyH_ready (rs := [7]) (by kernel_rfl) (by simp) ?_
                refine AllReadyH.cons (o := oq19) rfl (fun KK hKK => ?_) AllReadyH.nil
                refine step_alloc_new rfl 29 rfl z16 alloc29 ?_
                intro b12 y4 hx hb ht
                have S4 := Lib.hid (S3.out.ins [b9, b10, b11] [] hx hb ht)
                clear hx hb ht S3
                refine hKK.out _ _ (S4.out.bel) (fun hH4 => ?_)
                clear hKK KK
                try simp only [Act.put, List.setIfInBounds_toArray, List.set_cons_zero, List.set_cons_succ]
                refine wpAnyH_ready (rs := [8]) (by kernel_rfl) (by simp) ?_
                refine AllReadyH.cons (o := oq20) rfl (fun KK hKK => ?_) AllReadyH.nil
                have G4 := Lib.hid S4.out.g4
                refine step_store_blk rfl 29 _ _ rfl b9 z16 29 _ rfl rfl G4.out.xa rfl size29 (by simp [Value.oneCell']) ?_
                intro y5 hb hp
                have G5 := Lib.hid (G4.out.sa hb hp)
                clear hb hp G4
                refine hKK.out _ _ (G5.out.bel) (fun hH5 => ?_)
                clear hKK KK
                try simp only [Act.put, List.setIfInBounds_toArray, List.set_cons_zero, List.set_cons_succ]
                refine wpAnyH_ready (rs := [9]) (by kernel_rfl) (by simp) ?_
                refine AllReadyH.cons (o := oq21) rfl (fun KK hKK => ?_) AllReadyH.nil
                refine step_store_blk rfl 29 _ _ rfl b10 z16 29 _ rfl rfl G5.out.xb rfl size29 (by simp [Value.oneCell']) ?_
                intro y6 hb hp
                have G6 := Lib.hid (G5.out.sb hb hp)
                clear hb hp G5
                refine hKK.out _ _ (G6.out.bel) (fun hH6 => ?_)
                clear hKK KK
                try simp only [Act.put, List.setIfInBounds_toArray, List.set_cons_zero, List.set_cons_succ]
                refine wpAnyH_ready (rs := [10]) (by kernel_rfl) (by simp) ?_
                refine AllReadyH.cons (o := oq22) rfl (fun KK hKK => ?_) AllReadyH.nil
                refine step_store_blk rfl 29 _ _ rfl b11 z16 29 _ rfl rfl G6.out.xc rfl size29 (by simp [Value.oneCell']) ?_
                intro y7 hb hp
                have G7 := Lib.hid (G6.out.sc hb hp)
                clear hb hp G6
                refine hKK.out _ _ (G7.out.bel) (fun hH7 => ?_)
                clear hKK KK
                try simp only [Act.put, List.setIfInBounds_toArray, List.set_cons_zero, List.set_cons_succ]
                refine wpAnyH_ready (rs := [11]) (by kernel_rfl) (by simp) ?_
                refine AllReadyH.cons (o := oq23) rfl (fun KK hKK => ?_) AllReadyH.nil
                refine step_store_blk rfl 29 _ _ rfl b12 z16 29 _ rfl rfl G7.out.xd rfl size29 (by simp [Value.oneCell']) ?_
                intro y8 hb hp
                have G8 := Lib.hid (G7.out.sd hb hp)
                clear hb hp G7
                refine hKK.out _ _ (G8.out.bel) (fun hH8 => ?_)
                clear hKK KK
                try simp only [Act.put, List.setIfInBounds_toArray, List.set_cons_zero, List.set_cons_succ]
                refine wpAnyH_done (by kernel_rfl) ?_ _
                go_wp2_with (fail)
                go_meet
                exact ⟨_, _, _, _, rfl, rfl, rfl, rfl, Lib.hid G8.out.f4⟩
              refine AllReadyH.cons (o := oq19) rfl (fun KK hKK => ?_) AllReadyH.nil
              refine step_alloc_new rfl 29 rfl z16 alloc29 ?_
              intro b12 y3 hx hb ht
              have S3 := Lib.hid (S2.out.ins [b9, b10] [] hx hb ht)
              clear hx hb ht S2
              refine hKK.out _ _ (S3.out.bel) (fun hH3 => ?_)
              clear hKK KK
              try simp only [Act.put, List.setIfInBounds_toArray, List.set_cons_zero, List.set_cons_succ]
              refine wpAnyH_ready (rs := [6]) (by kernel_rfl) (by simp) ?_
              refine AllReadyH.cons (o := oq18) rfl (fun KK hKK => ?_) AllReadyH.nil
              refine step_alloc_new rfl 29 rfl z16 alloc29 ?_
              intro b11 y4 hx hb ht
              have S4 := Lib.hid (S3.out.ins [b9, b10] [b12] hx hb ht)
              clear hx hb ht S3
              refine hKK.out _ _ (S4.out.bel) (fun hH4 => ?_)
              clear hKK KK
              try simp only [Act.put, List.setIfInBounds_toArray, List.set_cons_zero, List.set_cons_succ]
              refine wpAnyH_ready (rs := [8]) (by kernel_rfl) (by simp) ?_
              refine AllReadyH.cons (o := oq20) rfl (fun KK hKK => ?_) AllReadyH.nil
              have G4 := Lib.hid S4.out.g4
              refine step_store_blk rfl 29 _ _ rfl b9 z16 29 _ rfl rfl G4.out.xa rfl size29 (by simp [Value.oneCell']) ?_
              intro y5 hb hp
              have G5 := Lib.hid (G4.out.sa hb hp)
              clear hb hp G4
              refine hKK.out _ _ (G5.out.bel) (fun hH5 => ?_)
              clear hKK KK
              try simp only [Act.put, List.setIfInBounds_toArray, List.set_cons_zero, List.set_cons_succ]
              refine wpAnyH_ready (rs := [9]) (by kernel_rfl) (by simp) ?_
              refine AllReadyH.cons (o := oq21) rfl (fun KK hKK => ?_) AllReadyH.nil
              refine step_store_blk rfl 29 _ _ rfl b10 z16 29 _ rfl rfl G5.out.xb rfl size29 (by simp [Value.oneCell']) ?_
              intro y6 hb hp
              have G6 := Lib.hid (G5.out.sb hb hp)
              clear hb hp G5
              refine hKK.out _ _ (G6.out.bel) (fun hH6 => ?_)
              clear hKK KK
              try simp only [Act.put, List.setIfInBounds_toArray, List.set_cons_zero, List.set_cons_succ]
              refine wpAnyH_ready (rs := [10]) (by kernel_rfl) (by simp) ?_
              refine AllReadyH.cons (o := oq22) rfl (fun KK hKK => ?_) AllReadyH.nil
              refine step_store_blk rfl 29 _ _ rfl b11 z16 29 _ rfl rfl G6.out.xc rfl size29 (by simp [Value.oneCell']) ?_
              intro y7 hb hp
              have G7 := Lib.hid (G6.out.sc hb hp)
              clear hb hp G6
              refine hKK.out _ _ (G7.out.bel) (fun hH7 => ?_)
              clear hKK KK
              try simp only [Act.put, List.setIfInBounds_toArray, List.set_cons_zero, List.set_cons_succ]
              refine wpAnyH_ready (rs := [11]) (by kernel_rfl) (by simp) ?_
              refine AllReadyH.cons (o := oq23) rfl (fun KK hKK => ?_) AllReadyH.nil
              refine step_store_blk rfl 29 _ _ rfl b12 z16 29 _ rfl rfl G7.out.xd rfl size29 (by simp [Value.oneCell']) ?_
              intro y8 hb hp
              have G8 := Lib.hid (G7.out.sd hb hp)
              clear hb hp G7
              refine hKK.out _ _ (G8.out.bel) (fun hH8 => ?_)
              clear hKK KK
              try simp only [Act.put, List.setIfInBounds_toArray, List.set_cons_zero, List.set_cons_succ]
              refine wpAnyH_done (by kernel_rfl) ?_ _
              go_wp2_with (fail)
              go_meet
              exact ⟨_, _, _, _, rfl, rfl, rfl, rfl, Lib.hid G8.out.f4⟩
            refine AllReadyH.cons (o := oq18) rfl (fun KK hKK => ?_) ?_
            · refine step_alloc_new rfl 29 rfl z16 alloc29 ?_
              intro b11 y2 hx hb ht
              have S2 := Lib.hid (S1.out.ins [b9] [] hx hb ht)
              clear hx hb ht S1
              refine hKK.out _ _ (S2.out.bel) (fun hH2 => ?_)
              clear hKK KK
              try simp only [Act.put, List.setIfInBounds_toArray, List.set_cons_zero, List.set_cons_succ]
              refine wpAnyH_ready (rs := [5, 7]) (by kernel_rfl) (by simp) ?_
              refine AllReadyH.cons (o := oq17) rfl (fun KK hKK => ?_) ?_
              · refine step_alloc_new rfl 29 rfl z16 alloc29 ?_
                intro b10 y3 hx hb ht
                have S3 := Lib.hid (S2.out.ins [b9] [b11] hx hb ht)
                clear hx hb ht S2
                refine hKK.out _ _ (S3.out.bel) (fun hH3 => ?_)
                clear hKK KK
                try simp only [Act.put, List.setIfInBounds_toArray, List.set_cons_zero, List.set_cons_succ]
                refine wpAnyH_ready (rs := [7]) (by kernel_rfl) (by simp) ?_
                refine AllReadyH.cons (o := oq19) rfl (fun KK hKK => ?_) AllReadyH.nil
                refine step_alloc_new rfl 29 rfl z16 alloc29 ?_
                intro b12 y4 hx hb ht
                have S4 := Lib.hid (S3.out.ins [b9, b10, b11] [] hx hb ht)
                clear hx hb ht S3
                refine hKK.out _ _ (S4.out.bel) (fun hH4 => ?_)
                clear hKK KK
                try simp only [Act.put, List.setIfInBounds_toArray, List.set_cons_zero, List.set_cons_succ]
                refine wpAnyH_ready (rs := [8]) (by kernel_rfl) (by simp) ?_
                refine AllReadyH.cons (o := oq20) rfl (fun KK hKK => ?_) AllReadyH.nil
                have G4 := Lib.hid S4.out.g4
                refine step_store_blk rfl 29 _ _ rfl b9 z16 29 _ rfl rfl G4.out.xa rfl size29 (by simp [Value.oneCell']) ?_
                intro y5 hb hp
                have G5 := Lib.hid (G4.out.sa hb hp)
                clear hb hp G4
                refine hKK.out _ _ (G5.out.bel) (fun hH5 => ?_)
                clear hKK KK
                try simp only [Act.put, List.setIfInBounds_toArray, List.set_cons_zero, List.set_cons_succ]
                refine wpAnyH_ready (rs := [9]) (by kernel_rfl) (by simp) ?_
                refine AllReadyH.cons (o := oq21) rfl (fun KK hKK => ?_) AllReadyH.nil
                refine step_store_blk rfl 29 _ _ rfl b10 z16 29 _ rfl rfl G5.out.xb rfl size29 (by simp [Value.oneCell']) ?_
                intro y6 hb hp
                have G6 := Lib.hid (G5.out.sb hb hp)
                clear hb hp G5
                refine hKK.out _ _ (G6.out.bel) (fun hH6 => ?_)
                clear hKK KK
                try simp only [Act.put, List.setIfInBounds_toArray, List.set_cons_zero, List.set_cons_succ]
                refine wpAnyH_ready (rs := [10]) (by kernel_rfl) (by simp) ?_
                refine AllReadyH.cons (o := oq22) rfl (fun KK hKK => ?_) AllReadyH.nil
                refine step_store_blk rfl 29 _ _ rfl b11 z16 29 _ rfl rfl G6.out.xc rfl size29 (by simp [Value.oneCell']) ?_
                intro y7 hb hp
                have G7 := Lib.hid (G6.out.sc hb hp)
                clear hb hp G6
                refine hKK.out _ _ (G7.out.bel) (fun hH7 => ?_)
                clear hKK KK
                try simp only [Act.put, List.setIfInBounds_toArray, List.set_cons_zero, List.set_cons_succ]
                refine wpAnyH_ready (rs := [11]) (by kernel_rfl) (by simp) ?_
                refine AllReadyH.cons (o := oq23) rfl (fun KK hKK => ?_) AllReadyH.nil
                refine step_store_blk rfl 29 _ _ rfl b12 z16 29 _ rfl rfl G7.out.xd rfl size29 (by simp [Value.oneCell']) ?_
                intro y8 hb hp
                have G8 := Lib.hid (G7.out.sd hb hp)
                clear hb hp G7
                refine hKK.out _ _ (G8.out.bel) (fun hH8 => ?_)
                clear hKK KK
                try simp only [Act.put, List.setIfInBounds_toArray, List.set_cons_zero, List.set_cons_succ]
                refine wpAnyH_done (by kernel_rfl) ?_ _
                go_wp2_with (fail)
                go_meet
                exact ⟨_, _, _, _, rfl, rfl, rfl, rfl, Lib.hid G8.out.f4⟩
              refine AllReadyH.cons (o := oq19) rfl (fun KK hKK => ?_) AllReadyH.nil
              refine step_alloc_new rfl 29 rfl z16 alloc29 ?_
              intro b12 y3 hx hb ht
              have S3 := Lib.hid (S2.out.ins [b9, b11] [] hx hb ht)
              clear hx hb ht S2
              refine hKK.out _ _ (S3.out.bel) (fun hH3 => ?_)
              clear hKK KK
              try simp only [Act.put, List.setIfInBounds_toArray, List.set_cons_zero, List.set_cons_succ]
              refine wpAnyH_ready (rs := [5]) (by kernel_rfl) (by simp) ?_
              refine AllReadyH.cons (o := oq17) rfl (fun KK hKK => ?_) AllReadyH.nil
              refine step_alloc_new rfl 29 rfl z16 alloc29 ?_
              intro b10 y4 hx hb ht
              have S4 := Lib.hid (S3.out.ins [b9] [b11, b12] hx hb ht)
              clear hx hb ht S3
              refine hKK.out _ _ (S4.out.bel) (fun hH4 => ?_)
              clear hKK KK
              try simp only [Act.put, List.setIfInBounds_toArray, List.set_cons_zero, List.set_cons_succ]
              refine wpAnyH_ready (rs := [8]) (by kernel_rfl) (by simp) ?_
              refine AllReadyH.cons (o := oq20) rfl (fun KK hKK => ?_) AllReadyH.nil
              have G4 := Lib.hid S4.out.g4
              refine step_store_blk rfl 29 _ _ rfl b9 z16 29 _ rfl rfl G4.out.xa rfl size29 (by simp [Value.oneCell']) ?_
              intro y5 hb hp
              have G5 := Lib.hid (G4.out.sa hb hp)
              clear hb hp G4
              refine hKK.out _ _ (G5.out.bel) (fun hH5 => ?_)
              clear hKK KK
              try simp only [Act.put, List.setIfInBounds_toArray, List.set_cons_zero, List.set_cons_succ]
              refine wpAnyH_ready (rs := [9]) (by kernel_rfl) (by simp) ?_
              refine AllReadyH.cons (o := oq21) rfl (fun KK hKK => ?_) AllReadyH.nil
              refine step_store_blk rfl 29 _ _ rfl b10 z16 29 _ rfl rfl G5.out.xb rfl size29 (by simp [Value.oneCell']) ?_
              intro y6 hb hp
              have G6 := Lib.hid (G5.out.sb hb hp)
              clear hb hp G5
              refine hKK.out _ _ (G6.out.bel) (fun hH6 => ?_)
              clear hKK KK
              try simp only [Act.put, List.setIfInBounds_toArray, List.set_cons_zero, List.set_cons_succ]
              refine wpAnyH_ready (rs := [10]) (by kernel_rfl) (by simp) ?_
              refine AllReadyH.cons (o := oq22) rfl (fun KK hKK => ?_) AllReadyH.nil
              refine step_store_blk rfl 29 _ _ rfl b11 z16 29 _ rfl rfl G6.out.xc rfl size29 (by simp [Value.oneCell']) ?_
              intro y7 hb hp
              have G7 := Lib.hid (G6.out.sc hb hp)
              clear hb hp G6
              refine hKK.out _ _ (G7.out.bel) (fun hH7 => ?_)
              clear hKK KK
              try simp only [Act.put, List.setIfInBounds_toArray, List.set_cons_zero, List.set_cons_succ]
              refine wpAnyH_ready (rs := [11]) (by kernel_rfl) (by simp) ?_
              refine AllReadyH.cons (o := oq23) rfl (fun KK hKK => ?_) AllReadyH.nil
              refine step_store_blk rfl 29 _ _ rfl b12 z16 29 _ rfl rfl G7.out.xd rfl size29 (by simp [Value.oneCell']) ?_
              intro y8 hb hp
              have G8 := Lib.hid (G7.out.sd hb hp)
              clear hb hp G7
              refine hKK.out _ _ (G8.out.bel) (fun hH8 => ?_)
              clear hKK KK
              try simp only [Act.put, List.setIfInBounds_toArray, List.set_cons_zero, List.set_cons_succ]
              refine wpAnyH_done (by kernel_rfl) ?_ _
              go_wp2_with (fail)
              go_meet
              exact ⟨_, _, _, _, rfl, rfl, rfl, rfl, Lib.hid G8.out.f4⟩
            refine AllReadyH.cons (o := oq19) rfl (fun KK hKK => ?_) AllReadyH.nil
            refine step_alloc_new rfl 29 rfl z16 alloc29 ?_
            intro b12 y2 hx hb ht
            have S2 := Lib.hid (S1.out.ins [b9] [] hx hb ht)
            clear hx hb ht S1
            refine hKK.out _ _ (S2.out.bel) (fun hH2 => ?_)
            clear hKK KK
            try simp only [Act.put, List.setIfInBounds_toArray, List.set_cons_zero, List.set_cons_succ]
            refine wpAnyH_ready (rs := [5, 6]) (by kernel_rfl) (by simp) ?_
            refine AllReadyH.cons (o := oq17) rfl (fun KK hKK => ?_) ?_
            · refine step_alloc_new rfl 29 rfl z16 alloc29 ?_
              intro b10 y3 hx hb ht
              have S3 := Lib.hid (S2.out.ins [b9] [b12] hx hb ht)
              clear hx hb ht S2
              refine hKK.out _ _ (S3.out.bel) (fun hH3 => ?_)
              clear hKK KK
              try simp only [Act.put, List.setIfInBounds_toArray, List.set_cons_zero, List.set_cons_succ]
              refine wpAnyH_ready (rs := [6]) (by kernel_rfl) (by simp) ?_
              refine AllReadyH.cons (o := oq18) rfl (fun KK hKK => ?_) AllReadyH.nil
              refine step_alloc_new rfl 29 rfl z16 alloc29 ?_
              intro b11 y4 hx hb ht
              have S4 := Lib.hid (S3.out.ins [b9, b10] [b12] hx hb ht)
              clear hx hb ht S3
              refine hKK.out _ _ (S4.out.bel) (fun hH4 => ?_)
              clear hKK KK
              try simp only [Act.put, List.setIfInBounds_toArray, List.set_cons_zero, List.set_cons_succ]
              refine wpAnyH_ready (rs := [8]) (by kernel_rfl) (by simp) ?_
              refine AllReadyH.cons (o := oq20) rfl (fun KK hKK => ?_) AllReadyH.nil
              have G4 := Lib.hid S4.out.g4
              refine step_store_blk rfl 29 _ _ rfl b9 z16 29 _ rfl rfl G4.out.xa rfl size29 (by simp [Value.oneCell']) ?_
              intro y5 hb hp
              have G5 := Lib.hid (G4.out.sa hb hp)
              clear hb hp G4
              refine hKK.out _ _ (G5.out.bel) (fun hH5 => ?_)
              clear hKK KK
              try simp only [Act.put, List.setIfInBounds_toArray, List.set_cons_zero, List.set_cons_succ]
              refine wpAnyH_ready (rs := [9]) (by kernel_rfl) (by simp) ?_
              refine AllReadyH.cons (o := oq21) rfl (fun KK hKK => ?_) AllReadyH.nil
              refine step_store_blk rfl 29 _ _ rfl b10 z16 29 _ rfl rfl G5.out.xb rfl size29 (by simp [Value.oneCell']) ?_
              intro y6 hb hp
              have G6 := Lib.hid (G5.out.sb hb hp)
              clear hb hp G5
              refine hKK.out _ _ (G6.out.bel) (fun hH6 => ?_)
              clear hKK KK
              try simp only [Act.put, List.setIfInBounds_toArray, List.set_cons_zero, List.set_cons_succ]
              refine wpAnyH_ready (rs := [10]) (by kernel_rfl) (by simp) ?_
              refine AllReadyH.cons (o := oq22) rfl (fun KK hKK => ?_) AllReadyH.nil
              refine step_store_blk rfl 29 _ _ rfl b11 z16 29 _ rfl rfl G6.out.xc rfl size29 (by simp [Value.oneCell']) ?_
              intro y7 hb hp
              have G7 := Lib.hid (G6.out.sc hb hp)
              clear hb hp G6
              refine hKK.out _ _ (G7.out.bel) (fun hH7 => ?_)
              clear hKK KK
              try simp only [Act.put, List.setIfInBounds_toArray, List.set_cons_zero, List.set_cons_succ]
              refine wpAnyH_ready (rs := [11]) (by kernel_rfl) (by simp) ?_
              refine AllReadyH.cons (o := oq23) rfl (fun KK hKK => ?_) AllReadyH.nil
              refine step_store_blk rfl 29 _ _ rfl b12 z16 29 _ rfl rfl G7.out.xd rfl size29 (by simp [Value.oneCell']) ?_
              intro y8 hb hp
              have G8 := Lib.hid (G7.out.sd hb hp)
              clear hb hp G7
              refine hKK.out _ _ (G8.out.bel) (fun hH8 => ?_)
              clear hKK KK
              try simp only [Act.put, List.setIfInBounds_toArray, List.set_cons_zero, List.set_cons_succ]
              refine wpAnyH_done (by kernel_rfl) ?_ _
              go_wp2_with (fail)
              go_meet
              exact ⟨_, _, _, _, rfl, rfl, rfl, rfl, Lib.hid G8.out.f4⟩
            refine AllReadyH.cons (o := oq18) rfl (fun KK hKK => ?_) AllReadyH.nil
            refine step_alloc_new rfl 29 rfl z16 alloc29 ?_
            intro b11 y3 hx hb ht
            have S3 := Lib.hid (S2.out.ins [b9] [b12] hx hb ht)
            clear hx hb ht S2
            refine hKK.out _ _ (S3.out.bel) (fun hH3 => ?_)
            clear hKK KK
            try simp only [Act.put, List.setIfInBounds_toArray, List.set_cons_zero, List.set_cons_succ]
            refine wpAnyH_ready (rs := [5]) (by kernel_rfl) (by simp) ?_
            refine AllReadyH.cons (o := oq17) rfl (fun KK hKK => ?_) AllReadyH.nil
            refine step_alloc_new rfl 29 rfl z16 alloc29 ?_
            intro b10 y4 hx hb ht
            have S4 := Lib.hid (S3.out.ins [b9] [b11, b12] hx hb ht)
            clear hx hb ht S3
            refine hKK.out _ _ (S4.out.bel) (fun hH4 => ?_)
            clear hKK KK
            try simp only [Act.put, List.setIfInBounds_toArray, List.set_cons_zero, List.set_cons_succ]
            refine wpAnyH_ready (rs := [8]) (by kernel_rfl) (by simp) ?_
            refine AllReadyH.cons (o := oq20) rfl (fun KK hKK => ?_) AllReadyH.nil
            have G4 := Lib.hid S4.out.g4
            refine step_store_blk rfl 29 _ _ rfl b9 z16 29 _ rfl rfl G4.out.xa rfl size29 (by simp [Value.oneCell']) ?_
            intro y5 hb hp
            have G5 := Lib.hid (G4.out.sa hb hp)
            clear hb hp G4
            refine hKK.out _ _ (G5.out.bel) (fun hH5 => ?_)
            clear hKK KK
            try simp only [Act.put, List.setIfInBounds_toArray, List.set_cons_zero, List.set_cons_succ]
            refine wpAnyH_ready (rs := [9]) (by kernel_rfl) (by simp) ?_
            refine AllReadyH.cons (o := oq21) rfl (fun KK hKK => ?_) AllReadyH.nil
            refine step_store_blk rfl 29 _ _ rfl b10 z16 29 _ rfl rfl G5.out.xb rfl size29 (by simp [Value.oneCell']) ?_
            intro y6 hb hp
            have G6 := Lib.hid (G5.out.sb hb hp)
            clear hb hp G5
            refine hKK.out _ _ (G6.out.bel) (fun hH6 => ?_)
            clear hKK KK
            try simp only [Act.put, List.setIfInBounds_toArray, List.set_cons_zero, List.set_cons_succ]
            refine wpAnyH_ready (rs := [10]) (by kernel_rfl) (by simp) ?_
            refine AllReadyH.cons (o := oq22) rfl (fun KK hKK => ?_) AllReadyH.nil
            refine step_store_blk rfl 29 _ _ rfl b11 z16 29 _ rfl rfl G6.out.xc rfl size29 (by simp [Value.oneCell']) ?_
            intro y7 hb hp
            have G7 := Lib.hid (G6.out.sc hb hp)
            clear hb hp G6
            refine hKK.out _ _ (G7.out.bel) (fun hH7 => ?_)
            clear hKK KK
            try simp only [Act.put, List.setIfInBounds_toArray, List.set_cons_zero, List.set_cons_succ]
            refine wpAnyH_ready (rs := [11]) (by kernel_rfl) (by simp) ?_
            refine AllReadyH.cons (o := oq23) rfl (fun KK hKK => ?_) AllReadyH.nil
            refine step_store_blk rfl 29 _ _ rfl b12 z16 29 _ rfl rfl G7.out.xd rfl size29 (by simp [Value.oneCell']) ?_
            intro y8 hb hp
            have G8 := Lib.hid (G7.out.sd hb hp)
            clear hb hp G7
            refine hKK.out _ _ (G8.out.bel) (fun hH8 => ?_)
            clear hKK KK
            try simp only [Act.put, List.setIfInBounds_toArray, List.set_cons_zero, List.set_cons_succ]
            refine wpAnyH_done (by kernel_rfl) ?_ _
            go_wp2_with (fail)
            go_meet
            exact ⟨_, _, _, _, rfl, rfl, rfl, rfl, Lib.hid G8.out.f4⟩
          refine AllReadyH.cons (o := oq17) rfl (fun KK hKK => ?_) ?_
          · refine step_alloc_new rfl 29 rfl z16 alloc29 ?_
            intro b10 y1 hx hb ht
            have S1 := Lib.hid (S0.out.ins [] [] hx hb ht)
            clear hx hb ht S0
            refine hKK.out _ _ (S1.out.bel) (fun hH1 => ?_)
            clear hKK KK
            try simp only [Act.put, List.setIfInBounds_toArray, List.set_cons_zero, List.set_cons_succ]
            refine wpAnyH_ready (rs := [4, 6, 7]) (by kernel_rfl) (by simp) ?_
            refine AllReadyH.cons (o := oq16) rfl (fun KK hKK => ?_) ?_
            · refine step_alloc_new rfl 29 rfl z16 alloc29 ?_
              intro b9 y2 hx hb ht
              have S2 := Lib.hid (S1.out.ins [] [b10] hx hb ht)
              clear hx hb ht S1
              refine hKK.out _ _ (S2.out.bel) (fun hH2 => ?_)
              clear hKK KK
              try simp only [Act.put, List.setIfInBounds_toArray, List.set_cons_zero, List.set_cons_succ]
              refine wpAnyH_ready (rs := [6, 7]) (by kernel_rfl) (by simp) ?_
              refine AllReadyH.cons (o := oq18) rfl (fun KK hKK => ?_) ?_
              · refine step_alloc_new rfl 29 rfl z16 alloc29 ?_
                intro b11 y3 hx hb ht
                have S3 := Lib.hid (S2.out.ins [b9, b10] [] hx hb ht)
                clear hx hb ht S2
                refine hKK.out _ _ (S3.out.bel) (fun hH3 => ?_)
                clear hKK KK
                try simp only [Act.put, List.setIfInBounds_toArray, List.set_cons_zero, List.set_cons_succ]
                refine wpAnyH_ready (rs := [7]) (by kernel_rfl) (by simp) ?_
                refine AllReadyH.cons (o := oq19) rfl (fun KK hKK => ?_) AllReadyH.nil
                refine step_alloc_new rfl 29 rfl z16 alloc29 ?_
                intro b12 y4 hx hb ht
                have S4 := Lib.hid (S3.out.ins [b9, b10, b11] [] hx hb ht)
                clear hx hb ht S3
                refine hKK.out _ _ (S4.out.bel) (fun hH4 => ?_)
                clear hKK KK
                try simp only [Act.put, List.setIfInBounds_toArray, List.set_cons_zero, List.set_cons_succ]
                refine wpAnyH_ready (rs := [8]) (by kernel_rfl) (by simp) ?_
                refine AllReadyH.cons (o := oq20) rfl (fun KK hKK => ?_) AllReadyH.nil
                have G4 := Lib.hid S4.out.g4
                refine step_store_blk rfl 29 _ _ rfl b9 z16 29 _ rfl rfl G4.out.xa rfl size29 (by simp [Value.oneCell']) ?_
                intro y5 hb hp
                have G5 := Lib.hid (G4.out.sa hb hp)
                clear hb hp G4
                refine hKK.out _ _ (G5.out.bel) (fun hH5 => ?_)
                clear hKK KK
                try simp only [Act.put, List.setIfInBounds_toArray, List.set_cons_zero, List.set_cons_succ]
                refine wpAnyH_ready (rs := [9]) (by kernel_rfl) (by simp) ?_
                refine AllReadyH.cons (o := oq21) rfl (fun KK hKK => ?_) AllReadyH.nil
                refine step_store_blk rfl 29 _ _ rfl b10 z16 29 _ rfl rfl G5.out.xb rfl size29 (by simp [Value.oneCell']) ?_
                intro y6 hb hp
                have G6 := Lib.hid (G5.out.sb hb hp)
                clear hb hp G5
                refine hKK.out _ _ (G6.out.bel) (fun hH6 => ?_)
                clear hKK KK
                try simp only [Act.put, List.setIfInBounds_toArray, List.set_cons_zero, List.set_cons_succ]
                refine wpAnyH_ready (rs := [10]) (by kernel_rfl) (by simp) ?_
                refine AllReadyH.cons (o := oq22) rfl (fun KK hKK => ?_) AllReadyH.nil
                refine step_store_blk rfl 29 _ _ rfl b11 z16 29 _ rfl rfl G6.out.xc rfl size29 (by simp [Value.oneCell']) ?_
                intro y7 hb hp
                have G7 := Lib.hid (G6.out.sc hb hp)
                clear hb hp G6
                refine hKK.out _ _ (G7.out.bel) (fun hH7 => ?_)
                clear hKK KK
                try simp only [Act.put, List.setIfInBounds_toArray, List.set_cons_zero, List.set_cons_succ]
                refine wpAnyH_ready (rs := [11]) (by kernel_rfl) (by simp) ?_
                refine AllReadyH.cons (o := oq23) rfl (fun KK hKK => ?_) AllReadyH.nil
                refine step_store_blk rfl 29 _ _ rfl b12 z16 29 _ rfl rfl G7.out.xd rfl size29 (by simp [Value.oneCell']) ?_
                intro y8 hb hp
                have G8 := Lib.hid (G7.out.sd hb hp)
                clear hb hp G7
                refine hKK.out _ _ (G8.out.bel) (fun hH8 => ?_)
                clear hKK KK
                try simp only [Act.put, List.setIfInBounds_toArray, List.set_cons_zero, List.set_cons_succ]
                refine wpAnyH_done (by kernel_rfl) ?_ _
                go_wp2_with (fail)
                go_meet
                exact ⟨_, _, _, _, rfl, rfl, rfl, rfl, Lib.hid G8.out.f4⟩
              refine AllReadyH.cons (o := oq19) rfl (fun KK hKK => ?_) AllReadyH.nil
              refine step_alloc_new rfl 29 rfl z16 alloc29 ?_
              intro b12 y3 hx hb ht
              have S3 := Lib.hid (S2.out.ins [b9, b10] [] hx hb ht)
              clear hx hb ht S2
              refine hKK.out _ _ (S3.out.bel) (fun hH3 => ?_)
              clear hKK KK
              try simp only [Act.put, List.setIfInBounds_toArray, List.set_cons_zero, List.set_cons_succ]
              refine wpAnyH_ready (rs := [6]) (by kernel_rfl) (by simp) ?_
              refine AllReadyH.cons (o := oq18) rfl (fun KK hKK => ?_) AllReadyH.nil
              refine step_alloc_new rfl 29 rfl z16 alloc29 ?_
              intro b11 y4 hx hb ht
              have S4 := Lib.hid (S3.out.ins [b9, b10] [b12] hx hb ht)
              clear hx hb ht S3
              refine hKK.out _ _ (S4.out.bel) (fun hH4 => ?_)
              clear hKK KK
              try simp only [Act.put, List.setIfInBounds_toArray, List.set_cons_zero, List.set_cons_succ]
              refine wpAnyH_ready (rs := [8]) (by kernel_rfl) (by simp) ?_
              refine AllReadyH.cons (o := oq20) rfl (fun KK hKK => ?_) AllReadyH.nil
              have G4 := Lib.hid S4.out.g4
              refine step_store_blk rfl 29 _ _ rfl b9 z16 29 _ rfl rfl G4.out.xa rfl size29 (by simp [Value.oneCell']) ?_
              intro y5 hb hp
              have G5 := Lib.hid (G4.out.sa hb hp)
              clear hb hp G4
              refine hKK.out _ _ (G5.out.bel) (fun hH5 => ?_)
              clear hKK KK
              try simp only [Act.put, List.setIfInBounds_toArray, List.set_cons_zero, List.set_cons_succ]
              refine wpAnyH_ready (rs := [9]) (by kernel_rfl) (by simp) ?_
              refine AllReadyH.cons (o := oq21) rfl (fun KK hKK => ?_) AllReadyH.nil
              refine step_store_blk rfl 29 _ _ rfl b10 z16 29 _ rfl rfl G5.out.xb rfl size29 (by simp [Value.oneCell']) ?_
              intro y6 hb hp
              have G6 := Lib.hid (G5.out.sb hb hp)
              clear hb hp G5
              refine hKK.out _ _ (G6.out.bel) (fun hH6 => ?_)
              clear hKK KK
              try simp only [Act.put, List.setIfInBounds_toArray, List.set_cons_zero, List.set_cons_succ]
              refine wpAnyH_ready (rs := [10]) (by kernel_rfl) (by simp) ?_
              refine AllReadyH.cons (o := oq22) rfl (fun KK hKK => ?_) AllReadyH.nil
              refine step_store_blk rfl 29 _ _ rfl b11 z16 29 _ rfl rfl G6.out.xc rfl size29 (by simp [Value.oneCell']) ?_
              intro y7 hb hp
              have G7 := Lib.hid (G6.out.sc hb hp)
              clear hb hp G6
              refine hKK.out _ _ (G7.out.bel) (fun hH7 => ?_)
              clear hKK KK
              try simp only [Act.put, List.setIfInBounds_toArray, List.set_cons_zero, List.set_cons_succ]
              refine wpAnyH_ready (rs := [11]) (by kernel_rfl) (by simp) ?_
              refine AllReadyH.cons (o := oq23) rfl (fun KK hKK => ?_) AllReadyH.nil
              refine step_store_blk rfl 29 _ _ rfl b12 z16 29 _ rfl rfl G7.out.xd rfl size29 (by simp [Value.oneCell']) ?_
              intro y8 hb hp
              have G8 := Lib.hid (G7.out.sd hb hp)
              clear hb hp G7
              refine hKK.out _ _ (G8.out.bel) (fun hH8 => ?_)
              clear hKK KK
              try simp only [Act.put, List.setIfInBounds_toArray, List.set_cons_zero, List.set_cons_succ]
              refine wpAnyH_done (by kernel_rfl) ?_ _
              go_wp2_with (fail)
              go_meet
              exact ⟨_, _, _, _, rfl, rfl, rfl, rfl, Lib.hid G8.out.f4⟩
            refine AllReadyH.cons (o := oq18) rfl (fun KK hKK => ?_) ?_
            · refine step_alloc_new rfl 29 rfl z16 alloc29 ?_
              intro b11 y2 hx hb ht
              have S2 := Lib.hid (S1.out.ins [b10] [] hx hb ht)
              clear hx hb ht S1
              refine hKK.out _ _ (S2.out.bel) (fun hH2 => ?_)
              clear hKK KK
              try simp only [Act.put, List.setIfInBounds_toArray, List.set_cons_zero, List.set_cons_succ]
              refine wpAnyH_ready (rs := [4, 7]) (by kernel_rfl) (by simp) ?_
              refine AllReadyH.cons (o := oq16) rfl (fun KK hKK => ?_) ?_
              · refine step_alloc_new rfl 29 rfl z16 alloc29 ?_
                intro b9 y3 hx hb ht
                have S3 := Lib.hid (S2.out.ins [] [b10, b11] hx hb ht)
                clear hx hb ht S2
                refine hKK.out _ _ (S3.out.bel) (fun hH3 => ?_)
                clear hKK KK
                try simp only [Act.put, List.setIfInBounds_toArray, List.set_cons_zero, List.set_cons_succ]
                refine wpAnyH_ready (rs := [7]) (by kernel_rfl) (by simp) ?_
                refine AllReadyH.cons (o := oq19) rfl (fun KK hKK => ?_) AllReadyH.nil
                refine step_alloc_new rfl 29 rfl z16 alloc29 ?_
                intro b12 y4 hx hb ht
                have S4 := Lib.hid (S3.out.ins [b9, b10, b11] [] hx hb ht)
                clear hx hb ht S3
                refine hKK.out _ _ (S4.out.bel) (fun hH4 => ?_)
                clear hKK KK
                try simp only [Act.put, List.setIfInBounds_toArray, List.set_cons_zero, List.set_cons_succ]
                refine wpAnyH_ready (rs := [8]) (by kernel_rfl) (by simp) ?_
                refine AllReadyH.cons (o := oq20) rfl (fun KK hKK => ?_) AllReadyH.nil
                have G4 := Lib.hid S4.out.g4
                refine step_store_blk rfl 29 _ _ rfl b9 z16 29 _ rfl rfl G4.out.xa rfl size29 (by simp [Value.oneCell']) ?_
                intro y5 hb hp
                have G5 := Lib.hid (G4.out.sa hb hp)
                clear hb hp G4
                refine hKK.out _ _ (G5.out.bel) (fun hH5 => ?_)
                clear hKK KK
                try simp only [Act.put, List.setIfInBounds_toArray, List.set_cons_zero, List.set_cons_succ]
                refine wpAnyH_ready (rs := [9]) (by kernel_rfl) (by simp) ?_
                refine AllReadyH.cons (o := oq21) rfl (fun KK hKK => ?_) AllReadyH.nil
                refine step_store_blk rfl 29 _ _ rfl b10 z16 29 _ rfl rfl G5.out.xb rfl size29 (by simp [Value.oneCell']) ?_
                intro y6 hb hp
                have G6 := Lib.hid (G5.out.sb hb hp)
                clear hb hp G5
                refine hKK.out _ _ (G6.out.bel) (fun hH6 => ?_)
                clear hKK KK
                try simp only [Act.put, List.setIfInBounds_toArray, List.set_cons_zero, List.set_cons_succ]
                refine wpAnyH_ready (rs := [10]) (by kernel_rfl) (by simp) ?_
                refine AllReadyH.cons (o := oq22) rfl (fun KK hKK => ?_) AllReadyH.nil
                refine step_store_blk rfl 29 _ _ rfl b11 z16 29 _ rfl rfl G6.out.xc rfl size29 (by simp [Value.oneCell']) ?_
                intro y7 hb hp
                have G7 := Lib.hid (G6.out.sc hb hp)
                clear hb hp G6
                refine hKK.out _ _ (G7.out.bel) (fun hH7 => ?_)
                clear hKK KK
                try simp only [Act.put, List.setIfInBounds_toArray, List.set_cons_zero, List.set_cons_succ]
                refine wpAnyH_ready (rs := [11]) (by kernel_rfl) (by simp) ?_
                refine AllReadyH.cons (o := oq23) rfl (fun KK hKK => ?_) AllReadyH.nil
                refine step_store_blk rfl 29 _ _ rfl b12 z16 29 _ rfl rfl G7.out.xd rfl size29 (by simp [Value.oneCell']) ?_
                intro y8 hb hp
                have G8 := Lib.hid (G7.out.sd hb hp)
                clear hb hp G7
                refine hKK.out _ _ (G8.out.bel) (fun hH8 => ?_)
                clear hKK KK
                try simp only [Act.put, List.setIfInBounds_toArray, List.set_cons_zero, List.set_cons_succ]
                refine wpAnyH_done (by kernel_rfl) ?_ _
                go_wp2_with (fail)
                go_meet
                exact ⟨_, _, _, _, rfl, rfl, rfl, rfl, Lib.hid G8.out.f4⟩
              refine AllReadyH.cons (o := oq19) rfl (fun KK hKK => ?_) AllReadyH.nil
              refine step_alloc_new rfl 29 rfl z16 alloc29 ?_
              intro b12 y3 hx hb ht
              have S3 := Lib.hid (S2.out.ins [b10, b11] [] hx hb ht)
              clear hx hb ht S2
              refine hKK.out _ _ (S3.out.bel) (fun hH3 => ?_)
              clear hKK KK
              try simp only [Act.put, List.setIfInBounds_toArray, List.set_cons_zero, List.set_cons_succ]
              refine wpAnyH_ready (rs := [4]) (by kernel_rfl) (by simp) ?_
              refine AllReadyH.cons (o := oq16) rfl (fun KK hKK => ?_) AllReadyH.nil
              refine step_alloc_new rfl 29 rfl z16 alloc29 ?_
              intro b9 y4 hx hb ht
              have S4 := Lib.hid (S3.out.ins [] [b10, b11, b12] hx hb ht)
              clear hx hb ht S3
              refine hKK.out _ _ (S4.out.bel) (fun hH4 => ?_)
              clear hKK KK
              try simp only [Act.put, List.setIfInBounds_toArray, List.set_cons_zero, List.set_cons_succ]
              refine wpAnyH_ready (rs := [8]) (by kernel_rfl) (by simp) ?_
              refine AllReadyH.cons (o := oq20) rfl (fun KK hKK => ?_) AllReadyH.nil
              have G4 := Lib.hid S4.out.g4
              refine step_store_blk rfl 29 _ _ rfl b9 z16 29 _ rfl rfl G4.out.xa rfl size29 (by simp [Value.oneCell']) ?_
              intro y5 hb hp
              have G5 := Lib.hid (G4.out.sa hb hp)
              clear hb hp G4
              refine hKK.out _ _ (G5.out.bel) (fun hH5 => ?_)
              clear hKK KK
              try simp only [Act.put, List.setIfInBounds_toArray, List.set_cons_zero, List.set_cons_succ]
              refine wpAnyH_ready (rs := [9]) (by kernel_rfl) (by simp) ?_
              refine AllReadyH.cons (o := oq21) rfl (fun KK hKK => ?_) AllReadyH.nil
              refine step_store_blk rfl 29 _ _ rfl b10 z16 29 _ rfl rfl G5.out.xb rfl size29 (by simp [Value.oneCell']) ?_
              intro y6 hb hp
              have G6 := Lib.hid (G5.out.sb hb hp)
              clear hb hp G5
              refine hKK.out _ _ (G6.out.bel) (fun hH6 => ?_)
              clear hKK KK
              try simp only [Act.put, List.setIfInBounds_toArray, List.set_cons_zero, List.set_cons_succ]
              refine wpAnyH_ready (rs := [10]) (by kernel_rfl) (by simp) ?_
              refine AllReadyH.cons (o := oq22) rfl (fun KK hKK => ?_) AllReadyH.nil
              refine step_store_blk rfl 29 _ _ rfl b11 z16 29 _ rfl rfl G6.out.xc rfl size29 (by simp [Value.oneCell']) ?_
              intro y7 hb hp
              have G7 := Lib.hid (G6.out.sc hb hp)
              clear hb hp G6
              refine hKK.out _ _ (G7.out.bel) (fun hH7 => ?_)
              clear hKK KK
              try simp only [Act.put, List.setIfInBounds_toArray, List.set_cons_zero, List.set_cons_succ]
              refine wpAnyH_ready (rs := [11]) (by kernel_rfl) (by simp) ?_
              refine AllReadyH.cons (o := oq23) rfl (fun KK hKK => ?_) AllReadyH.nil
              refine step_store_blk rfl 29 _ _ rfl b12 z16 29 _ rfl rfl G7.out.xd rfl size29 (by simp [Value.oneCell']) ?_
              intro y8 hb hp
              have G8 := Lib.hid (G7.out.sd hb hp)
              clear hb hp G7
              refine hKK.out _ _ (G8.out.bel) (fun hH8 => ?_)
              clear hKK KK
              try simp only [Act.put, List.setIfInBounds_toArray, List.set_cons_zero, List.set_cons_succ]
              refine wpAnyH_done (by kernel_rfl) ?_ _
              go_wp2_with (fail)
              go_meet
              exact ⟨_, _, _, _, rfl, rfl, rfl, rfl, Lib.hid G8.out.f4⟩
            refine AllReadyH.cons (o := oq19) rfl (fun KK hKK => ?_) AllReadyH.nil
            refine step_alloc_new rfl 29 rfl z16 alloc29 ?_
            intro b12 y2 hx hb ht
            have S2 := Lib.hid (S1.out.ins [b10] [] hx hb ht)
            clear hx hb ht S1
            refine hKK.out _ _ (S2.out.bel) (fun hH2 => ?_)
            clear hKK KK
            try simp only [Act.put, List.setIfInBounds_toArray, List.set_cons_zero, List.set_cons_succ]
            refine wpAnyH_ready (rs := [4, 6]) (by kernel_rfl) (by simp) ?_
            refine AllReadyH.cons (o := oq16) rfl (fun KK hKK => ?_) ?_
            · refine step_alloc_new rfl 29 rfl z16 alloc29 ?_
              intro b9 y3 hx hb ht
              have S3 := Lib.hid (S2.out.ins [] [b10, b12] hx hb ht)
              clear hx hb ht S2
              refine hKK.out _ _ (S3.out.bel) (fun hH3 => ?_)
              clear hKK KK
              try simp only [Act.put, List.setIfInBounds_toArray, List.set_cons_zero, List.set_cons_succ]
              refine wpAnyH_ready (rs := [6]) (by kernel_rfl) (by simp) ?_
              refine AllReadyH.cons (o := oq18) rfl (fun KK hKK => ?_) AllReadyH.nil
              refine step_alloc_new rfl 29 rfl z16 alloc29 ?_
              intro b11 y4 hx hb ht
              have S4 := Lib.hid (S3.out.ins [b9, b10] [b12] hx hb ht)
              clear hx hb ht S3
              refine hKK.out _ _ (S4.out.bel) (fun hH4 => ?_)
              clear hKK KK
              try simp only [Act.put, List.setIfInBounds_toArray, List.set_cons_zero, List.set_cons_succ]
              refine wpAnyH_ready (rs := [8]) (by kernel_rfl) (by simp) ?_
              refine AllReadyH.cons (o := oq20) rfl (fun KK hKK => ?_) AllReadyH.nil
              have G4 := Lib.hid S4.out.g4
              refine step_store_blk rfl 29 _ _ rfl b9 z16 29 _ rfl rfl G4.out.xa rfl size29 (by simp [Value.oneCell']) ?_
              intro y5 hb hp
              have G5 := Lib.hid (G4.out.sa hb hp)
              clear hb hp G4
              refine hKK.out _ _ (G5.out.bel) (fun hH5 => ?_)
              clear hKK KK
              try simp only [Act.put, List.setIfInBounds_toArray, List.set_cons_zero, List.set_cons_succ]
              refine wpAnyH_ready (rs := [9]) (by kernel_rfl) (by simp) ?_
              refine AllReadyH.cons (o := oq21) rfl (fun KK hKK => ?_) AllReadyH.nil
              refine step_store_blk rfl 29 _ _ rfl b10 z16 29 _ rfl rfl G5.out.xb rfl size29 (by simp [Value.oneCell']) ?_
              intro y6 hb hp
              have G6 := Lib.hid (G5.out.sb hb hp)
              clear hb hp G5
              refine hKK.out _ _ (G6.out.bel) (fun hH6 => ?_)
              clear hKK KK
              try simp only [Act.put, List.setIfInBounds_toArray, List.set_cons_zero, List.set_cons_succ]
              refine wpAnyH_ready (rs := [10]) (by kernel_rfl) (by simp) ?_
              refine AllReadyH.cons (o := oq22) rfl (fun KK hKK => ?_) AllReadyH.nil
              refine step_store_blk rfl 29 _ _ rfl b11 z16 29 _ rfl rfl G6.out.xc rfl size29 (by simp [Value.oneCell']) ?_
              intro y7 hb hp
              have G7 := Lib.hid (G6.out.sc hb hp)
              clear hb hp G6
              refine hKK.out _ _ (G7.out.bel) (fun hH7 => ?_)
              clear hKK KK
              try simp only [Act.put, List.setIfInBounds_toArray, List.set_cons_zero, List.set_cons_succ]
              refine wpAnyH_ready (rs := [11]) (by kernel_rfl) (by simp) ?_
              refine AllReadyH.cons (o := oq23) rfl (fun KK hKK => ?_) AllReadyH.nil
              refine step_store_blk rfl 29 _ _ rfl b12 z16 29 _ rfl rfl G7.out.xd rfl size29 (by simp [Value.oneCell']) ?_
              intro y8 hb hp
              have G8 := Lib.hid (G7.out.sd hb hp)
              clear hb hp G7
              refine hKK.out _ _ (G8.out.bel) (fun hH8 => ?_)
              clear hKK KK
              try simp only [Act.put, List.setIfInBounds_toArray, List.set_cons_zero, List.set_cons_succ]
              refine wpAnyH_done (by kernel_rfl) ?_ _
              go_wp2_with (fail)
              go_meet
              exact ⟨_, _, _, _, rfl, rfl, rfl, rfl, Lib.hid G8.out.f4⟩
            refine AllReadyH.cons (o := oq18) rfl (fun KK hKK => ?_) AllReadyH.nil
            refine step_alloc_new rfl 29 rfl z16 alloc29 ?_
            intro b11 y3 hx hb ht
            have S3 := Lib.hid (S2.out.ins [b10] [b12] hx hb ht)
            clear hx hb ht S2
            refine hKK.out _ _ (S3.out.bel) (fun hH3 => ?_)
            clear hKK KK
            try simp only [Act.put, List.setIfInBounds_toArray, List.set_cons_zero, List.set_cons_succ]
            refine wpAnyH_ready (rs := [4]) (by kernel_rfl) (by simp) ?_
            refine AllReadyH.cons (o := oq16) rfl (fun KK hKK => ?_) AllReadyH.nil
            refine step_alloc_new rfl 29 rfl z16 alloc29 ?_
            intro b9 y4 hx hb ht
            have S4 := Lib.hid (S3.out.ins [] [b10, b11, b12] hx hb ht)
            clear hx hb ht S3
            refine hKK.out _ _ (S4.out.bel) (fun hH4 => ?_)
            clear hKK KK
            try simp only [Act.put, List.setIfInBounds_toArray, List.set_cons_zero, List.set_cons_succ]
            refine wpAnyH_ready (rs := [8]) (by kernel_rfl) (by simp) ?_
            refine AllReadyH.cons (o := oq20) rfl (fun KK hKK => ?_) AllReadyH.nil
            have G4 := Lib.hid S4.out.g4
            refine step_store_blk rfl 29 _ _ rfl b9 z16 29 _ rfl rfl G4.out.xa rfl size29 (by simp [Value.oneCell']) ?_
            intro y5 hb hp
            have G5 := Lib.hid (G4.out.sa hb hp)
            clear hb hp G4
            refine hKK.out _ _ (G5.out.bel) (fun hH5 => ?_)
            clear hKK KK
            try simp only [Act.put, List.setIfInBounds_toArray, List.set_cons_zero, List.set_cons_succ]
            refine wpAnyH_ready (rs := [9]) (by kernel_rfl) (by simp) ?_
            refine AllReadyH.cons (o := oq21) rfl (fun KK hKK => ?_) AllReadyH.nil
            refine step_store_blk rfl 29 _ _ rfl b10 z16 29 _ rfl rfl G5.out.xb rfl size29 (by simp [Value.oneCell']) ?_
            intro y6 hb hp
            have G6 := Lib.hid (G5.out.sb hb hp)
            clear hb hp G5
            refine hKK.out _ _ (G6.out.bel) (fun hH6 => ?_)
            clear hKK KK
            try simp only [Act.put, List.setIfInBounds_toArray, List.set_cons_zero, List.set_cons_succ]
            refine wpAnyH_ready (rs := [10]) (by kernel_rfl) (by simp) ?_
            refine AllReadyH.cons (o := oq22) rfl (fun KK hKK => ?_) AllReadyH.nil
            refine step_store_blk rfl 29 _ _ rfl b11 z16 29 _ rfl rfl G6.out.xc rfl size29 (by simp [Value.oneCell']) ?_
            intro y7 hb hp
            have G7 := Lib.hid (G6.out.sc hb hp)
            clear hb hp G6
            refine hKK.out _ _ (G7.out.bel) (fun hH7 => ?_)
            clear hKK KK
            try simp only [Act.put, List.setIfInBounds_toArray, List.set_cons_zero, List.set_cons_succ]
            refine wpAnyH_ready (rs := [11]) (by kernel_rfl) (by simp) ?_
            refine AllReadyH.cons (o := oq23) rfl (fun KK hKK => ?_) AllReadyH.nil
            refine step_store_blk rfl 29 _ _ rfl b12 z16 29 _ rfl rfl G7.out.xd rfl size29 (by simp [Value.oneCell']) ?_
            intro y8 hb hp
            have G8 := Lib.hid (G7.out.sd hb hp)
            clear hb hp G7
            refine hKK.out _ _ (G8.out.bel) (fun hH8 => ?_)
            clear hKK KK
            try simp only [Act.put, List.setIfInBounds_toArray, List.set_cons_zero, List.set_cons_succ]
            refine wpAnyH_done (by kernel_rfl) ?_ _
            go_wp2_with (fail)
            go_meet
            exact ⟨_, _, _, _, rfl, rfl, rfl, rfl, Lib.hid G8.out.f4⟩
          refine AllReadyH.cons (o := oq18) rfl (fun KK hKK => ?_) ?_
          · refine step_alloc_new rfl 29 rfl z16 alloc29 ?_
            intro b11 y1 hx hb ht
            have S1 := Lib.hid (S0.out.ins [] [] hx hb ht)
            clear hx hb ht S0
            refine hKK.out _ _ (S1.out.bel) (fun hH1 => ?_)
            clear hKK KK
            try simp only [Act.put, List.setIfInBounds_toArray, List.set_cons_zero, List.set_cons_succ]
            refine wpAnyH_ready (rs := [4, 5, 7]) (by kernel_rfl) (by simp) ?_
            refine AllReadyH.cons (o := oq16) rfl (fun KK hKK => ?_) ?_
            · refine step_alloc_new rfl 29 rfl z16 alloc29 ?_
              intro b9 y2 hx hb ht
              have S2 := Lib.hid (S1.out.ins [] [b11] hx hb ht)
              clear hx hb ht S1
              refine hKK.out _ _ (S2.out.bel) (fun hH2 => ?_)
              clear hKK KK
              try simp only [Act.put, List.setIfInBounds_toArray, List.set_cons_zero, List.set_cons_succ]
              refine wpAnyH_ready (rs := [5, 7]) (by kernel_rfl) (by simp) ?_
              refine AllReadyH.cons (o := oq17) rfl (fun KK hKK => ?_) ?_
              · refine step_alloc_new rfl 29 rfl z16 alloc29 ?_
                intro b10 y3 hx hb ht
                have S3 := Lib.hid (S2.out.ins [b9] [b11] hx hb ht)
                clear hx hb ht S2
                refine hKK.out _ _ (S3.out.bel) (fun hH3 => ?_)
                clear hKK KK
                try simp only [Act.put, List.setIfInBounds_toArray, List.set_cons_zero, List.set_cons_succ]
                refine wpAnyH_ready (rs := [7]) (by kernel_rfl) (by simp) ?_
                refine AllReadyH.cons (o := oq19) rfl (fun KK hKK => ?_) AllReadyH.nil
                refine step_alloc_new rfl 29 rfl z16 alloc29 ?_
                intro b12 y4 hx hb ht
                have S4 := Lib.hid (S3.out.ins [b9, b10, b11] [] hx hb ht)
                clear hx hb ht S3
                refine hKK.out _ _ (S4.out.bel) (fun hH4 => ?_)
                clear hKK KK
                try simp only [Act.put, List.setIfInBounds_toArray, List.set_cons_zero, List.set_cons_succ]
                refine wpAnyH_ready (rs := [8]) (by kernel_rfl) (by simp) ?_
                refine AllReadyH.cons (o := oq20) rfl (fun KK hKK => ?_) AllReadyH.nil
                have G4 := Lib.hid S4.out.g4
                refine step_store_blk rfl 29 _ _ rfl b9 z16 29 _ rfl rfl G4.out.xa rfl size29 (by simp [Value.oneCell']) ?_
                intro y5 hb hp
                have G5 := Lib.hid (G4.out.sa hb hp)
                clear hb hp G4
                refine hKK.out _ _ (G5.out.bel) (fun hH5 => ?_)
                clear hKK KK
                try simp only [Act.put, List.setIfInBounds_toArray, List.set_cons_zero, List.set_cons_succ]
                refine wpAnyH_ready (rs := [9]) (by kernel_rfl) (by simp) ?_
                refine AllReadyH.cons (o := oq21) rfl (fun KK hKK => ?_) AllReadyH.nil
                refine step_store_blk rfl 29 _ _ rfl b10 z16 29 _ rfl rfl G5.out.xb rfl size29 (by simp [Value.oneCell']) ?_
                intro y6 hb hp
                have G6 := Lib.hid (G5.out.sb hb hp)
                clear hb hp G5
                refine hKK.out _ _ (G6.out.bel) (fun hH6 => ?_)
                clear hKK KK
                try simp only [Act.put, List.setIfInBounds_toArray, List.set_cons_zero, List.set_cons_succ]
                refine wpAnyH_ready (rs := [10]) (by kernel_rfl) (by simp) ?_
                refine AllReadyH.cons (o := oq22) rfl (fun KK hKK => ?_) AllReadyH.nil
                refine step_store_blk rfl 29 _ _ rfl b11 z16 29 _ rfl rfl G6.out.xc rfl size29 (by simp [Value.oneCell']) ?_
                intro y7 hb hp
                have G7 := Lib.hid (G6.out.sc hb hp)
                clear hb hp G6
                refine hKK.out _ _ (G7.out.bel) (fun hH7 => ?_)
                clear hKK KK
                try simp only [Act.put, List.setIfInBounds_toArray, List.set_cons_zero, List.set_cons_succ]
                refine wpAnyH_ready (rs := [11]) (by kernel_rfl) (by simp) ?_
                refine AllReadyH.cons (o := oq23) rfl (fun KK hKK => ?_) AllReadyH.nil
                refine step_store_blk rfl 29 _ _ rfl b12 z16 29 _ rfl rfl G7.out.xd rfl size29 (by simp [Value.oneCell']) ?_
                intro y8 hb hp
                have G8 := Lib.hid (G7.out.sd hb hp)
                clear hb hp G7
                refine hKK.out _ _ (G8.out.bel) (fun hH8 => ?_)
                clear hKK KK
                try simp only [Act.put, List.setIfInBounds_toArray, List.set_cons_zero, List.set_cons_succ]
                refine wpAnyH_done (by kernel_rfl) ?_ _
                go_wp2_with (fail)
                go_meet
                exact ⟨_, _, _, _, rfl, rfl, rfl, rfl, Lib.hid G8.out.f4⟩
              refine AllReadyH.cons (o := oq19) rfl (fun KK hKK => ?_) AllReadyH.nil
              refine step_alloc_new rfl 29 rfl z16 alloc29 ?_
              intro b12 y3 hx hb ht
              have S3 := Lib.hid (S2.out.ins [b9, b11] [] hx hb ht)
              clear hx hb ht S2
              refine hKK.out _ _ (S3.out.bel) (fun hH3 => ?_)
              clear hKK KK
              try simp only [Act.put, List.setIfInBounds_toArray, List.set_cons_zero, List.set_cons_succ]
              refine wpAnyH_ready (rs := [5]) (by kernel_rfl) (by simp) ?_
              refine AllReadyH.cons (o := oq17) rfl (fun KK hKK => ?_) AllReadyH.nil
              refine step_alloc_new rfl 29 rfl z16 alloc29 ?_
              intro b10 y4 hx hb ht
              have S4 := Lib.hid (S3.out.ins [b9] [b11, b12] hx hb ht)
              clear hx hb ht S3
              refine hKK.out _ _ (S4.out.bel) (fun hH4 => ?_)
              clear hKK KK
              try simp only [Act.put, List.setIfInBounds_toArray, List.set_cons_zero, List.set_cons_succ]
              refine wpAnyH_ready (rs := [8]) (by kernel_rfl) (by simp) ?_
              refine AllReadyH.cons (o := oq20) rfl (fun KK hKK => ?_) AllReadyH.nil
              have G4 := Lib.hid S4.out.g4
              refine step_store_blk rfl 29 _ _ rfl b9 z16 29 _ rfl rfl G4.out.xa rfl size29 (by simp [Value.oneCell']) ?_
              intro y5 hb hp
              have G5 := Lib.hid (G4.out.sa hb hp)
              clear hb hp G4
              refine hKK.out _ _ (G5.out.bel) (fun hH5 => ?_)
              clear hKK KK
              try simp only [Act.put, List.setIfInBounds_toArray, List.set_cons_zero, List.set_cons_succ]
              refine wpAnyH_ready (rs := [9]) (by kernel_rfl) (by simp) ?_
              refine AllReadyH.cons (o := oq21) rfl (fun KK hKK => ?_) AllReadyH.nil
              refine step_store_blk rfl 29 _ _ rfl b10 z16 29 _ rfl rfl G5.out.xb rfl size29 (by simp [Value.oneCell']) ?_
              intro y6 hb hp
              have G6 := Lib.hid (G5.out.sb hb hp)
              clear hb hp G5
              refine hKK.out _ _ (G6.out.bel) (fun hH6 => ?_)
              clear hKK KK
              try simp only [Act.put, List.setIfInBounds_toArray, List.set_cons_zero, List.set_cons_succ]
              refine wpAnyH_ready (rs := [10]) (by kernel_rfl) (by simp) ?_
              refine AllReadyH.cons (o := oq22) rfl (fun KK hKK => ?_) AllReadyH.nil
              refine step_store_blk rfl 29 _ _ rfl b11 z16 29 _ rfl rfl G6.out.xc rfl size29 (by simp [Value.oneCell']) ?_
              intro y7 hb hp
              have G7 := Lib.hid (G6.out.sc hb hp)
              clear hb hp G6
              refine hKK.out _ _ (G7.out.bel) (fun hH7 => ?_)
              clear hKK KK
              try simp only [Act.put, List.setIfInBounds_toArray, List.set_cons_zero, List.set_cons_succ]
              refine wpAnyH_ready (rs := [11]) (by kernel_rfl) (by simp) ?_
              refine AllReadyH.cons (o := oq23) rfl (fun KK hKK => ?_) AllReadyH.nil
              refine step_store_blk rfl 29 _ _ rfl b12 z16 29 _ rfl rfl G7.out.xd rfl size29 (by simp [Value.oneCell']) ?_
              intro y8 hb hp
              have G8 := Lib.hid (G7.out.sd hb hp)
              clear hb hp G7
              refine hKK.out _ _ (G8.out.bel) (fun hH8 => ?_)
              clear hKK KK
              try simp only [Act.put, List.setIfInBounds_toArray, List.set_cons_zero, List.set_cons_succ]
              refine wpAnyH_done (by kernel_rfl) ?_ _
              go_wp2_with (fail)
              go_meet
              exact ⟨_, _, _, _, rfl, rfl, rfl, rfl, Lib.hid G8.out.f4⟩
            refine AllReadyH.cons (o := oq17) rfl (fun KK hKK => ?_) ?_
            · refine step_alloc_new rfl 29 rfl z16 alloc29 ?_
              intro b10 y2 hx hb ht
              have S2 := Lib.hid (S1.out.ins [] [b11] hx hb ht)
              clear hx hb ht S1
              refine hKK.out _ _ (S2.out.bel) (fun hH2 => ?_)
              clear hKK KK
              try simp only [Act.put, List.setIfInBounds_toArray, List.set_cons_zero, List.set_cons_succ]
              refine wpAnyH_ready (rs := [4, 7]) (by kernel_rfl) (by simp) ?_
              refine AllReadyH.cons (o := oq16) rfl (fun KK hKK => ?_) ?_
              · refine step_alloc_new rfl 29 rfl z16 alloc29 ?_
                intro b9 y3 hx hb ht
                have S3 := Lib.hid (S2.out.ins [] [b10, b11] hx hb ht)
                clear hx hb ht S2
                refine hKK.out _ _ (S3.out.bel) (fun hH3 => ?_)
                clear hKK KK
                try simp only [Act.put, List.setIfInBounds_toArray, List.set_cons_zero, List.set_cons_succ]
                refine wpAnyH_ready (rs := [7]) (by kernel_rfl) (by simp) ?_
                refine AllReadyH.cons (o := oq19) rfl (fun KK hKK => ?_) AllReadyH.nil
                refine step_alloc_new rfl 29 rfl z16 alloc29 ?_
                intro b12 y4 hx hb ht
                have S4 := Lib.hid (S3.out.ins [b9, b10, b11] [] hx hb ht)
                clear hx hb ht S3
                refine hKK.out _ _ (S4.out.bel) (fun hH4 => ?_)
                clear hKK KK
                try simp only [Act.put, List.setIfInBounds_toArray, List.set_cons_zero, List.set_cons_succ]
                refine wpAnyH_ready (rs := [8]) (by kernel_rfl) (by simp) ?_
                refine AllReadyH.cons (o := oq20) rfl (fun KK hKK => ?_) AllReadyH.nil
                have G4 := Lib.hid S4.out.g4
                refine step_store_blk rfl 29 _ _ rfl b9 z16 29 _ rfl rfl G4.out.xa rfl size29 (by simp [Value.oneCell']) ?_
                intro y5 hb hp
                have G5 := Lib.hid (G4.out.sa hb hp)
                clear hb hp G4
                refine hKK.out _ _ (G5.out.bel) (fun hH5 => ?_)
                clear hKK KK
                try simp only [Act.put, List.setIfInBounds_toArray, List.set_cons_zero, List.set_cons_succ]
                refine wpAnyH_ready (rs := [9]) (by kernel_rfl) (by simp) ?_
                refine AllReadyH.cons (o := oq21) rfl (fun KK hKK => ?_) AllReadyH.nil
                refine step_store_blk rfl 29 _ _ rfl b10 z16 29 _ rfl rfl G5.out.xb rfl size29 (by simp [Value.oneCell']) ?_
                intro y6 hb hp
                have G6 := Lib.hid (G5.out.sb hb hp)
                clear hb hp G5
                refine hKK.out _ _ (G6.out.bel) (fun hH6 => ?_)
                clear hKK KK
                try simp only [Act.put, List.setIfInBounds_toArray, List.set_cons_zero, List.set_cons_succ]
                refine wpAnyH_ready (rs := [10]) (by kernel_rfl) (by simp) ?_
                refine AllReadyH.cons (o := oq22) rfl (fun KK hKK => ?_) AllReadyH.nil
                refine step_store_blk rfl 29 _ _ rfl b11 z16 29 _ rfl rfl G6.out.xc rfl size29 (by simp [Value.oneCell']) ?_
                intro y7 hb hp
                have G7 := Lib.hid (G6.out.sc hb hp)
                clear hb hp G6
                refine hKK.out _ _ (G7.out.bel) (fun hH7 => ?_)
                clear hKK KK
                try simp only [Act.put, List.setIfInBounds_toArray, List.set_cons_zero, List.set_cons_succ]
                refine wpAnyH_ready (rs := [11]) (by kernel_rfl) (by simp) ?_
                refine AllReadyH.cons (o := oq23) rfl (fun KK hKK => ?_) AllReadyH.nil
                refine step_store_blk rfl 29 _ _ rfl b12 z16 29 _ rfl rfl G7.out.xd rfl size29 (by simp [Value.oneCell']) ?_
                intro y8 hb hp
                have G8 := Lib.hid (G7.out.sd hb hp)
                clear hb hp G7
                refine hKK.out _ _ (G8.out.bel) (fun hH8 => ?_)
                clear hKK KK
                try simp only [Act.put, List.setIfInBounds_toArray, List.set_cons_zero, List.set_cons_succ]
                refine wpAnyH_done (by kernel_rfl) ?_ _
                go_wp2_with (fail)
                go_meet
                exact ⟨_, _, _, _, rfl, rfl, rfl, rfl, Lib.hid G8.out.f4⟩
              refine AllReadyH.cons (o := oq19) rfl (fun KK hKK => ?_) AllReadyH.nil
              refine step_alloc_new rfl 29 rfl z16 alloc29 ?_
              intro b12 y3 hx hb ht
              have S3 := Lib.hid (S2.out.ins [b10, b11] [] hx hb ht)
              clear hx hb ht S2
              refine hKK.out _ _ (S3.out.bel) (fun hH3 => ?_)
              clear hKK KK
              try simp only [Act.put, List.setIfInBounds_toArray, List.set_cons_zero, List.set_cons_succ]
              refine wpAnyH_ready (rs := [4]) (by kernel_rfl) (by simp) ?_
              refine AllReadyH.cons (o := oq16) rfl (fun KK hKK => ?_) AllReadyH.nil
              refine step_alloc_new rfl 29 rfl z16 alloc29 ?_
              intro b9 y4 hx hb ht
              have S4 := Lib.hid (S3.out.ins [] [b10, b11, b12] hx hb ht)
              clear hx hb ht S3
              refine hKK.out _ _ (S4.out.bel) (fun hH4 => ?_)
              clear hKK KK
              try simp only [Act.put, List.setIfInBounds_toArray, List.set_cons_zero, List.set_cons_succ]
              refine wpAnyH_ready (rs := [8]) (by kernel_rfl) (by simp) ?_
              refine AllReadyH.cons (o := oq20) rfl (fun KK hKK => ?_) AllReadyH.nil
              have G4 := Lib.hid S4.out.g4
              refine step_store_blk rfl 29 _ _ rfl b9 z16 29 _ rfl rfl G4.out.xa rfl size29 (by simp [Value.oneCell']) ?_
              intro y5 hb hp
              have G5 := Lib.hid (G4.out.sa hb hp)
              clear hb hp G4
              refine hKK.out _ _ (G5.out.bel) (fun hH5 => ?_)
              clear hKK KK
              try simp only [Act.put, List.setIfInBounds_toArray, List.set_cons_zero, List.set_cons_succ]
              refine wpAnyH_ready (rs := [9]) (by kernel_rfl) (by simp) ?_
              refine AllReadyH.cons (o := oq21) rfl (fun KK hKK => ?_) AllReadyH.nil
              refine step_store_blk rfl 29 _ _ rfl b10 z16 29 _ rfl rfl G5.out.xb rfl size29 (by simp [Value.oneCell']) ?_
              intro y6 hb hp
              have G6 := Lib.hid (G5.out.sb hb hp)
              clear hb hp G5
              refine hKK.out _ _ (G6.out.bel) (fun hH6 => ?_)
              clear hKK KK
              try simp only [Act.put, List.setIfInBounds_toArray, List.set_cons_zero, List.set_cons_succ]
              refine wpAnyH_ready (rs := [10]) (by kernel_rfl) (by simp) ?_
              refine AllReadyH.cons (o := oq22) rfl (fun KK hKK => ?_) AllReadyH.nil
              refine step_store_blk rfl 29 _ _ rfl b11 z16 29 _ rfl rfl G6.out.xc rfl size29 (by simp [Value.oneCell']) ?_
              intro y7 hb hp
              have G7 := Lib.hid (G6.out.sc hb hp)
              clear hb hp G6
              refine hKK.out _ _ (G7.out.bel) (fun hH7 => ?_)
              clear hKK KK
              try simp only [Act.put, List.setIfInBounds_toArray, List.set_cons_zero, List.set_cons_succ]
              refine wpAnyH_ready (rs := [11]) (by kernel_rfl) (by simp) ?_
              refine AllReadyH.cons (o := oq23) rfl (fun KK hKK => ?_) AllReadyH.nil
              refine step_store_blk rfl 29 _ _ rfl b12 z16 29 _ rfl rfl G7.out.xd rfl size29 (by simp [Value.oneCell']) ?_
              intro y8 hb hp
              have G8 := Lib.hid (G7.out.sd hb hp)
              clear hb hp G7
              refine hKK.out _ _ (G8.out.bel) (fun hH8 => ?_)
              clear hKK KK
              try simp only [Act.put, List.setIfInBounds_toArray, List.set_cons_zero, List.set_cons_succ]
              refine wpAnyH_done (by kernel_rfl) ?_ _
              go_wp2_with (fail)
              go_meet
              exact ⟨_, _, _, _, rfl, rfl, rfl, rfl, Lib.hid G8.out.f4⟩
            refine AllReadyH.cons (o := oq19) rfl (fun KK hKK => ?_) AllReadyH.nil
            refine step_alloc_new rfl 29 rfl z16 alloc29 ?_
            intro b12 y2 hx hb ht
            have S2 := Lib.hid (S1.out.ins [b11] [] hx hb ht)
            clear hx hb ht S1
            refine hKK.out _ _ (S2.out.bel) (fun hH2 => ?_)
            clear hKK KK
            try simp only [Act.put, List.setIfInBounds_toArray, List.set_cons_zero, List.set_cons_succ]
            refine wpAnyH_ready (rs := [4, 5]) (by kernel_rfl) (by simp) ?_
            refine AllReadyH.cons (o := oq16) rfl (fun KK hKK => ?_) ?_
            · refine step_alloc_new rfl 29 rfl z16 alloc29 ?_
              intro b9 y3 hx hb ht
              have S3 := Lib.hid (S2.out.ins [] [b11, b12] hx hb ht)
              clear hx hb ht S2
              refine hKK.out _ _ (S3.out.bel) (fun hH3 => ?_)
              clear hKK KK
              try simp only [Act.put, List.setIfInBounds_toArray, List.set_cons_zero, List.set_cons_succ]
              refine wpAnyH_ready (rs := [5]) (by kernel_rfl) (by simp) ?_
              refine AllReadyH.cons (o := oq17) rfl (fun KK hKK => ?_) AllReadyH.nil
              refine step_alloc_new rfl 29 rfl z16 alloc29 ?_
              intro b10 y4 hx hb ht
              have S4 := Lib.hid (S3.out.ins [b9] [b11, b12] hx hb ht)
              clear hx hb ht S3
              refine hKK.out _ _ (S4.out.bel) (fun hH4 => ?_)
              clear hKK KK
              try simp only [Act.put, List.setIfInBounds_toArray, List.set_cons_zero, List.set_cons_succ]
              refine wpAnyH_ready (rs := [8]) (by kernel_rfl) (by simp) ?_
              refine AllReadyH.cons (o := oq20) rfl (fun KK hKK => ?_) AllReadyH.nil
              have G4 := Lib.hid S4.out.g4
              refine step_store_blk rfl 29 _ _ rfl b9 z16 29 _ rfl rfl G4.out.xa rfl size29 (by simp [Value.oneCell']) ?_
              intro y5 hb hp
              have G5 := Lib.hid (G4.out.sa hb hp)
              clear hb hp G4
              refine hKK.out _ _ (G5.out.bel) (fun hH5 => ?_)
              clear hKK KK
              try simp only [Act.put, List.setIfInBounds_toArray, List.set_cons_zero, List.set_cons_succ]
              refine wpAnyH_ready (rs := [9]) (by kernel_rfl) (by simp) ?_
              refine AllReadyH.cons (o := oq21) rfl (fun KK hKK => ?_) AllReadyH.nil
              refine step_store_blk rfl 29 _ _ rfl b10 z16 29 _ rfl rfl G5.out.xb rfl size29 (by simp [Value.oneCell']) ?_
              intro y6 hb hp
              have G6 := Lib.hid (G5.out.sb hb hp)
              clear hb hp G5
              refine hKK.out _ _ (G6.out.bel) (fun hH6 => ?_)
              clear hKK KK
              try simp only [Act.put, List.setIfInBounds_toArray, List.set_cons_zero, List.set_cons_succ]
              refine wpAnyH_ready (rs := [10]) (by kernel_rfl) (by simp) ?_
              refine AllReadyH.cons (o := oq22) rfl (fun KK hKK => ?_) AllReadyH.nil
              refine step_store_blk rfl 29 _ _ rfl b11 z16 29 _ rfl rfl G6.out.xc rfl size29 (by simp [Value.oneCell']) ?_
              intro y7 hb hp
              have G7 := Lib.hid (G6.out.sc hb hp)
              clear hb hp G6
              refine hKK.out _ _ (G7.out.bel) (fun hH7 => ?_)
              clear hKK KK
              try simp only [Act.put, List.setIfInBounds_toArray, List.set_cons_zero, List.set_cons_succ]
              refine wpAnyH_ready (rs := [11]) (by kernel_rfl) (by simp) ?_
              refine AllReadyH.cons (o := oq23) rfl (fun KK hKK => ?_) AllReadyH.nil
              refine step_store_blk rfl 29 _ _ rfl b12 z16 29 _ rfl rfl G7.out.xd rfl size29 (by simp [Value.oneCell']) ?_
              intro y8 hb hp
              have G8 := Lib.hid (G7.out.sd hb hp)
              clear hb hp G7
              refine hKK.out _ _ (G8.out.bel) (fun hH8 => ?_)
              clear hKK KK
              try simp only [Act.put, List.setIfInBounds_toArray, List.set_cons_zero, List.set_cons_succ]
              refine wpAnyH_done (by kernel_rfl) ?_ _
              go_wp2_with (fail)
              go_meet
              exact ⟨_, _, _, _, rfl, rfl, rfl, rfl, Lib.hid G8.out.f4⟩
            refine AllReadyH.cons (o := oq17) rfl (fun KK hKK => ?_) AllReadyH.nil
            refine step_alloc_new rfl 29 rfl z16 alloc29 ?_
            intro b10 y3 hx hb ht
            have S3 := Lib.hid (S2.out.ins [] [b11, b12] hx hb ht)
            clear hx hb ht S2
            refine hKK.out _ _ (S3.out.bel) (fun hH3 => ?_)
            clear hKK KK
            try simp only [Act.put, List.setIfInBounds_toArray, List.set_cons_zero, List.set_cons_succ]
            refine wpAnyH_ready (rs := [4]) (by kernel_rfl) (by simp) ?_
            refine AllReadyH.cons (o := oq16) rfl (fun KK hKK => ?_) AllReadyH.nil
            refine step_alloc_new rfl 29 rfl z16 alloc29 ?_
            intro b9 y4 hx hb ht
            have S4 := Lib.hid (S3.out.ins [] [b10, b11, b12] hx hb ht)
            clear hx hb ht S3
            refine hKK.out _ _ (S4.out.bel) (fun hH4 => ?_)
            clear hKK KK
            try simp only [Act.put, List.setIfInBounds_toArray, List.set_cons_zero, List.set_cons_succ]
            refine wpAnyH_ready (rs := [8]) (by kernel_rfl) (by simp) ?_
            refine AllReadyH.cons (o := oq20) rfl (fun KK hKK => ?_) AllReadyH.nil
            have G4 := Lib.hid S4.out.g4
            refine step_store_blk rfl 29 _ _ rfl b9 z16 29 _ rfl rfl G4.out.xa rfl size29 (by simp [Value.oneCell']) ?_
            intro y5 hb hp
            have G5 := Lib.hid (G4.out.sa hb hp)
            clear hb hp G4
            refine hKK.out _ _ (G5.out.bel) (fun hH5 => ?_)
            clear hKK KK
            try simp only [Act.put, List.setIfInBounds_toArray, List.set_cons_zero, List.set_cons_succ]
            refine wpAnyH_ready (rs := [9]) (by kernel_rfl) (by simp) ?_
            refine AllReadyH.cons (o := oq21) rfl (fun KK hKK => ?_) AllReadyH.nil
            refine step_store_blk rfl 29 _ _ rfl b10 z16 29 _ rfl rfl G5.out.xb rfl size29 (by simp [Value.oneCell']) ?_
            intro y6 hb hp
            have G6 := Lib.hid (G5.out.sb hb hp)
            clear hb hp G5
            refine hKK.out _ _ (G6.out.bel) (fun hH6 => ?_)
            clear hKK KK
            try simp only [Act.put, List.setIfInBounds_toArray, List.set_cons_zero, List.set_cons_succ]
            refine wpAnyH_ready (rs := [10]) (by kernel_rfl) (by simp) ?_
            refine AllReadyH.cons (o := oq22) rfl (fun KK hKK => ?_) AllReadyH.nil
            refine step_store_blk rfl 29 _ _ rfl b11 z16 29 _ rfl rfl G6.out.xc rfl size29 (by simp [Value.oneCell']) ?_
            intro y7 hb hp
            have G7 := Lib.hid (G6.out.sc hb hp)
            clear hb hp G6
            refine hKK.out _ _ (G7.out.bel) (fun hH7 => ?_)
            clear hKK KK
            try simp only [Act.put, List.setIfInBounds_toArray, List.set_cons_zero, List.set_cons_succ]
            refine wpAnyH_ready (rs := [11]) (by kernel_rfl) (by simp) ?_
            refine AllReadyH.cons (o := oq23) rfl (fun KK hKK => ?_) AllReadyH.nil
            refine step_store_blk rfl 29 _ _ rfl b12 z16 29 _ rfl rfl G7.out.xd rfl size29 (by simp [Value.oneCell']) ?_
            intro y8 hb hp
            have G8 := Lib.hid (G7.out.sd hb hp)
            clear hb hp G7
            refine hKK.out _ _ (G8.out.bel) (fun hH8 => ?_)
            clear hKK KK
            try simp only [Act.put, List.setIfInBounds_toArray, List.set_cons_zero, List.set_cons_succ]
            refine wpAnyH_done (by kernel_rfl) ?_ _
            go_wp2_with (fail)
            go_meet
            exact ⟨_, _, _, _, rfl, rfl, rfl, rfl, Lib.hid G8.out.f4⟩
          refine AllReadyH.cons (o := oq19) rfl (fun KK hKK => ?_) AllReadyH.nil
          refine step_alloc_new rfl 29 rfl z16 alloc29 ?_
          intro b12 y1 hx hb ht
          have S1 := Lib.hid (S0.out.ins [] [] hx hb ht)
          clear hx hb ht S0
          refine hKK.out _ _ (S1.out.bel) (fun hH1 => ?_)
          clear hKK KK
          try simp only [Act.put, List.setIfInBounds_toArray, List.set_cons_zero, List.set_cons_succ]
          refine wpAnyH_ready (rs := [4, 5, 6]) (by kernel_rfl) (by simp) ?_
          refine AllReadyH.cons (o := oq16) rfl (fun KK hKK => ?_) ?_
          · refine step_alloc_new rfl 29 rfl z16 alloc29 ?_
            intro b9 y2 hx hb ht
            have S2 := Lib.hid (S1.out.ins [] [b12] hx hb ht)
            clear hx hb ht S1
            refine hKK.out _ _ (S2.out.bel) (fun hH2 => ?_)
            clear hKK KK
            try simp only [Act.put, List.setIfInBounds_toArray, List.set_cons_zero, List.set_cons_succ]
            refine wpAnyH_ready (rs := [5, 6]) (by kernel_rfl) (by simp) ?_
            refine AllReadyH.cons (o := oq17) rfl (fun KK hKK => ?_) ?_
            · refine step_alloc_new rfl 29 rfl z16 alloc29 ?_
              intro b10 y3 hx hb ht
              have S3 := Lib.hid (S2.out.ins [b9] [b12] hx hb ht)
              clear hx hb ht S2
              refine hKK.out _ _ (S3.out.bel) (fun hH3 => ?_)
              clear hKK KK
              try simp only [Act.put, List.setIfInBounds_toArray, List.set_cons_zero, List.set_cons_succ]
              refine wpAnyH_ready (rs := [6]) (by kernel_rfl) (by simp) ?_
              refine AllReadyH.cons (o := oq18) rfl (fun KK hKK => ?_) AllReadyH.nil
              refine step_alloc_new rfl 29 rfl z16 alloc29 ?_
              intro b11 y4 hx hb ht
              have S4 := Lib.hid (S3.out.ins [b9, b10] [b12] hx hb ht)
              clear hx hb ht S3
              refine hKK.out _ _ (S4.out.bel) (fun hH4 => ?_)
              clear hKK KK
              try simp only [Act.put, List.setIfInBounds_toArray, List.set_cons_zero, List.set_cons_succ]
              refine wpAnyH_ready (rs := [8]) (by kernel_rfl) (by simp) ?_
              refine AllReadyH.cons (o := oq20) rfl (fun KK hKK => ?_) AllReadyH.nil
              have G4 := Lib.hid S4.out.g4
              refine step_store_blk rfl 29 _ _ rfl b9 z16 29 _ rfl rfl G4.out.xa rfl size29 (by simp [Value.oneCell']) ?_
              intro y5 hb hp
              have G5 := Lib.hid (G4.out.sa hb hp)
              clear hb hp G4
              refine hKK.out _ _ (G5.out.bel) (fun hH5 => ?_)
              clear hKK KK
              try simp only [Act.put, List.setIfInBounds_toArray, List.set_cons_zero, List.set_cons_succ]
              refine wpAnyH_ready (rs := [9]) (by kernel_rfl) (by simp) ?_
              refine AllReadyH.cons (o := oq21) rfl (fun KK hKK => ?_) AllReadyH.nil
              refine step_store_blk rfl 29 _ _ rfl b10 z16 29 _ rfl rfl G5.out.xb rfl size29 (by simp [Value.oneCell']) ?_
              intro y6 hb hp
              have G6 := Lib.hid (G5.out.sb hb hp)
              clear hb hp G5
              refine hKK.out _ _ (G6.out.bel) (fun hH6 => ?_)
              clear hKK KK
              try simp only [Act.put, List.setIfInBounds_toArray, List.set_cons_zero, List.set_cons_succ]
              refine wpAnyH_ready (rs := [10]) (by kernel_rfl) (by simp) ?_
              refine AllReadyH.cons (o := oq22) rfl (fun KK hKK => ?_) AllReadyH.nil
              refine step_store_blk rfl 29 _ _ rfl b11 z16 29 _ rfl rfl G6.out.xc rfl size29 (by simp [Value.oneCell']) ?_
              intro y7 hb hp
              have G7 := Lib.hid (G6.out.sc hb hp)
              clear hb hp G6
              refine hKK.out _ _ (G7.out.bel) (fun hH7 => ?_)
              clear hKK KK
              try simp only [Act.put, List.setIfInBounds_toArray, List.set_cons_zero, List.set_cons_succ]
              refine wpAnyH_ready (rs := [11]) (by kernel_rfl) (by simp) ?_
              refine AllReadyH.cons (o := oq23) rfl (fun KK hKK => ?_) AllReadyH.nil
              refine step_store_blk rfl 29 _ _ rfl b12 z16 29 _ rfl rfl G7.out.xd rfl size29 (by simp [Value.oneCell']) ?_
              intro y8 hb hp
              have G8 := Lib.hid (G7.out.sd hb hp)
              clear hb hp G7
              refine hKK.out _ _ (G8.out.bel) (fun hH8 => ?_)
              clear hKK KK
              try simp only [Act.put, List.setIfInBounds_toArray, List.set_cons_zero, List.set_cons_succ]
              refine wpAnyH_done (by kernel_rfl) ?_ _
              go_wp2_with (fail)
              go_meet
              exact ⟨_, _, _, _, rfl, rfl, rfl, rfl, Lib.hid G8.out.f4⟩
            refine AllReadyH.cons (o := oq18) rfl (fun KK hKK => ?_) AllReadyH.nil
            refine step_alloc_new rfl 29 rfl z16 alloc29 ?_
            intro b11 y3 hx hb ht
            have S3 := Lib.hid (S2.out.ins [b9] [b12] hx hb ht)
            clear hx hb ht S2
            refine hKK.out _ _ (S3.out.bel) (fun hH3 => ?_)
            clear hKK KK
            try simp only [Act.put, List.setIfInBounds_toArray, List.set_cons_zero, List.set_cons_succ]
            refine wpAnyH_ready (rs := [5]) (by kernel_rfl) (by simp) ?_
            refine AllReadyH.cons (o := oq17) rfl (fun KK hKK => ?_) AllReadyH.nil
            refine step_alloc_new rfl 29 rfl z16 alloc29 ?_
            intro b10 y4 hx hb ht
            have S4 := Lib.hid (S3.out.ins [b9] [b11, b12] hx hb ht)
            clear hx hb ht S3
            refine hKK.out _ _ (S4.out.bel) (fun hH4 => ?_)
            clear hKK KK
            try simp only [Act.put, List.setIfInBounds_toArray, List.set_cons_zero, List.set_cons_succ]
            refine wpAnyH_ready (rs := [8]) (by kernel_rfl) (by simp) ?_
            refine AllReadyH.cons (o := oq20) rfl (fun KK hKK => ?_) AllReadyH.nil
            have G4 := Lib.hid S4.out.g4
            refine step_store_blk rfl 29 _ _ rfl b9 z16 29 _ rfl rfl G4.out.xa rfl size29 (by simp [Value.oneCell']) ?_
            intro y5 hb hp
            have G5 := Lib.hid (G4.out.sa hb hp)
            clear hb hp G4
            refine hKK.out _ _ (G5.out.bel) (fun hH5 => ?_)
            clear hKK KK
            try simp only [Act.put, List.setIfInBounds_toArray, List.set_cons_zero, List.set_cons_succ]
            refine wpAnyH_ready (rs := [9]) (by kernel_rfl) (by simp) ?_
            refine AllReadyH.cons (o := oq21) rfl (fun KK hKK => ?_) AllReadyH.nil
            refine step_store_blk rfl 29 _ _ rfl b10 z16 29 _ rfl rfl G5.out.xb rfl size29 (by simp [Value.oneCell']) ?_
            intro y6 hb hp
            have G6 := Lib.hid (G5.out.sb hb hp)
            clear hb hp G5
            refine hKK.out _ _ (G6.out.bel) (fun hH6 => ?_)
            clear hKK KK
            try simp only [Act.put, List.setIfInBounds_toArray, List.set_cons_zero, List.set_cons_succ]
            refine wpAnyH_ready (rs := [10]) (by kernel_rfl) (by simp) ?_
            refine AllReadyH.cons (o := oq22) rfl (fun KK hKK => ?_) AllReadyH.nil
            refine step_store_blk rfl 29 _ _ rfl b11 z16 29 _ rfl rfl G6.out.xc rfl size29 (by simp [Value.oneCell']) ?_
            intro y7 hb hp
            have G7 := Lib.hid (G6.out.sc hb hp)
            clear hb hp G6
            refine hKK.out _ _ (G7.out.bel) (fun hH7 => ?_)
            clear hKK KK
            try simp only [Act.put, List.setIfInBounds_toArray, List.set_cons_zero, List.set_cons_succ]
            refine wpAnyH_ready (rs := [11]) (by kernel_rfl) (by simp) ?_
            refine AllReadyH.cons (o := oq23) rfl (fun KK hKK => ?_) AllReadyH.nil
            refine step_store_blk rfl 29 _ _ rfl b12 z16 29 _ rfl rfl G7.out.xd rfl size29 (by simp [Value.oneCell']) ?_
            intro y8 hb hp
            have G8 := Lib.hid (G7.out.sd hb hp)
            clear hb hp G7
            refine hKK.out _ _ (G8.out.bel) (fun hH8 => ?_)
            clear hKK KK
            try simp only [Act.put, List.setIfInBounds_toArray, List.set_cons_zero, List.set_cons_succ]
            refine wpAnyH_done (by kernel_rfl) ?_ _
            go_wp2_with (fail)
            go_meet
            exact ⟨_, _, _, _, rfl, rfl, rfl, rfl, Lib.hid G8.out.f4⟩
          refine AllReadyH.cons (o := oq17) rfl (fun KK hKK => ?_) ?_
          · refine step_alloc_new rfl 29 rfl z16 alloc29 ?_
            intro b10 y2 hx hb ht
            have S2 := Lib.hid (S1.out.ins [] [b12] hx hb ht)
            clear hx hb ht S1
            refine hKK.out _ _ (S2.out.bel) (fun hH2 => ?_)
            clear hKK KK
            try simp only [Act.put, List.setIfInBounds_toArray, List.set_cons_zero, List.set_cons_succ]
            refine wpAnyH_ready (rs := [4, 6]) (by kernel_rfl) (by simp) ?_
            refine AllReadyH.cons (o := oq16) rfl (fun KK hKK => ?_) ?_
            · refine step_alloc_new rfl 29 rfl z16 alloc29 ?_
              intro b9 y3 hx hb ht
              have S3 := Lib.hid (S2.out.ins [] [b10, b12] hx hb ht)
              clear hx hb ht S2
              refine hKK.out _ _ (S3.out.bel) (fun hH3 => ?_)
              clear hKK KK
              try simp only [Act.put, List.setIfInBounds_toArray, List.set_cons_zero, List.set_cons_succ]
              refine wpAnyH_ready (rs := [6]) (by kernel_rfl) (by simp) ?_
              refine AllReadyH.cons (o := oq18) rfl (fun KK hKK => ?_) AllReadyH.nil
              refine step_alloc_new rfl 29 rfl z16 alloc29 ?_
              intro b11 y4 hx hb ht
              have S4 := Lib.hid (S3.out.ins [b9, b10] [b12] hx hb ht)
              clear hx hb ht S3
              refine hKK.out _ _ (S4.out.bel) (fun hH4 => ?_)
              clear hKK KK
              try simp only [Act.put, List.setIfInBounds_toArray, List.set_cons_zero, List.set_cons_succ]
              refine wpAnyH_ready (rs := [8]) (by kernel_rfl) (by simp) ?_
              refine AllReadyH.cons (o := oq20) rfl (fun KK hKK => ?_) AllReadyH.nil
              have G4 := Lib.hid S4.out.g4
              refine step_store_blk rfl 29 _ _ rfl b9 z16 29 _ rfl rfl G4.out.xa rfl size29 (by simp [Value.oneCell']) ?_
              intro y5 hb hp
              have G5 := Lib.hid (G4.out.sa hb hp)
              clear hb hp G4
              refine hKK.out _ _ (G5.out.bel) (fun hH5 => ?_)
              clear hKK KK
              try simp only [Act.put, List.setIfInBounds_toArray, List.set_cons_zero, List.set_cons_succ]
              refine wpAnyH_ready (rs := [9]) (by kernel_rfl) (by simp) ?_
              refine AllReadyH.cons (o := oq21) rfl (fun KK hKK => ?_) AllReadyH.nil
              refine step_store_blk rfl 29 _ _ rfl b10 z16 29 _ rfl rfl G5.out.xb rfl size29 (by simp [Value.oneCell']) ?_
              intro y6 hb hp
              have G6 := Lib.hid (G5.out.sb hb hp)
              clear hb hp G5
              refine hKK.out _ _ (G6.out.bel) (fun hH6 => ?_)
              clear hKK KK
              try simp only [Act.put, List.setIfInBounds_toArray, List.set_cons_zero, List.set_cons_succ]
              refine wpAnyH_ready (rs := [10]) (by kernel_rfl) (by simp) ?_
              refine AllReadyH.cons (o := oq22) rfl (fun KK hKK => ?_) AllReadyH.nil
              refine step_store_blk rfl 29 _ _ rfl b11 z16 29 _ rfl rfl G6.out.xc rfl size29 (by simp [Value.oneCell']) ?_
              intro y7 hb hp
              have G7 := Lib.hid (G6.out.sc hb hp)
              clear hb hp G6
              refine hKK.out _ _ (G7.out.bel) (fun hH7 => ?_)
              clear hKK KK
              try simp only [Act.put, List.setIfInBounds_toArray, List.set_cons_zero, List.set_cons_succ]
              refine wpAnyH_ready (rs := [11]) (by kernel_rfl) (by simp) ?_
              refine AllReadyH.cons (o := oq23) rfl (fun KK hKK => ?_) AllReadyH.nil
              refine step_store_blk rfl 29 _ _ rfl b12 z16 29 _ rfl rfl G7.out.xd rfl size29 (by simp [Value.oneCell']) ?_
              intro y8 hb hp
              have G8 := Lib.hid (G7.out.sd hb hp)
              clear hb hp G7
              refine hKK.out _ _ (G8.out.bel) (fun hH8 => ?_)
              clear hKK KK
              try simp only [Act.put, List.setIfInBounds_toArray, List.set_cons_zero, List.set_cons_succ]
              refine wpAnyH_done (by kernel_rfl) ?_ _
              go_wp2_with (fail)
              go_meet
              exact ⟨_, _, _, _, rfl, rfl, rfl, rfl, Lib.hid G8.out.f4⟩
            refine AllReadyH.cons (o := oq18) rfl (fun KK hKK => ?_) AllReadyH.nil
            refine step_alloc_new rfl 29 rfl z16 alloc29 ?_
            intro b11 y3 hx hb ht
            have S3 := Lib.hid (S2.out.ins [b10] [b12] hx hb ht)
            clear hx hb ht S2
            refine hKK.out _ _ (S3.out.bel) (fun hH3 => ?_)
            clear hKK KK
            try simp only [Act.put, List.setIfInBounds_toArray, List.set_cons_zero, List.set_cons_succ]
            refine wpAnyH_ready (rs := [4]) (by kernel_rfl) (by simp) ?_
            refine AllReadyH.cons (o := oq16) rfl (fun KK hKK => ?_) AllReadyH.nil
            refine step_alloc_new rfl 29 rfl z16 alloc29 ?_
            intro b9 y4 hx hb ht
            have S4 := Lib.hid (S3.out.ins [] [b10, b11, b12] hx hb ht)
            clear hx hb ht S3
            refine hKK.out _ _ (S4.out.bel) (fun hH4 => ?_)
            clear hKK KK
            try simp only [Act.put, List.setIfInBounds_toArray, List.set_cons_zero, List.set_cons_succ]
            refine wpAnyH_ready (rs := [8]) (by kernel_rfl) (by simp) ?_
            refine AllReadyH.cons (o := oq20) rfl (fun KK hKK => ?_) AllReadyH.nil
            have G4 := Lib.hid S4.out.g4
            refine step_store_blk rfl 29 _ _ rfl b9 z16 29 _ rfl rfl G4.out.xa rfl size29 (by simp [Value.oneCell']) ?_
            intro y5 hb hp
            have G5 := Lib.hid (G4.out.sa hb hp)
            clear hb hp G4
            refine hKK.out _ _ (G5.out.bel) (fun hH5 => ?_)
            clear hKK KK
            try simp only [Act.put, List.setIfInBounds_toArray, List.set_cons_zero, List.set_cons_succ]
            refine wpAnyH_ready (rs := [9]) (by kernel_rfl) (by simp) ?_
            refine AllReadyH.cons (o := oq21) rfl (fun KK hKK => ?_) AllReadyH.nil
            refine step_store_blk rfl 29 _ _ rfl b10 z16 29 _ rfl rfl G5.out.xb rfl size29 (by simp [Value.oneCell']) ?_
            intro y6 hb hp
            have G6 := Lib.hid (G5.out.sb hb hp)
            clear hb hp G5
            refine hKK.out _ _ (G6.out.bel) (fun hH6 => ?_)
            clear hKK KK
            try simp only [Act.put, List.setIfInBounds_toArray, List.set_cons_zero, List.set_cons_succ]
            refine wpAnyH_ready (rs := [10]) (by kernel_rfl) (by simp) ?_
            refine AllReadyH.cons (o := oq22) rfl (fun KK hKK => ?_) AllReadyH.nil
            refine step_store_blk rfl 29 _ _ rfl b11 z16 29 _ rfl rfl G6.out.xc rfl size29 (by simp [Value.oneCell']) ?_
            intro y7 hb hp
            have G7 := Lib.hid (G6.out.sc hb hp)
            clear hb hp G6
            refine hKK.out _ _ (G7.out.bel) (fun hH7 => ?_)
            clear hKK KK
            try simp only [Act.put, List.setIfInBounds_toArray, List.set_cons_zero, List.set_cons_succ]
            refine wpAnyH_ready (rs := [11]) (by kernel_rfl) (by simp) ?_
            refine AllReadyH.cons (o := oq23) rfl (fun KK hKK => ?_) AllReadyH.nil
            refine step_store_blk rfl 29 _ _ rfl b12 z16 29 _ rfl rfl G7.out.xd rfl size29 (by simp [Value.oneCell']) ?_
            intro y8 hb hp
            have G8 := Lib.hid (G7.out.sd hb hp)
            clear hb hp G7
            refine hKK.out _ _ (G8.out.bel) (fun hH8 => ?_)
            clear hKK KK
            try simp only [Act.put, List.setIfInBounds_toArray, List.set_cons_zero, List.set_cons_succ]
            refine wpAnyH_done (by kernel_rfl) ?_ _
            go_wp2_with (fail)
            go_meet
            exact ⟨_, _, _, _, rfl, rfl, rfl, rfl, Lib.hid G8.out.f4⟩
          refine AllReadyH.cons (o := oq18) rfl (fun KK hKK => ?_) AllReadyH.nil
          refine step_alloc_new rfl 29 rfl z16 alloc29 ?_
          intro b11 y2 hx hb ht
          have S2 := Lib.hid (S1.out.ins [] [b12] hx hb ht)
          clear hx hb ht S1
          refine hKK.out _ _ (S2.out.bel) (fun hH2 => ?_)
          clear hKK KK
          try simp only [Act.put, List.setIfInBounds_toArray, List.set_cons_zero, List.set_cons_succ]
          refine wpAnyH_ready (rs := [4, 5]) (by kernel_rfl) (by simp) ?_
          refine AllReadyH.cons (o := oq16) rfl (fun KK hKK => ?_) ?_
          · refine step_alloc_new rfl 29 rfl z16 alloc29 ?_
            intro b9 y3 hx hb ht
            have S3 := Lib.hid (S2.out.ins [] [b11, b12] hx hb ht)
            clear hx hb ht S2
            refine hKK.out _ _ (S3.out.bel) (fun hH3 => ?_)
            clear hKK KK
            try simp only [Act.put, List.setIfInBounds_toArray, List.set_cons_zero, List.set_cons_succ]
            refine wpAnyH_ready (rs := [5]) (by kernel_rfl) (by simp) ?_
            refine AllReadyH.cons (o := oq17) rfl (fun KK hKK => ?_) AllReadyH.nil
            refine step_alloc_new rfl 29 rfl z16 alloc29 ?_
            intro b10 y4 hx hb ht
            have S4 := Lib.hid (S3.out.ins [b9] [b11, b12] hx hb ht)
            clear hx hb ht S3
            refine hKK.out _ _ (S4.out.bel) (fun hH4 => ?_)
            clear hKK KK
            try simp only [Act.put, List.setIfInBounds_toArray, List.set_cons_zero, List.set_cons_succ]
            refine wpAnyH_ready (rs := [8]) (by kernel_rfl) (by simp) ?_
            refine AllReadyH.cons (o := oq20) rfl (fun KK hKK => ?_) AllReadyH.nil
            have G4 := Lib.hid S4.out.g4
            refine step_store_blk rfl 29 _ _ rfl b9 z16 29 _ rfl rfl G4.out.xa rfl size29 (by simp [Value.oneCell']) ?_
            intro y5 hb hp
            have G5 := Lib.hid (G4.out.sa hb hp)
            clear hb hp G4
            refine hKK.out _ _ (G5.out.bel) (fun hH5 => ?_)
            clear hKK KK
            try simp only [Act.put, List.setIfInBounds_toArray, List.set_cons_zero, List.set_cons_succ]
            refine wpAnyH_ready (rs := [9]) (by kernel_rfl) (by simp) ?_
            refine AllReadyH.cons (o := oq21) rfl (fun KK hKK => ?_) AllReadyH.nil
            refine step_store_blk rfl 29 _ _ rfl b10 z16 29 _ rfl rfl G5.out.xb rfl size29 (by simp [Value.oneCell']) ?_
            intro y6 hb hp
            have G6 := Lib.hid (G5.out.sb hb hp)
            clear hb hp G5
            refine hKK.out _ _ (G6.out.bel) (fun hH6 => ?_)
            clear hKK KK
            try simp only [Act.put, List.setIfInBounds_toArray, List.set_cons_zero, List.set_cons_succ]
            refine wpAnyH_ready (rs := [10]) (by kernel_rfl) (by simp) ?_
            refine AllReadyH.cons (o := oq22) rfl (fun KK hKK => ?_) AllReadyH.nil
            refine step_store_blk rfl 29 _ _ rfl b11 z16 29 _ rfl rfl G6.out.xc rfl size29 (by simp [Value.oneCell']) ?_
            intro y7 hb hp
            have G7 := Lib.hid (G6.out.sc hb hp)
            clear hb hp G6
            refine hKK.out _ _ (G7.out.bel) (fun hH7 => ?_)
            clear hKK KK
            try simp only [Act.put, List.setIfInBounds_toArray, List.set_cons_zero, List.set_cons_succ]
            refine wpAnyH_ready (rs := [11]) (by kernel_rfl) (by simp) ?_
            refine AllReadyH.cons (o := oq23) rfl (fun KK hKK => ?_) AllReadyH.nil
            refine step_store_blk rfl 29 _ _ rfl b12 z16 29 _ rfl rfl G7.out.xd rfl size29 (by simp [Value.oneCell']) ?_
            intro y8 hb hp
            have G8 := Lib.hid (G7.out.sd hb hp)
            clear hb hp G7
            refine hKK.out _ _ (G8.out.bel) (fun hH8 => ?_)
            clear hKK KK
            try simp only [Act.put, List.setIfInBounds_toArray, List.set_cons_zero, List.set_cons_succ]
            refine wpAnyH_done (by kernel_rfl) ?_ _
            go_wp2_with (fail)
            go_meet
            exact ⟨_, _, _, _, rfl, rfl, rfl, rfl, Lib.hid G8.out.f4⟩
          refine AllReadyH.cons (o := oq17) rfl (fun KK hKK => ?_) AllReadyH.nil
          refine step_alloc_new rfl 29 rfl z16 alloc29 ?_
          intro b10 y3 hx hb ht
          have S3 := Lib.hid (S2.out.ins [] [b11, b12] hx hb ht)
          clear hx hb ht S2
          refine hKK.out _ _ (S3.out.bel) (fun hH3 => ?_)
          clear hKK KK
          try simp only [Act.put, List.setIfInBounds_toArray, List.set_cons_zero, List.set_cons_succ]
          refine wpAnyH_ready (rs := [4]) (by kernel_rfl) (by simp) ?_
          refine AllReadyH.cons (o := oq16) rfl (fun KK hKK => ?_) AllReadyH.nil
          refine step_alloc_new rfl 29 rfl z16 alloc29 ?_
          intro b9 y4 hx hb ht
          have S4 := Lib.hid (S3.out.ins [] [b10, b11, b12] hx hb ht)
          clear hx hb ht S3
          refine hKK.out _ _ (S4.out.bel) (fun hH4 => ?_)
          clear hKK KK
          try simp only [Act.put, List.setIfInBounds_toArray, List.set_cons_zero, List.set_cons_succ]
          refine wpAnyH_ready (rs := [8]) (by kernel_rfl) (by simp) ?_
          refine AllReadyH.cons (o := oq20) rfl (fun KK hKK => ?_) AllReadyH.nil
          have G4 := Lib.hid S4.out.g4
          refine step_store_blk rfl 29 _ _ rfl b9 z16 29 _ rfl rfl G4.out.xa rfl size29 (by simp [Value.oneCell']) ?_
          intro y5 hb hp
          have G5 := Lib.hid (G4.out.sa hb hp)
          clear hb hp G4
          refine hKK.out _ _ (G5.out.bel) (fun hH5 => ?_)
          clear hKK KK
          try simp only [Act.put, List.setIfInBounds_toArray, List.set_cons_zero, List.set_cons_succ]
          refine wpAnyH_ready (rs := [9]) (by kernel_rfl) (by simp) ?_
          refine AllReadyH.cons (o := oq21) rfl (fun KK hKK => ?_) AllReadyH.nil
          refine step_store_blk rfl 29 _ _ rfl b10 z16 29 _ rfl rfl G5.out.xb rfl size29 (by simp [Value.oneCell']) ?_
          intro y6 hb hp
          have G6 := Lib.hid (G5.out.sb hb hp)
          clear hb hp G5
          refine hKK.out _ _ (G6.out.bel) (fun hH6 => ?_)
          clear hKK KK
          try simp only [Act.put, List.setIfInBounds_toArray, List.set_cons_zero, List.set_cons_succ]
          refine wpAnyH_ready (rs := [10]) (by kernel_rfl) (by simp) ?_
          refine AllReadyH.cons (o := oq22) rfl (fun KK hKK => ?_) AllReadyH.nil
          refine step_store_blk rfl 29 _ _ rfl b11 z16 29 _ rfl rfl G6.out.xc rfl size29 (by simp [Value.oneCell']) ?_
          intro y7 hb hp
          have G7 := Lib.hid (G6.out.sc hb hp)
          clear hb hp G6
          refine hKK.out _ _ (G7.out.bel) (fun hH7 => ?_)
          clear hKK KK
          try simp only [Act.put, List.setIfInBounds_toArray, List.set_cons_zero, List.set_cons_succ]
          refine wpAnyH_ready (rs := [11]) (by kernel_rfl) (by simp) ?_
          refine AllReadyH.cons (o := oq23) rfl (fun KK hKK => ?_) AllReadyH.nil
          refine step_store_blk rfl 29 _ _ rfl b12 z16 29 _ rfl rfl G7.out.xd rfl size29 (by simp [Value.oneCell']) ?_
          intro y8 hb hp
          have G8 := Lib.hid (G7.out.sd hb hp)
          clear hb hp G7
          refine hKK.out _ _ (G8.out.bel) (fun hH8 => ?_)
          clear hKK KK
          try simp only [Act.put, List.setIfInBounds_toArray, List.set_cons_zero, List.set_cons_succ]
          refine wpAnyH_done (by kernel_rfl) ?_ _
          go_wp2_with (fail)
          go_meet
          exact ⟨_, _, _, _, rfl, rfl, rfl, rfl, Lib.hid G8.out.f4⟩
        case rest =>
          obtain ⟨b9, b10, b11, b12, rfl, rfl, rfl, rfl, NG⟩ := hcut
          have GA0 := Lib.hid ((blk_new wc [.string ⟨#[33, 97, 58, 98]⟩] 9).alloc (.cells ([.string ⟨#[42]⟩] : List Value).toArray 9))
          have GB0 := Lib.hid (blk_new2 wc (.cells ([.string ⟨#[33, 97, 58, 98]⟩] : List Value).toArray 9) [.string ⟨#[42]⟩] 9)
          have Zb9 := Lib.hid ((NG.out.xa.alloc (.cells ([.string ⟨#[33, 97, 58, 98]⟩] : List Value).toArray 9)).alloc (.cells ([.string ⟨#[42]⟩] : List Value).toArray 9))
          have Zb10 := Lib.hid ((NG.out.xb.alloc (.cells ([.string ⟨#[33, 97, 58, 98]⟩] : List Value).toArray 9)).alloc (.cells ([.string ⟨#[42]⟩] : List Value).toArray 9))
          have Zb11 := Lib.hid ((NG.out.xc.alloc (.cells ([.string ⟨#[33, 97, 58, 98]⟩] : List Value).toArray 9)).alloc (.cells ([.string ⟨#[42]⟩] : List Value).toArray 9))
          have Zb12 := Lib.hid ((NG.out.xd.alloc (.cells ([.string ⟨#[33, 97, 58, 98]⟩] : List Value).toArray 9)).alloc (.cells ([.string ⟨#[42]⟩] : List Value).toArray 9))
          have U0_b5 := Lib.hid (((P3_b5.out.below NG.out.bel).alloc (.cells ([.string ⟨#[33, 97, 58, 98]⟩] : List Value).toArray 9)).alloc (.cells ([.string ⟨#[42]⟩] : List Value).toArray 9))
          have HLb5 := Lib.hid P3_b5.out.lt
          have U0_b6 := Lib.hid (((P3_b6.out.below NG.out.bel).alloc (.cells ([.string ⟨#[33, 97, 58, 98]⟩] : List Value).toArray 9)).alloc (.cells ([.string ⟨#[42]⟩] : List Value).toArray 9))
          have HLb6 := Lib.hid P3_b6.out.lt
          have U0_b7 := Lib.hid (((P3_b7.out.below NG.out.bel).alloc (.cells ([.string ⟨#[33, 97, 58, 98]⟩] : List Value).toArray 9)).alloc (.cells ([.string ⟨#[42]⟩] : List Value).toArray 9))
          have HLb7 := Lib.hid P3_b7.out.lt
          have U0_b8 := Lib.hid (((P3_b8.out.below NG.out.bel).alloc (.cells ([.string ⟨#[33, 97, 58, 98]⟩] : List Value).toArray 9)).alloc (.cells ([.string ⟨#[42]⟩] : List Value).toArray 9))
          have HLb8 := Lib.hid P3_b8.out.lt
          have BG0 := Lib.hid ((NG.out.bel.alloc NG.out.bel.size (.cells ([.string ⟨#[33, 97, 58, 98]⟩] : List Value).toArray 9)).alloc (by have := NG.out.bel.size; simp only [World.size_alloc]; omega) (.cells ([.string ⟨#[42]⟩] : List Value).toArray 9))
          have HAb9 := Lib.hid (Nat.ne_of_gt NG.out.xa.lt)
          have HBb9 := Lib.hid (Nat.ne_of_gt (Nat.lt_succ_of_lt NG.out.xa.lt))
          have HAb10 := Lib.hid (Nat.ne_of_gt NG.out.xb.lt)
          have HBb10 := Lib.hid (Nat.ne_of_gt (Nat.lt_succ_of_lt NG.out.xb.lt))
          have HAb11 := Lib.hid (Nat.ne_of_gt NG.out.xc.lt)
          have HBb11 := Lib.hid (Nat.ne_of_gt (Nat.lt_succ_of_lt NG.out.xc.lt))
          have HAb12 := Lib.hid (Nat.ne_of_gt NG.out.xd.lt)
          have HBb12 := Lib.hid (Nat.ne_of_gt (Nat.lt_succ_of_lt NG.out.xd.lt))
          go_upto_region 7 with (first
            | (refine store_one rfl 4 _ _ rfl b9 3 (.bool true) [.string tx, .int .i64 n, .int .i64 tg, .bool th, .string via, .slice aA al.length aC, .slice dA dn.length dC, .slice uA us.length uC, .slice kA ks.length kC, .int .i64 d, .int .i64 x3, .int .i64 x4, .int .i64 x5, .int .i64 x6, .int .i64 x7, .int .i64 x8] 29 rfl rfl Zb9.out j3 size4 rfl ?_; intro we0 hx hp; have V0_b9 := Lib.hid (show Blk we0 b9 [.string tx, .int .i64 n, .int .i64 tg, .bool true, .string via, .slice aA al.length aC, .slice dA dn.length dC, .slice uA us.length uC, .slice kA ks.length kC, .int .i64 d, .int .i64 x3, .int .i64 x4, .int .i64 x5, .int .i64 x6, .int .i64 x7, .int .i64 x8] 29 from hx); have V0_b10 := Lib.hid (hp.oth _ _ _ (Ne.symm NG.out.ab) Zb10.out); have V0_b11 := Lib.hid (hp.oth _ _ _ (Ne.symm NG.out.ac) Zb11.out); have V0_b12 := Lib.hid (hp.oth _ _ _ (Ne.symm NG.out.ad) Zb12.out); have U1_b5 := Lib.hid (U0_b5.out.at_ (hp.bel _ NG.out.la) HLb5.out); have U1_b6 := Lib.hid (U0_b6.out.at_ (hp.bel _ NG.out.la) HLb6.out); have U1_b7 := Lib.hid (U0_b7.out.at_ (hp.bel _ NG.out.la) HLb7.out); have U1_b8 := Lib.hid (U0_b8.out.at_ (hp.bel _ NG.out.la) HLb8.out); have GA1 := Lib.hid (hp.oth _ _ _ HAb9.out GA0.out); have GB1 := Lib.hid (hp.oth _ _ _ HBb9.out GB0.out); have BG1 := Lib.hid (bel_put BG0.out hp NG.out.la); clear hx hp GA0 GB0 BG0 Zb9 Zb10 Zb11 Zb12 U0_b5 U0_b6 U0_b7 U0_b8)
            | (refine store_one rfl 23 _ _ rfl b10 5 (.slice (some ⟨wc.heap.size, 0, none⟩) 1 1) [.string tx, .int .i64 n, .int .i64 tg, .bool th, .string via, .slice aA al.length aC, .slice dA dn.length dC, .slice uA us.length uC, .slice kA ks.length kC, .int .i64 d, .int .i64 x3, .int .i64 x4, .int .i64 x5, .int .i64 x6, .int .i64 x7, .int .i64 x8] 29 rfl rfl V0_b10.out j5 size23 rfl ?_; intro we1 hx hp; have V1_b9 := Lib.hid (hp.oth _ _ _ NG.out.ab V0_b9.out); have V1_b10 := Lib.hid (show Blk we1 b10 [.string tx, .int .i64 n, .int .i64 tg, .bool th, .string via, .slice (some ⟨wc.heap.size, 0, none⟩) 1 1, .slice dA dn.length dC, .slice uA us.length uC, .slice kA ks.length kC, .int .i64 d, .int .i64 x3, .int .i64 x4, .int .i64 x5, .int .i64 x6, .int .i64 x7, .int .i64 x8] 29 from hx); have V1_b11 := Lib.hid (hp.oth _ _ _ (Ne.symm NG.out.bc) V0_b11.out); have V1_b12 := Lib.hid (hp.oth _ _ _ (Ne.symm NG.out.bd) V0_b12.out); have U2_b5 := Lib.hid (U1_b5.out.at_ (hp.bel _ NG.out.lb) HLb5.out); have U2_b6 := Lib.hid (U1_b6.out.at_ (hp.bel _ NG.out.lb) HLb6.out); have U2_b7 := Lib.hid (U1_b7.out.at_ (hp.bel _ NG.out.lb) HLb7.out); have U2_b8 := Lib.hid (U1_b8.out.at_ (hp.bel _ NG.out.lb) HLb8.out); have GA2 := Lib.hid (hp.oth _ _ _ HAb10.out GA1.out); have GB2 := Lib.hid (hp.oth _ _ _ HBb10.out GB1.out); have BG2 := Lib.hid (bel_put BG1.out hp NG.out.lb); clear hx hp GA1 GB1 BG1 V0_b9 V0_b10 V0_b11 V0_b12 U1_b5 U1_b6 U1_b7 U1_b8)
            | (refine store_one rfl 23 _ _ rfl b11 6 (.slice (some ⟨wc.heap.size + 1, 0, none⟩) 1 1) [.string tx, .int .i64 n, .int .i64 tg, .bool th, .string via, .slice aA al.length aC, .slice dA dn.length dC, .slice uA us.length uC, .slice kA ks.length kC, .int .i64 d, .int .i64 x3, .int .i64 x4, .int .i64 x5, .int .i64 x6, .int .i64 x7, .int .i64 x8] 29 rfl rfl V1_b11.out j6 size23 rfl ?_; intro we2 hx hp; have V2_b9 := Lib.hid (hp.oth _ _ _ NG.out.ac V1_b9.out); have V2_b10 := Lib.hid (hp.oth _ _ _ NG.out.bc V1_b10.out); have V2_b11 := Lib.hid (show Blk we2 b11 [.string tx, .int .i64 n, .int .i64 tg, .bool th, .string via, .slice aA al.length aC, .slice (some ⟨wc.heap.size + 1, 0, none⟩) 1 1, .slice uA us.length uC, .slice kA ks.length kC, .int .i64 d, .int .i64 x3, .int .i64 x4, .int .i64 x5, .int .i64 x6, .int .i64 x7, .int .i64 x8] 29 from hx); have V2_b12 := Lib.hid (hp.oth _ _ _ (Ne.symm NG.out.cd) V1_b12.out); have U3_b5 := Lib.hid (U2_b5.out.at_ (hp.bel _ NG.out.lc) HLb5.out); have U3_b6 := Lib.hid (U2_b6.out.at_ (hp.bel _ NG.out.lc) HLb6.out); have U3_b7 := Lib.hid (U2_b7.out.at_ (hp.bel _ NG.out.lc) HLb7.out); have U3_b8 := Lib.hid (U2_b8.out.at_ (hp.bel _ NG.out.lc) HLb8.out); have GA3 := Lib.hid (hp.oth _ _ _ HAb11.out GA2.out); have GB3 := Lib.hid (hp.oth _ _ _ HBb11.out GB2.out); have BG3 := Lib.hid (bel_put BG2.out hp NG.out.lc); clear hx hp GA2 GB2 BG2 V1_b9 V1_b10 V1_b11 V1_b12 U2_b5 U2_b6 U2_b7 U2_b8)
            | (refine store_one rfl 3 _ _ rfl b12 13 (.int .i64 1) [.string tx, .int .i64 n, .int .i64 tg, .bool th, .string via, .slice aA al.length aC, .slice dA dn.length dC, .slice uA us.length uC, .slice kA ks.length kC, .int .i64 d, .int .i64 x3, .int .i64 x4, .int .i64 x5, .int .i64 x6, .int .i64 x7, .int .i64 x8] 29 rfl rfl V2_b12.out j13 si3 rfl ?_; intro we3 hx hp; have V3_b9 := Lib.hid (hp.oth _ _ _ NG.out.ad V2_b9.out); have V3_b10 := Lib.hid (hp.oth _ _ _ NG.out.bd V2_b10.out); have V3_b11 := Lib.hid (hp.oth _ _ _ NG.out.cd V2_b11.out); have V3_b12 := Lib.hid (show Blk we3 b12 [.string tx, .int .i64 n, .int .i64 tg, .bool th, .string via, .slice aA al.length aC, .slice dA dn.length dC, .slice uA us.length uC, .slice kA ks.length kC, .int .i64 d, .int .i64 x3, .int .i64 x4, .int .i64 x5, .int .i64 1, .int .i64 x7, .int .i64 x8] 29 from hx); have U4_b5 := Lib.hid (U3_b5.out.at_ (hp.bel _ NG.out.ld) HLb5.out); have U4_b6 := Lib.hid (U3_b6.out.at_ (hp.bel _ NG.out.ld) HLb6.out); have U4_b7 := Lib.hid (U3_b7.out.at_ (hp.bel _ NG.out.ld) HLb7.out); have U4_b8 := Lib.hid (U3_b8.out.at_ (hp.bel _ NG.out.ld) HLb8.out); have GA4 := Lib.hid (hp.oth _ _ _ HAb12.out GA3.out); have GB4 := Lib.hid (hp.oth _ _ _ HBb12.out GB3.out); have BG4 := Lib.hid (bel_put BG3.out hp NG.out.ld); clear hx hp GA3 GB3 BG3 V2_b9 V2_b10 V2_b11 V2_b12 U3_b5 U3_b6 U3_b7 U3_b8)
            | fail)
          have BT := Lib.hid (BD.out.trans (BG4.out.mono BD.out.size))
          have HLt := Lib.hid (HL.out.below BT.out)
          have H9 := Lib.hid (HH.out.below BT.out)
          clear BG4 NG BD HL HH
          have hv0 : hasF (unL k) nText = false → pchk k ⟨⟨#[120]⟩, n, tg, th, via, al, dn, us, ks, d, x3, x4, x5, x6, x7, x8⟩ = 1 := fun hF => pchk_bad HK.out 0 (by decide) ((hasF_tab HK.out).1.symm.trans hF) (by kernel_rfl)
          have HU0 := Lib.hid (fun y (hb : Below we3.heap.size we3 y) => has33 k nText y (HLt.out.below hb))
          have I0 : IsC we3 ⟨⟨#[120]⟩, n, tg, th, via, al, dn, us, ks, d, x3, x4, x5, x6, x7, x8⟩ ⟨aA, aC, dA, dC, uA, uC, kA, kC⟩ := ⟨H9.out.al, H9.out.dn, H9.out.lv, sx0, H9.out.via, H9.out.n, H9.out.tg⟩
          have HK0 := Lib.hid (fun y (hb : Below we3.heap.size we3 y) => check14 k _ _ y (I0.below hb) (HLt.out.below hb))
          dsimp only [ccs, List.length] at HK0
          clear I0
          generalize hasF (unL k) nText = q0 at hv0 HU0
          generalize pchk k _ = v0 at hv0 HK0
          have HO0 := Lib.hid (or_one hv0)
          clear hv0
          have hv1 : hasF (unL k) nN = false → pchk k ⟨tx, 1, tg, th, via, al, dn, us, ks, d, x3, x4, x5, x6, x7, x8⟩ = 1 := fun hF => pchk_bad HK.out 1 (by decide) ((hasF_tab HK.out).2.1.symm.trans hF) (by kernel_rfl)
          have HU1 := Lib.hid (fun y (hb : Below we3.heap.size we3 y) => has33 k nN y (HLt.out.below hb))
          have I1 : IsC we3 ⟨tx, 1, tg, th, via, al, dn, us, ks, d, x3, x4, x5, x6, x7, x8⟩ ⟨aA, aC, dA, dC, uA, uC, kA, kC⟩ := ⟨H9.out.al, H9.out.dn, H9.out.lv, H9.out.tx, H9.out.via, on1, H9.out.tg⟩
          have HK1 := Lib.hid (fun y (hb : Below we3.heap.size we3 y) => check14 k _ _ y (I1.below hb) (HLt.out.below hb))
          dsimp only [ccs, List.length] at HK1
          clear I1
          generalize hasF (unL k) nN = q1 at hv1 HU1
          generalize pchk k _ = v1 at hv1 HK1
          have HO1 := Lib.hid (or_one hv1)
          clear hv1
          have hv2 : hasF (unL k) nTarget = false → pchk k ⟨tx, n, 1, th, via, al, dn, us, ks, d, x3, x4, x5, x6, x7, x8⟩ = 1 := fun hF => pchk_bad HK.out 2 (by decide) ((hasF_tab HK.out).2.2.1.symm.trans hF) (by kernel_rfl)
          have HU2 := Lib.hid (fun y (hb : Below we3.heap.size we3 y) => has33 k nTarget y (HLt.out.below hb))
          have I2 : IsC we3 ⟨tx, n, 1, th, via, al, dn, us, ks, d, x3, x4, x5, x6, x7, x8⟩ ⟨aA, aC, dA, dC, uA, uC, kA, kC⟩ := ⟨H9.out.al, H9.out.dn, H9.out.lv, H9.out.tx, H9.out.via, H9.out.n, on1⟩
          have HK2 := Lib.hid (fun y (hb : Below we3.heap.size we3 y) => check14 k _ _ y (I2.below hb) (HLt.out.below hb))
          dsimp only [ccs, List.length] at HK2
          clear I2
          generalize hasF (unL k) nTarget = q2 at hv2 HU2
          generalize pchk k _ = v2 at hv2 HK2
          have HO2 := Lib.hid (or_one hv2)
          clear hv2
          have hv3 : hasF (unL k) nThread = false → pchk k ⟨tx, n, tg, true, via, al, dn, us, ks, d, x3, x4, x5, x6, x7, x8⟩ = 1 := fun hF => pchk_bad HK.out 3 (by decide) ((hasF_tab HK.out).2.2.2.1.symm.trans hF) (by kernel_rfl)
          have HU3 := Lib.hid (fun y (hb : Below we3.heap.size we3 y) => has33 k nThread y (HLt.out.below hb))
          have I3 : IsC we3 ⟨tx, n, tg, true, via, al, dn, us, ks, d, x3, x4, x5, x6, x7, x8⟩ ⟨aA, aC, dA, dC, uA, uC, kA, kC⟩ := ⟨H9.out.al, H9.out.dn, H9.out.lv, H9.out.tx, H9.out.via, H9.out.n, H9.out.tg⟩
          have HK3 := Lib.hid (fun y (hb : Below we3.heap.size we3 y) => check14 k _ _ y (I3.below hb) (HLt.out.below hb))
          dsimp only [ccs, List.length] at HK3
          clear I3
          generalize hasF (unL k) nThread = q3 at hv3 HU3
          generalize pchk k _ = v3 at hv3 HK3
          have HO3 := Lib.hid (or_one hv3)
          clear hv3
          have hv4 : hasF (unL k) nVia = false → pchk k ⟨tx, n, tg, th, ⟨#[64, 97, 58, 98]⟩, al, dn, us, ks, d, x3, x4, x5, x6, x7, x8⟩ = 1 := fun hF => pchk_bad HK.out 4 (by decide) ((hasF_tab HK.out).2.2.2.2.1.symm.trans hF) (by kernel_rfl)
          have HU4 := Lib.hid (fun y (hb : Below we3.heap.size we3 y) => has33 k nVia y (HLt.out.below hb))
          have I4 : IsC we3 ⟨tx, n, tg, th, ⟨#[64, 97, 58, 98]⟩, al, dn, us, ks, d, x3, x4, x5, x6, x7, x8⟩ ⟨aA, aC, dA, dC, uA, uC, kA, kC⟩ := ⟨H9.out.al, H9.out.dn, H9.out.lv, H9.out.tx, sx4, H9.out.n, H9.out.tg⟩
          have HK4 := Lib.hid (fun y (hb : Below we3.heap.size we3 y) => check14 k _ _ y (I4.below hb) (HLt.out.below hb))
          dsimp only [ccs, List.length] at HK4
          clear I4
          generalize hasF (unL k) nVia = q4 at hv4 HU4
          generalize pchk k _ = v4 at hv4 HK4
          have HO4 := Lib.hid (or_one hv4)
          clear hv4
          have hv5 : hasF (unL k) nAllow = false → pchk k ⟨tx, n, tg, th, via, [⟨#[33, 97, 58, 98]⟩], dn, us, ks, d, x3, x4, x5, x6, x7, x8⟩ = 1 := fun hF => pchk_bad HK.out 5 (by decide) ((hasF_tab HK.out).2.2.2.2.2.1.symm.trans hF) (by simp [hz])
          have HU5 := Lib.hid (fun y (hb : Below we3.heap.size we3 y) => has33 k nAllow y (HLt.out.below hb))
          have I5 : IsC we3 ⟨tx, n, tg, th, via, [⟨#[33, 97, 58, 98]⟩], dn, us, ks, d, x3, x4, x5, x6, x7, x8⟩ ⟨some ⟨wc.heap.size, 0, none⟩, 1, dA, dC, uA, uC, kA, kC⟩ := ⟨txs_blk (ls := [⟨#[33, 97, 58, 98]⟩]) GA4.out (by decide) (by decide), H9.out.dn, H9.out.lv, H9.out.tx, H9.out.via, H9.out.n, H9.out.tg⟩
          have HK5 := Lib.hid (fun y (hb : Below we3.heap.size we3 y) => check14 k _ _ y (I5.below hb) (HLt.out.below hb))
          dsimp only [ccs, List.length] at HK5
          clear I5
          generalize hasF (unL k) nAllow = q5 at hv5 HU5
          generalize pchk k _ = v5 at hv5 HK5
          have HO5 := Lib.hid (or_one hv5)
          clear hv5
          have hv6 : hasF (unL k) nDeny = false → pchk k ⟨tx, n, tg, th, via, al, [⟨#[42]⟩], us, ks, d, x3, x4, x5, x6, x7, x8⟩ = 1 := fun hF => pchk_bad HK.out 6 (by decide) ((hasF_tab HK.out).2.2.2.2.2.2.1.symm.trans hF) (by simp [hz])
          have HU6 := Lib.hid (fun y (hb : Below we3.heap.size we3 y) => has33 k nDeny y (HLt.out.below hb))
          have I6 : IsC we3 ⟨tx, n, tg, th, via, al, [⟨#[42]⟩], us, ks, d, x3, x4, x5, x6, x7, x8⟩ ⟨aA, aC, some ⟨wc.heap.size + 1, 0, none⟩, 1, uA, uC, kA, kC⟩ := ⟨H9.out.al, txs_blk (ls := [⟨#[42]⟩]) GB4.out (by decide) (by decide), H9.out.lv, H9.out.tx, H9.out.via, H9.out.n, H9.out.tg⟩
          have HK6 := Lib.hid (fun y (hb : Below we3.heap.size we3 y) => check14 k _ _ y (I6.below hb) (HLt.out.below hb))
          dsimp only [ccs, List.length] at HK6
          clear I6
          generalize hasF (unL k) nDeny = q6 at hv6 HU6
          generalize pchk k _ = v6 at hv6 HK6
          have HO6 := Lib.hid (or_one hv6)
          clear hv6
          have hv7 : hasF (unL k) nLevels = false → pchk k ⟨tx, n, tg, th, via, al, dn, us, ks, d, x3, x4, x5, 1, x7, x8⟩ = 1 := fun hF => pchk_bad HK.out 7 (by decide) ((hasF_tab HK.out).2.2.2.2.2.2.2.symm.trans hF) (by simp [hz, sameL, sameN])
          have HU7 := Lib.hid (fun y (hb : Below we3.heap.size we3 y) => has33 k nLevels y (HLt.out.below hb))
          have I7 : IsC we3 ⟨tx, n, tg, th, via, al, dn, us, ks, d, x3, x4, x5, 1, x7, x8⟩ ⟨aA, aC, dA, dC, uA, uC, kA, kC⟩ := ⟨H9.out.al, H9.out.dn, ⟨H9.out.lv.us, H9.out.lv.ks, H9.out.lv.fu, H9.out.lv.fk, H9.out.lv.nm.1, H9.out.lv.nm.2.1, H9.out.lv.nm.2.2.1, H9.out.lv.nm.2.2.2.1, on1, H9.out.lv.nm.2.2.2.2.2.1, H9.out.lv.nm.2.2.2.2.2.2⟩, H9.out.tx, H9.out.via, H9.out.n, H9.out.tg⟩
          have HK7 := Lib.hid (fun y (hb : Below we3.heap.size we3 y) => check14 k _ _ y (I7.below hb) (HLt.out.below hb))
          dsimp only [ccs, List.length] at HK7
          clear I7
          generalize hasF (unL k) nLevels = q7 at hv7 HU7
          generalize pchk k _ = v7 at hv7 HK7
          have HO7 := Lib.hid (or_one hv7)
          clear hv7
          have BW0 := Lib.hid (Below.refl we3.heap.size we3)
          clear H9 HK
          simp only [List.append_eq, List.cons_append, List.nil_append]
          refine wp_region_lit ?_
          refine st_val (v := .int .i64 k) (by kernel_rfl) (by rfl) ?_
          try simp only [Act.put, List.setIfInBounds_toArray, List.set_cons_zero, List.set_cons_succ]
          refine st_callB 33 #[.int .i64 k, .string ⟨#[84, 101, 120, 116]⟩] (.bool q0) (by kernel_rfl) (fun _ => by kernel_rfl) (HU0.out _ BW0.out) ?_
          intro y1 hb
          have BW1 := Lib.hid (BW0.out.trans (hb.mono BW0.out.size))
          clear hb
          try simp only [Act.put, List.setIfInBounds_toArray, List.set_cons_zero, List.set_cons_succ]
          refine st_val (v := .bool q0) (by kernel_rfl) (by rfl) ?_
          try simp only [Act.put, List.setIfInBounds_toArray, List.set_cons_zero, List.set_cons_succ]
          refine or5_join 14 #[.int .i64 k, .agg #[.string ⟨#[120]⟩, .int .i64 n, .int .i64 tg, .bool th, .string via, .slice aA al.length aC, .slice dA dn.length dC, .slice uA us.length uC, .slice kA ks.length kC, .int .i64 d, .int .i64 x3, .int .i64 x4, .int .i64 x5, .int .i64 x6, .int .i64 x7, .int .i64 x8]] q0 v0 HO0.out (.int .i64 k) (.agg #[.string ⟨#[120]⟩, .int .i64 n, .int .i64 tg, .bool th, .string via, .slice aA al.length aC, .slice dA dn.length dC, .slice uA us.length uC, .slice kA ks.length kC, .int .i64 d, .int .i64 x3, .int .i64 x4, .int .i64 x5, .int .i64 x6, .int .i64 x7, .int .i64 x8]) ?_ ?_ ?_ ?_ ?_ ?_ ?_ ?_ ?_ ?_ ?_ (HK0.out _ BW1.out) ?_
          · cases q0 <;> kernel_rfl
          · kernel_rfl
          · intro _; cases q0 <;> kernel_rfl
          · exact exec_load 29 _ rfl b5 0 rfl [.string ⟨#[120]⟩, .int .i64 n, .int .i64 tg, .bool th, .string via, .slice aA al.length aC, .slice dA dn.length dC, .slice uA us.length uC, .slice kA ks.length kC, .int .i64 d, .int .i64 x3, .int .i64 x4, .int .i64 x5, .int .i64 x6, .int .i64 x7, .int .i64 x8] _ (U4_b5.out.below BW1.out).range Tryz.underlying29 rfl size29
          · intro _ _; cases q0 <;> kernel_rfl
          · intro _; kernel_rfl
          · intro _ _ _; cases q0 <;> kernel_rfl
          · intro _ _ _ _; kernel_rfl
          · intro _ _ _ _; kernel_rfl
          · intro hz _ _ _ _ _; subst hz; kernel_rfl
          · intro hz _ _ _ _; subst hz; kernel_rfl
          intro o0a o0b o0c o0d y2 hb
          have BW2 := Lib.hid (BW1.out.trans (hb.mono BW1.out.size))
          clear hb HU0 HO0 HK0
          try simp only [Act.put, List.setIfInBounds_toArray, List.set_cons_zero, List.set_cons_succ]
          refine st_val (v := .bool true) (by kernel_rfl) (by rfl) ?_
          try simp only [Act.put, List.setIfInBounds_toArray, List.set_cons_zero, List.set_cons_succ]
          refine st_val (v := .int .i64 k) (by kernel_rfl) (by rfl) ?_
          try simp only [Act.put, List.setIfInBounds_toArray, List.set_cons_zero, List.set_cons_succ]
          refine st_callB 33 #[.int .i64 k, .string ⟨#[78]⟩] (.bool q1) (by kernel_rfl) (fun _ => by kernel_rfl) (HU1.out _ BW2.out) ?_
          intro y3 hb
          have BW3 := Lib.hid (BW2.out.trans (hb.mono BW2.out.size))
          clear hb
          try simp only [Act.put, List.setIfInBounds_toArray, List.set_cons_zero, List.set_cons_succ]
          refine st_val (v := .bool q1) (by kernel_rfl) (by rfl) ?_
          try simp only [Act.put, List.setIfInBounds_toArray, List.set_cons_zero, List.set_cons_succ]
          refine or5_join 14 #[.int .i64 k, .agg #[.string tx, .int .i64 1, .int .i64 tg, .bool th, .string via, .slice aA al.length aC, .slice dA dn.length dC, .slice uA us.length uC, .slice kA ks.length kC, .int .i64 d, .int .i64 x3, .int .i64 x4, .int .i64 x5, .int .i64 x6, .int .i64 x7, .int .i64 x8]] q1 v1 HO1.out (.int .i64 k) (.agg #[.string tx, .int .i64 1, .int .i64 tg, .bool th, .string via, .slice aA al.length aC, .slice dA dn.length dC, .slice uA us.length uC, .slice kA ks.length kC, .int .i64 d, .int .i64 x3, .int .i64 x4, .int .i64 x5, .int .i64 x6, .int .i64 x7, .int .i64 x8]) ?_ ?_ ?_ ?_ ?_ ?_ ?_ ?_ ?_ ?_ ?_ (HK1.out _ BW3.out) ?_
          · cases q1 <;> kernel_rfl
          · kernel_rfl
          · intro _; cases q1 <;> kernel_rfl
          · exact exec_load 29 _ rfl b6 0 rfl [.string tx, .int .i64 1, .int .i64 tg, .bool th, .string via, .slice aA al.length aC, .slice dA dn.length dC, .slice uA us.length uC, .slice kA ks.length kC, .int .i64 d, .int .i64 x3, .int .i64 x4, .int .i64 x5, .int .i64 x6, .int .i64 x7, .int .i64 x8] _ (U4_b6.out.below BW3.out).range Tryz.underlying29 rfl size29
          · intro _ _; cases q1 <;> kernel_rfl
          · intro _; kernel_rfl
          · intro _ _ _; cases q1 <;> kernel_rfl
          · intro _ _ _ _; kernel_rfl
          · intro _ _ _ _; kernel_rfl
          · intro hz _ _ _ _ _; subst hz; kernel_rfl
          · intro hz _ _ _ _; subst hz; kernel_rfl
          intro o1a o1b o1c o1d y4 hb
          have BW4 := Lib.hid (BW3.out.trans (hb.mono BW3.out.size))
          clear hb HU1 HO1 HK1
          try simp only [Act.put, List.setIfInBounds_toArray, List.set_cons_zero, List.set_cons_succ]
          refine st_val (v := .bool true) (by kernel_rfl) (by rfl) ?_
          try simp only [Act.put, List.setIfInBounds_toArray, List.set_cons_zero, List.set_cons_succ]
          refine st_val (v := .bool true) (by kernel_rfl) (by rfl) ?_
          try simp only [Act.put, List.setIfInBounds_toArray, List.set_cons_zero, List.set_cons_succ]
          refine st_val (v := .int .i64 k) (by kernel_rfl) (by rfl) ?_
          try simp only [Act.put, List.setIfInBounds_toArray, List.set_cons_zero, List.set_cons_succ]
          refine st_callB 33 #[.int .i64 k, .string ⟨#[84, 97, 114, 103, 101, 116]⟩] (.bool q2) (by kernel_rfl) (fun _ => by kernel_rfl) (HU2.out _ BW4.out) ?_
          intro y5 hb
          have BW5 := Lib.hid (BW4.out.trans (hb.mono BW4.out.size))
          clear hb
          try simp only [Act.put, List.setIfInBounds_toArray, List.set_cons_zero, List.set_cons_succ]
          refine st_val (v := .bool q2) (by kernel_rfl) (by rfl) ?_
          try simp only [Act.put, List.setIfInBounds_toArray, List.set_cons_zero, List.set_cons_succ]
          refine or5_join 14 #[.int .i64 k, .agg #[.string tx, .int .i64 n, .int .i64 1, .bool th, .string via, .slice aA al.length aC, .slice dA dn.length dC, .slice uA us.length uC, .slice kA ks.length kC, .int .i64 d, .int .i64 x3, .int .i64 x4, .int .i64 x5, .int .i64 x6, .int .i64 x7, .int .i64 x8]] q2 v2 HO2.out (.int .i64 k) (.agg #[.string tx, .int .i64 n, .int .i64 1, .bool th, .string via, .slice aA al.length aC, .slice dA dn.length dC, .slice uA us.length uC, .slice kA ks.length kC, .int .i64 d, .int .i64 x3, .int .i64 x4, .int .i64 x5, .int .i64 x6, .int .i64 x7, .int .i64 x8]) ?_ ?_ ?_ ?_ ?_ ?_ ?_ ?_ ?_ ?_ ?_ (HK2.out _ BW5.out) ?_
          · cases q2 <;> kernel_rfl
          · kernel_rfl
          · intro _; cases q2 <;> kernel_rfl
          · exact exec_load 29 _ rfl b7 0 rfl [.string tx, .int .i64 n, .int .i64 1, .bool th, .string via, .slice aA al.length aC, .slice dA dn.length dC, .slice uA us.length uC, .slice kA ks.length kC, .int .i64 d, .int .i64 x3, .int .i64 x4, .int .i64 x5, .int .i64 x6, .int .i64 x7, .int .i64 x8] _ (U4_b7.out.below BW5.out).range Tryz.underlying29 rfl size29
          · intro _ _; cases q2 <;> kernel_rfl
          · intro _; kernel_rfl
          · intro _ _ _; cases q2 <;> kernel_rfl
          · intro _ _ _ _; kernel_rfl
          · intro _ _ _ _; kernel_rfl
          · intro hz _ _ _ _ _; subst hz; kernel_rfl
          · intro hz _ _ _ _; subst hz; kernel_rfl
          intro o2a o2b o2c o2d y6 hb
          have BW6 := Lib.hid (BW5.out.trans (hb.mono BW5.out.size))
          clear hb HU2 HO2 HK2
          try simp only [Act.put, List.setIfInBounds_toArray, List.set_cons_zero, List.set_cons_succ]
          refine st_val (v := .bool true) (by kernel_rfl) (by rfl) ?_
          try simp only [Act.put, List.setIfInBounds_toArray, List.set_cons_zero, List.set_cons_succ]
          refine st_val (v := .bool true) (by kernel_rfl) (by rfl) ?_
          try simp only [Act.put, List.setIfInBounds_toArray, List.set_cons_zero, List.set_cons_succ]
          refine st_val (v := .int .i64 k) (by kernel_rfl) (by rfl) ?_
          try simp only [Act.put, List.setIfInBounds_toArray, List.set_cons_zero, List.set_cons_succ]
          refine st_callB 33 #[.int .i64 k, .string ⟨#[86, 105, 97]⟩] (.bool q4) (by kernel_rfl) (fun _ => by kernel_rfl) (HU4.out _ BW6.out) ?_
          intro y7 hb
          have BW7 := Lib.hid (BW6.out.trans (hb.mono BW6.out.size))
          clear hb
          try simp only [Act.put, List.setIfInBounds_toArray, List.set_cons_zero, List.set_cons_succ]
          refine st_val (v := .bool q4) (by kernel_rfl) (by rfl) ?_
          try simp only [Act.put, List.setIfInBounds_toArray, List.set_cons_zero, List.set_cons_succ]
          refine or5_join 14 #[.int .i64 k, .agg #[.string tx, .int .i64 n, .int .i64 tg, .bool th, .string ⟨#[64, 97, 58, 98]⟩, .slice aA al.length aC, .slice dA dn.length dC, .slice uA us.length uC, .slice kA ks.length kC, .int .i64 d, .int .i64 x3, .int .i64 x4, .int .i64 x5, .int .i64 x6, .int .i64 x7, .int .i64 x8]] q4 v4 HO4.out (.int .i64 k) (.agg #[.string tx, .int .i64 n, .int .i64 tg, .bool th, .string ⟨#[64, 97, 58, 98]⟩, .slice aA al.length aC, .slice dA dn.length dC, .slice uA us.length uC, .slice kA ks.length kC, .int .i64 d, .int .i64 x3, .int .i64 x4, .int .i64 x5, .int .i64 x6, .int .i64 x7, .int .i64 x8]) ?_ ?_ ?_ ?_ ?_ ?_ ?_ ?_ ?_ ?_ ?_ (HK4.out _ BW7.out) ?_
          · cases q4 <;> kernel_rfl
          · kernel_rfl
          · intro _; cases q4 <;> kernel_rfl
          · exact exec_load 29 _ rfl b8 0 rfl [.string tx, .int .i64 n, .int .i64 tg, .bool th, .string ⟨#[64, 97, 58, 98]⟩, .slice aA al.length aC, .slice dA dn.length dC, .slice uA us.length uC, .slice kA ks.length kC, .int .i64 d, .int .i64 x3, .int .i64 x4, .int .i64 x5, .int .i64 x6, .int .i64 x7, .int .i64 x8] _ (U4_b8.out.below BW7.out).range Tryz.underlying29 rfl size29
          · intro _ _; cases q4 <;> kernel_rfl
          · intro _; kernel_rfl
          · intro _ _ _; cases q4 <;> kernel_rfl
          · intro _ _ _ _; kernel_rfl
          · intro _ _ _ _; kernel_rfl
          · intro hz _ _ _ _ _; subst hz; kernel_rfl
          · intro hz _ _ _ _; subst hz; kernel_rfl
          intro o4a o4b o4c o4d y8 hb
          have BW8 := Lib.hid (BW7.out.trans (hb.mono BW7.out.size))
          clear hb HU4 HO4 HK4
          try simp only [Act.put, List.setIfInBounds_toArray, List.set_cons_zero, List.set_cons_succ]
          refine st_val (v := .bool true) (by kernel_rfl) (by rfl) ?_
          try simp only [Act.put, List.setIfInBounds_toArray, List.set_cons_zero, List.set_cons_succ]
          refine st_val (v := .bool true) (by kernel_rfl) (by rfl) ?_
          try simp only [Act.put, List.setIfInBounds_toArray, List.set_cons_zero, List.set_cons_succ]
          refine st_val (v := .int .i64 k) (by kernel_rfl) (by rfl) ?_
          try simp only [Act.put, List.setIfInBounds_toArray, List.set_cons_zero, List.set_cons_succ]
          refine st_callB 33 #[.int .i64 k, .string ⟨#[84, 104, 114, 101, 97, 100]⟩] (.bool q3) (by kernel_rfl) (fun _ => by kernel_rfl) (HU3.out _ BW8.out) ?_
          intro y9 hb
          have BW9 := Lib.hid (BW8.out.trans (hb.mono BW8.out.size))
          clear hb
          try simp only [Act.put, List.setIfInBounds_toArray, List.set_cons_zero, List.set_cons_succ]
          refine st_val (v := .bool q3) (by kernel_rfl) (by rfl) ?_
          try simp only [Act.put, List.setIfInBounds_toArray, List.set_cons_zero, List.set_cons_succ]
          refine or5_join 14 #[.int .i64 k, .agg #[.string tx, .int .i64 n, .int .i64 tg, .bool true, .string via, .slice aA al.length aC, .slice dA dn.length dC, .slice uA us.length uC, .slice kA ks.length kC, .int .i64 d, .int .i64 x3, .int .i64 x4, .int .i64 x5, .int .i64 x6, .int .i64 x7, .int .i64 x8]] q3 v3 HO3.out (.int .i64 k) (.agg #[.string tx, .int .i64 n, .int .i64 tg, .bool true, .string via, .slice aA al.length aC, .slice dA dn.length dC, .slice uA us.length uC, .slice kA ks.length kC, .int .i64 d, .int .i64 x3, .int .i64 x4, .int .i64 x5, .int .i64 x6, .int .i64 x7, .int .i64 x8]) ?_ ?_ ?_ ?_ ?_ ?_ ?_ ?_ ?_ ?_ ?_ (HK3.out _ BW9.out) ?_
          · cases q3 <;> kernel_rfl
          · kernel_rfl
          · intro _; cases q3 <;> kernel_rfl
          · exact exec_load 29 _ rfl b9 0 rfl [.string tx, .int .i64 n, .int .i64 tg, .bool true, .string via, .slice aA al.length aC, .slice dA dn.length dC, .slice uA us.length uC, .slice kA ks.length kC, .int .i64 d, .int .i64 x3, .int .i64 x4, .int .i64 x5, .int .i64 x6, .int .i64 x7, .int .i64 x8] _ (V3_b9.out.below BW9.out).range Tryz.underlying29 rfl size29
          · intro _ _; cases q3 <;> kernel_rfl
          · intro _; kernel_rfl
          · intro _ _ _; cases q3 <;> kernel_rfl
          · intro _ _ _ _; kernel_rfl
          · intro _ _ _ _; kernel_rfl
          · intro hz _ _ _ _ _; subst hz; kernel_rfl
          · intro hz _ _ _ _; subst hz; kernel_rfl
          intro o3a o3b o3c o3d y10 hb
          have BW10 := Lib.hid (BW9.out.trans (hb.mono BW9.out.size))
          clear hb HU3 HO3 HK3
          try simp only [Act.put, List.setIfInBounds_toArray, List.set_cons_zero, List.set_cons_succ]
          refine st_val (v := .bool true) (by kernel_rfl) (by rfl) ?_
          try simp only [Act.put, List.setIfInBounds_toArray, List.set_cons_zero, List.set_cons_succ]
          refine st_val (v := .bool true) (by kernel_rfl) (by rfl) ?_
          try simp only [Act.put, List.setIfInBounds_toArray, List.set_cons_zero, List.set_cons_succ]
          refine st_val (v := .int .i64 k) (by kernel_rfl) (by rfl) ?_
          try simp only [Act.put, List.setIfInBounds_toArray, List.set_cons_zero, List.set_cons_succ]
          refine st_callB 33 #[.int .i64 k, .string ⟨#[65, 108, 108, 111, 119]⟩] (.bool q5) (by kernel_rfl) (fun _ => by kernel_rfl) (HU5.out _ BW10.out) ?_
          intro y11 hb
          have BW11 := Lib.hid (BW10.out.trans (hb.mono BW10.out.size))
          clear hb
          try simp only [Act.put, List.setIfInBounds_toArray, List.set_cons_zero, List.set_cons_succ]
          refine st_val (v := .bool q5) (by kernel_rfl) (by rfl) ?_
          try simp only [Act.put, List.setIfInBounds_toArray, List.set_cons_zero, List.set_cons_succ]
          refine or5_join 14 #[.int .i64 k, .agg #[.string tx, .int .i64 n, .int .i64 tg, .bool th, .string via, .slice (some ⟨wc.heap.size, 0, none⟩) 1 1, .slice dA dn.length dC, .slice uA us.length uC, .slice kA ks.length kC, .int .i64 d, .int .i64 x3, .int .i64 x4, .int .i64 x5, .int .i64 x6, .int .i64 x7, .int .i64 x8]] q5 v5 HO5.out (.int .i64 k) (.agg #[.string tx, .int .i64 n, .int .i64 tg, .bool th, .string via, .slice (some ⟨wc.heap.size, 0, none⟩) 1 1, .slice dA dn.length dC, .slice uA us.length uC, .slice kA ks.length kC, .int .i64 d, .int .i64 x3, .int .i64 x4, .int .i64 x5, .int .i64 x6, .int .i64 x7, .int .i64 x8]) ?_ ?_ ?_ ?_ ?_ ?_ ?_ ?_ ?_ ?_ ?_ (HK5.out _ BW11.out) ?_
          · cases q5 <;> kernel_rfl
          · kernel_rfl
          · intro _; cases q5 <;> kernel_rfl
          · exact exec_load 29 _ rfl b10 0 rfl [.string tx, .int .i64 n, .int .i64 tg, .bool th, .string via, .slice (some ⟨wc.heap.size, 0, none⟩) 1 1, .slice dA dn.length dC, .slice uA us.length uC, .slice kA ks.length kC, .int .i64 d, .int .i64 x3, .int .i64 x4, .int .i64 x5, .int .i64 x6, .int .i64 x7, .int .i64 x8] _ (V3_b10.out.below BW11.out).range Tryz.underlying29 rfl size29
          · intro _ _; cases q5 <;> kernel_rfl
          · intro _; kernel_rfl
          · intro _ _ _; cases q5 <;> kernel_rfl
          · intro _ _ _ _; kernel_rfl
          · intro _ _ _ _; kernel_rfl
          · intro hz _ _ _ _ _; subst hz; kernel_rfl
          · intro hz _ _ _ _; subst hz; kernel_rfl
          intro o5a o5b o5c o5d y12 hb
          have BW12 := Lib.hid (BW11.out.trans (hb.mono BW11.out.size))
          clear hb HU5 HO5 HK5
          try simp only [Act.put, List.setIfInBounds_toArray, List.set_cons_zero, List.set_cons_succ]
          refine st_val (v := .bool true) (by kernel_rfl) (by rfl) ?_
          try simp only [Act.put, List.setIfInBounds_toArray, List.set_cons_zero, List.set_cons_succ]
          refine st_val (v := .bool true) (by kernel_rfl) (by rfl) ?_
          try simp only [Act.put, List.setIfInBounds_toArray, List.set_cons_zero, List.set_cons_succ]
          refine st_val (v := .int .i64 k) (by kernel_rfl) (by rfl) ?_
          try simp only [Act.put, List.setIfInBounds_toArray, List.set_cons_zero, List.set_cons_succ]
          refine st_callB 33 #[.int .i64 k, .string ⟨#[68, 101, 110, 121]⟩] (.bool q6) (by kernel_rfl) (fun _ => by kernel_rfl) (HU6.out _ BW12.out) ?_
          intro y13 hb
          have BW13 := Lib.hid (BW12.out.trans (hb.mono BW12.out.size))
          clear hb
          try simp only [Act.put, List.setIfInBounds_toArray, List.set_cons_zero, List.set_cons_succ]
          refine st_val (v := .bool q6) (by kernel_rfl) (by rfl) ?_
          try simp only [Act.put, List.setIfInBounds_toArray, List.set_cons_zero, List.set_cons_succ]
          refine or5_join 14 #[.int .i64 k, .agg #[.string tx, .int .i64 n, .int .i64 tg, .bool th, .string via, .slice aA al.length aC, .slice (some ⟨wc.heap.size + 1, 0, none⟩) 1 1, .slice uA us.length uC, .slice kA ks.length kC, .int .i64 d, .int .i64 x3, .int .i64 x4, .int .i64 x5, .int .i64 x6, .int .i64 x7, .int .i64 x8]] q6 v6 HO6.out (.int .i64 k) (.agg #[.string tx, .int .i64 n, .int .i64 tg, .bool th, .string via, .slice aA al.length aC, .slice (some ⟨wc.heap.size + 1, 0, none⟩) 1 1, .slice uA us.length uC, .slice kA ks.length kC, .int .i64 d, .int .i64 x3, .int .i64 x4, .int .i64 x5, .int .i64 x6, .int .i64 x7, .int .i64 x8]) ?_ ?_ ?_ ?_ ?_ ?_ ?_ ?_ ?_ ?_ ?_ (HK6.out _ BW13.out) ?_
          · cases q6 <;> kernel_rfl
          · kernel_rfl
          · intro _; cases q6 <;> kernel_rfl
          · exact exec_load 29 _ rfl b11 0 rfl [.string tx, .int .i64 n, .int .i64 tg, .bool th, .string via, .slice aA al.length aC, .slice (some ⟨wc.heap.size + 1, 0, none⟩) 1 1, .slice uA us.length uC, .slice kA ks.length kC, .int .i64 d, .int .i64 x3, .int .i64 x4, .int .i64 x5, .int .i64 x6, .int .i64 x7, .int .i64 x8] _ (V3_b11.out.below BW13.out).range Tryz.underlying29 rfl size29
          · intro _ _; cases q6 <;> kernel_rfl
          · intro _; kernel_rfl
          · intro _ _ _; cases q6 <;> kernel_rfl
          · intro _ _ _ _; kernel_rfl
          · intro _ _ _ _; kernel_rfl
          · intro hz _ _ _ _ _; subst hz; kernel_rfl
          · intro hz _ _ _ _; subst hz; kernel_rfl
          intro o6a o6b o6c o6d y14 hb
          have BW14 := Lib.hid (BW13.out.trans (hb.mono BW13.out.size))
          clear hb HU6 HO6 HK6
          try simp only [Act.put, List.setIfInBounds_toArray, List.set_cons_zero, List.set_cons_succ]
          refine st_val (v := .bool true) (by kernel_rfl) (by rfl) ?_
          try simp only [Act.put, List.setIfInBounds_toArray, List.set_cons_zero, List.set_cons_succ]
          refine st_val (v := .bool true) (by kernel_rfl) (by rfl) ?_
          try simp only [Act.put, List.setIfInBounds_toArray, List.set_cons_zero, List.set_cons_succ]
          refine st_val (v := .int .i64 k) (by kernel_rfl) (by rfl) ?_
          try simp only [Act.put, List.setIfInBounds_toArray, List.set_cons_zero, List.set_cons_succ]
          refine st_callB 33 #[.int .i64 k, .string ⟨#[76, 101, 118, 101, 108, 115]⟩] (.bool q7) (by kernel_rfl) (fun _ => by kernel_rfl) (HU7.out _ BW14.out) ?_
          intro y15 hb
          have BW15 := Lib.hid (BW14.out.trans (hb.mono BW14.out.size))
          clear hb
          try simp only [Act.put, List.setIfInBounds_toArray, List.set_cons_zero, List.set_cons_succ]
          refine st_val (v := .bool q7) (by kernel_rfl) (by rfl) ?_
          try simp only [Act.put, List.setIfInBounds_toArray, List.set_cons_zero, List.set_cons_succ]
          refine or5_join 14 #[.int .i64 k, .agg #[.string tx, .int .i64 n, .int .i64 tg, .bool th, .string via, .slice aA al.length aC, .slice dA dn.length dC, .slice uA us.length uC, .slice kA ks.length kC, .int .i64 d, .int .i64 x3, .int .i64 x4, .int .i64 x5, .int .i64 1, .int .i64 x7, .int .i64 x8]] q7 v7 HO7.out (.int .i64 k) (.agg #[.string tx, .int .i64 n, .int .i64 tg, .bool th, .string via, .slice aA al.length aC, .slice dA dn.length dC, .slice uA us.length uC, .slice kA ks.length kC, .int .i64 d, .int .i64 x3, .int .i64 x4, .int .i64 x5, .int .i64 1, .int .i64 x7, .int .i64 x8]) ?_ ?_ ?_ ?_ ?_ ?_ ?_ ?_ ?_ ?_ ?_ (HK7.out _ BW15.out) ?_
          · cases q7 <;> kernel_rfl
          · kernel_rfl
          · intro _; cases q7 <;> kernel_rfl
          · exact exec_load 29 _ rfl b12 0 rfl [.string tx, .int .i64 n, .int .i64 tg, .bool th, .string via, .slice aA al.length aC, .slice dA dn.length dC, .slice uA us.length uC, .slice kA ks.length kC, .int .i64 d, .int .i64 x3, .int .i64 x4, .int .i64 x5, .int .i64 1, .int .i64 x7, .int .i64 x8] _ (V3_b12.out.below BW15.out).range Tryz.underlying29 rfl size29
          · intro _ _; cases q7 <;> kernel_rfl
          · intro _; kernel_rfl
          · intro _ _ _; cases q7 <;> kernel_rfl
          · intro _ _ _ _; kernel_rfl
          · intro _ _ _ _; kernel_rfl
          · intro hz _ _ _ _ _; subst hz; kernel_rfl
          · intro hz _ _ _ _; subst hz; kernel_rfl
          intro o7a o7b o7c o7d y16 hb
          have BW16 := Lib.hid (BW15.out.trans (hb.mono BW15.out.size))
          clear hb HU7 HO7 HK7
          try simp only [Act.put, List.setIfInBounds_toArray, List.set_cons_zero, List.set_cons_succ]
          refine st_val (v := .bool true) (by kernel_rfl) (by rfl) ?_
          try simp only [Act.put, List.setIfInBounds_toArray, List.set_cons_zero, List.set_cons_succ]
          refine st_val (v := .bool true) (by kernel_rfl) (by rfl) ?_
          try simp only [Act.put, List.setIfInBounds_toArray, List.set_cons_zero, List.set_cons_succ]
          refine st_callB 16 #[] (.bool true) (by kernel_rfl) (fun _ => by kernel_rfl) (live16 _ (HLt.out.below BW16.out)) ?_
          intro y17 hb
          have BW17 := Lib.hid (BW16.out.trans (hb.mono BW16.out.size))
          clear hb
          try simp only [Act.put, List.setIfInBounds_toArray, List.set_cons_zero, List.set_cons_succ]
          refine st_val (v := .bool true) (by kernel_rfl) (by rfl) ?_
          try simp only [Act.put, List.setIfInBounds_toArray, List.set_cons_zero, List.set_cons_succ]
          go_wp2
          go_ret
          exact ⟨rfl, BT.out.trans (BW17.out.mono BT.out.size)⟩
  · have n1 : (pc != 0) = true := by simpa using e1
    have n2 : (pc == 0) = false := by simpa using e1
    clear HP
    go_enter Tryz.func11, Tryz.ntmps11
    go_wp2_with (first
      | (refine wpList_load_mid rfl 29 _ rfl w.heap.size 0 rfl [.string tx, .int .i64 n, .int .i64 tg, .bool th, .string via, .slice aA al.length aC, .slice dA dn.length dC, .slice uA us.length uC, .slice kA ks.length kC, .int .i64 d, .int .i64 x3, .int .i64 x4, .int .i64 x5, .int .i64 x6, .int .i64 x7, .int .i64 x8] _ XA.out.range Tryz.underlying29 rfl size29 ?_)
      | (go_at_call 13; (with_reducible refine HF.out.mono ?_); rintro e w1 ⟨q, rfl, hq, hb⟩; have B1 := Lib.hid (BA.out.trans (hb.mono BA.out.size)); have X1 := Lib.hid (XA.out.below hb); have Q1 := Lib.hid hq; clear hq hb; cases q)
      | (refine load_mid_g (by rfl) 29 _ rfl w.heap.size 0 rfl [.string tx, .int .i64 n, .int .i64 tg, .bool th, .string via, .slice aA al.length aC, .slice dA dn.length dC, .slice uA us.length uC, .slice kA ks.length kC, .int .i64 d, .int .i64 x3, .int .i64 x4, .int .i64 x5, .int .i64 x6, .int .i64 x7, .int .i64 x8] _ X1.out.range Tryz.underlying29 rfl size29 ?_)
      | (go_at_call 14; (with_reducible refine (HC.out _ B1.out).mono ?_); rintro e w2 ⟨rfl, hb⟩; have B2 := Lib.hid (B1.out.trans (hb.mono B1.out.size)); have X2 := Lib.hid (X1.out.below hb); clear hb)
      | (go_at_call 16; (with_reducible refine (live16 _ (HL.out.below B2.out)).mono ?_); rintro e w9 ⟨rfl, hb⟩; have B9 := Lib.hid (B2.out.trans (hb.mono B2.out.size)); clear hb)
      | (go_at_call 16; (with_reducible refine (live16 _ (HL.out.below B1.out)).mono ?_); rintro e w9 ⟨rfl, hb⟩; have B9 := Lib.hid (B1.out.trans (hb.mono B1.out.size)); clear hb)
      | fail)
    all_goals
      go_ret
      exact ⟨rfl, B9.out⟩
end Go.Proofs.YtdacjnlfjaegiaaGreatDoor
