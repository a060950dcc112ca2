/- Sessions: Stale, Wants of the reference. Bounds: as holders; at most 900000 shares. -/
import Derived.Test.YtbkchcpfnoclhaaV12
namespace Go.Proofs.Ytbkchcpfnoclhaa
open Go Go.RowKit
set_option linter.unusedVariables false
set_option linter.unusedSimpArgs false
set_option maxRecDepth 100000

theorem alloc55 (w : World) : (Instr.alloc 55 true (.tuple #[])).run Try.prog w = .ok (.pointer (some ⟨w.heap.size, 0, none⟩)) (w.alloc (.cells ([.string ⟨#[]⟩, .string ⟨#[]⟩, .int .i64 0] : List Value).toArray 55)) := by kernel_rfl
theorem smH_pair (u d : ByteArray) (p : Rc) : smH u d p = decide ((p.us, p.dv) = (u, d)) := by
  unfold smH
  rw [Bool.eq_iff_iff]
  simp [Prod.ext_iff]
theorem shP_hsS (u d : ByteArray) (l : List Rc) : (shP u d l).2 = hsS l (u, d) := by
  rw [shP_any]
  unfold hsS
  congr 1
  funext p
  exact smH_pair u d p
theorem shP_hsH (u d : ByteArray) (hl : List Hd.Rc) (ix : Int) : (shP u d (shL hl ix)).2 = hsH hl (u, d) := by
  rw [shP_any]
  unfold hsH shL
  rw [List.any_map]
  congr 1
  funext p
  exact smH_pair u d ⟨p.us, p.dv, ix⟩
theorem shL_at {hl : List Hd.Rc} {ix : Int} {k : Nat} (hk : k < hl.length) : (shL hl ix).getD k t0 = ⟨(hl.getD k Hd.t0).us, (hl.getD k Hd.t0).dv, ix⟩ := by
  unfold shL
  rw [getD_at (by rw [List.length_map]; exact hk), Hd.getD_at hk, List.getElem_map]
theorem shL_len (hl : List Hd.Rc) (ix : Int) : (shL hl ix).length = hl.length := by unfold shL; rw [List.length_map]
theorem stl_no {l : List Rc} {hl : List Hd.Rc} (h : ∀ j, j < l.length → hsH hl ((l.getD j t0).us, (l.getD j t0).dv) = true) : stlB l hl = false := by
  unfold stlB
  refine List.any_eq_false.2 (fun p hp => ?_)
  obtain ⟨j, hj, rfl⟩ := List.mem_iff_getElem.1 hp
  have := h j hj
  rw [getD_at hj] at this
  rw [this]
  simp
theorem stl_yes {l : List Rc} {hl : List Hd.Rc} {k : Nat} (hk : k < l.length) (h : hsH hl ((l.getD k t0).us, (l.getD k t0).dv) = false) : stlB l hl = true := by
  unfold stlB
  rw [getD_at hk] at h
  exact List.any_eq_true.2 ⟨_, List.getElem_mem hk, by rw [h]; rfl⟩
theorem rg_below {w w1 : World} {b o : Nat} {vs : List Value} (h : World.rangeAt w b o vs) (hl : b < w.heap.size) (hb : Below w.heap.size w w1) : World.rangeAt w1 b o vs := fun i v hv => (hb.cell (p := ⟨b, _, none⟩) hl).trans (h i v hv)
set_option maxHeartbeats 16000000 in
theorem stale21 (id : Int) (rm : ByteArray) (nx : Int) (A0 : Option Addr) (n0 c0 : Nat) (l : List Rc) (A1 : Option Addr) (n1 c1 : Nat) (ms : List ByteArray) (A : Option Addr) (n c : Nat) (K : Nat → Kd) (w : World) (h0 : Rcs w A0 n0 c0 l) (hn0 : n0 ≤ 900000) (hm : Strs w A1 n1 ms) (hn1 : n1 ≤ 1000) (h : Kys w A n K) (hn : n ≤ 900000) (hd : ∀ j, j < n → (K j).ds.length ≤ 900) : Calls Try.prog 21 #[.agg #[.int .i64 id, .string rm, .int .i64 nx, .slice A0 n0 c0], .slice A1 n1 c1, .slice A n c] w fun r w' => r = .returned (.bool (stlB l (holdL ms (dvI K n)))) ∧ Below w.heap.size w w' := by
  have XS := Lib.hid (blk_new w (sC id rm nx A0 n0 c0) 24)
  have BA := Lib.hid ((Below.refl w.heap.size w).alloc (Nat.le_refl _) (.cells #[.int .i64 id, .string rm, .int .i64 nx, .slice A0 n0 c0] 24))
  have HD := Lib.hid (devices26 A1 n1 c1 ms A n c K 0 _ (hm.below BA.out) hn1 (h.below BA.out) hn hd)
  have H0 := Lib.hid h0
  have HL0 := Lib.hid h0.len
  have hbig := h0.rws.big
  unfold maxLen at hbig
  unfold WantP at HD
  generalize holdL ms (dvI K n) = hl at HD ⊢
  have HNo := Lib.hid (fun hn => stl_no (l := l) (hl := hl) hn)
  have HYes := Lib.hid (fun k hk hn => stl_yes (l := l) (hl := hl) (k := k) hk hn)
  have HSh := Lib.hid (fun u d => shP_hsH u d hl 0)
  generalize stlB l hl = st at HNo HYes ⊢
  generalize shL hl 0 = ls at HD HSh
  generalize hsH hl = hs at HNo HYes HSh
  clear h0 hm h hd hn hn1
  go_enter Try.func21, Try.ntmps21
  go_upto_region 2 with (first
    | (go_at_call 26; (with_reducible refine HD.out.mono ?_); rintro e w2 ⟨AD, cD, rfl, hr, hnw, hb⟩; have R2 := Lib.hid hr; have B2 := Lib.hid (BA.out.trans (hb.mono BA.out.size)); have S2 := Lib.hid (XS.out.below hb); clear hr hnw hb)
    | (refine store_as61 rfl 24 _ _ rfl [.int .i64 0, .string ⟨#[]⟩, .int .i64 0, .slice none 0 0] [.int .i64 0, .string ⟨#[]⟩, .int .i64 0, .slice AD ls.length cD] rfl rfl rfl size24 (by simp [Value.oneCell']) ?_; intro w4 hx hb; have X4 := Lib.hid hx; have B4 := Lib.hid (B2.out.trans (hb.mono B2.out.size)); have S4 := Lib.hid (S2.out.below hb); have R4 := Lib.hid (R2.out.below hb); clear hx hb)
    | fail)
  clear XS BA HD B2 S2 R2
  go_wp2
  go_loopg [8, 9, 10] n0 (fun gg s8 _ _ wr => ∃ (k : Nat), k ≤ n0 ∧ n0 - k ≤ gg ∧ s8 = .int .i64 (k : Int) ∧ Hid (Below w.heap.size w wr) ∧ Hid (Blk wr w.heap.size (sC id rm nx A0 n0 c0) 24) ∧ Hid (Blk wr w2.heap.size [.int .i64 0, .string ⟨#[]⟩, .int .i64 0, .slice AD ls.length cD] 24) ∧ Hid (Rcs wr AD ls.length cD ls) ∧ Hid (∀ j, j < k → hs ((l.getD j t0).us, (l.getD j t0).dv) = true))
  case atStart => exact ⟨0, Nat.zero_le _, by omega, rfl, B4, S4, X4, R4, Lib.hid (fun j hj => absurd hj (Nat.not_lt_zero _))⟩
  case round =>
    clear B4 S4 X4 R4
    obtain ⟨k, hk, hg, rfl, BW, XS, XT, HR, HJ⟩ := hrel
    have y3 := XS.out.cell (i := 3) rfl
    by_cases hlt : k < n0
    · have hltz : (k : Int) < (n0 : Int) := by omega
      have hk0 : (0 : Int) ≤ (k : Int) := by omega
      obtain ⟨b, off, rfl, hbl, hr, _⟩ := (H0.out.below BW.out).get hlt
      have q0 : wr.cell? ⟨b, off + k * 3, none⟩ = some (.string (l.getD k t0).us) := hr 0 _ rfl
      have q1 : wr.cell? ⟨b, off + k * 3 + 1, none⟩ = some (.string (l.getD k t0).dv) := hr 1 _ rfl
      have HNx := Lib.hid (show hs ((l.getD k t0).us, (l.getD k t0).dv) = true → ∀ j, j < k + 1 → hs ((l.getD j t0).us, (l.getD j t0).dv) = true from fun e j hj => by
        by_cases e2 : j = k
        · subst e2; exact e
        · exact HJ.out j (by omega))
      have HY2 := Lib.hid (fun e => HYes.out k (by rw [HL0.out]; exact hlt) e)
      clear hr HJ
      generalize l.getD k t0 = p at q0 q1 HNx HY2
      obtain ⟨us, dv, ix⟩ := p
      dsimp only at q0 q1 HNx HY2
      have HF := Lib.hid (fun y (hy : Below wr.heap.size wr y) => share29 0 ⟨#[]⟩ 0 AD ls.length cD ls us dv y (HR.out.below hy))
      have HX := Lib.hid (HSh.out us dv)
      unfold ShareP at HF
      generalize shP us dv ls = x at HF HX
      obtain ⟨⟨a1, a2, a3⟩, q⟩ := x
      dsimp only [enc] at HF HX
      have HQ0 := Lib.hid (fun y (hy : Below wr.heap.size wr y) => (hy.cell (p := ⟨b, off + k * 3, none⟩) hbl).trans q0)
      have HQ1 := Lib.hid (fun y (hy : Below wr.heap.size wr y) => (hy.cell (p := ⟨b, off + k * 3 + 1, none⟩) hbl).trans q1)
      clear q0 q1
      go_upto_region 5 with (fail)
      refine wp_region_held_drew (S := (fun y => Below wr.heap.size wr y)) (by kernel_rfl) ((Below.refl wr.heap.size wr).drew) (fun hH0 => ?_)
      generalize hy0 : World.drew _ = y0 at hH0 ⊢
      have RB0 : Hid (Below wr.heap.size wr y0) := Lib.hid hH0
      clear hy0
      refine wpAnyH_take (i := 0) (oi := ({ dst := some 23, op := Op.load 24 (Operand.tmp 7), type := 24, pos := "ref.go:113", after := #[], guard := none } : Oper)) (v := .agg #[.int .i64 0, .string ⟨#[]⟩, .int .i64 0, .slice AD ls.length cD]) rfl (by kernel_rfl) (by kernel_rfl) (by kernel_rfl) (fun _ _ _ h => h) (yieldsIf_load_mid (by rfl) 24 _ rfl w2.heap.size 0 rfl [.int .i64 0, .string ⟨#[]⟩, .int .i64 0, .slice AD ls.length cD] _ (fun w0 hw0 => (XT.out.below hw0).range) Try.underlying24 rfl size24) (by assumption) ?_
      try simp only [Act.put, List.setIfInBounds_toArray, List.set_cons_zero, List.set_cons_succ]
      refine wpAnyH_take (i := 1) (oi := ({ dst := some 24, op := Op.fieldAddr 24 (Operand.tmp 3) 3, type := 0, pos := "ref.go:113", after := #[], guard := none } : Oper)) (v := ?hv1) rfl (by kernel_rfl) (by kernel_rfl) (by kernel_rfl) (fun _ _ _ h => h) (Or.inl ⟨by rfl, ?hy1⟩) (by assumption) ?hr1
      case hy1 => (intro w hSw; (try dsimp only at hSw); go_simp; (try with_reducible rfl))
      try simp only [Act.put, List.setIfInBounds_toArray, List.set_cons_zero, List.set_cons_succ]
      refine wpAnyH_take (i := 2) (oi := ({ dst := some 25, op := Op.load 22 (Operand.tmp 24), type := 22, pos := "ref.go:113", after := #[{ on := 1, ground := Ground.data }], guard := none } : Oper)) (v := .slice (some ⟨b, off, none⟩) n0 c0) rfl (by kernel_rfl) (by kernel_rfl) (by kernel_rfl) (fun _ _ _ h => h) (Or.inl ⟨by rfl, fun w0 hw0 => by have q0 := (XS.out.below hw0).cell (i := 3) rfl; go_simp⟩) (by assumption) ?_
      try simp only [Act.put, List.setIfInBounds_toArray, List.set_cons_zero, List.set_cons_succ]
      refine wpAnyH_take (i := 3) (oi := ({ dst := some 26, op := Op.move (Operand.tmp 8), type := 3, pos := "ref.go:113", after := #[], guard := none } : Oper)) (v := ?hv2) rfl (by kernel_rfl) (by kernel_rfl) (by kernel_rfl) (fun _ _ _ h => h) (Or.inl ⟨by rfl, ?hy2⟩) (by assumption) ?hr2
      case hy2 => (intro w hSw; (try dsimp only at hSw); go_simp; (try with_reducible rfl))
      try simp only [Act.put, List.setIfInBounds_toArray, List.set_cons_zero, List.set_cons_succ]
      refine wpAnyH_take (i := 4) (oi := ({ dst := some 27, op := Op.indexAddr 22 (Operand.tmp 25) (Operand.tmp 26), type := 0, pos := "ref.go:113", after := #[{ on := 2, ground := Ground.data }, { on := 3, ground := Ground.data }], guard := none } : Oper)) (v := ?hv3) rfl (by kernel_rfl) (by kernel_rfl) (by kernel_rfl) (fun _ _ _ h => h) (Or.inl ⟨by rfl, ?hy3⟩) (by assumption) ?hr3
      case hy3 => (intro w hSw; (try dsimp only at hSw); go_simp; (try with_reducible rfl))
      try simp only [Act.put, List.setIfInBounds_toArray, List.set_cons_zero, List.set_cons_succ]
      refine wpAnyH_take (i := 5) (oi := ({ dst := some 28, op := Op.fieldAddr 55 (Operand.tmp 27) 0, type := 0, pos := "ref.go:113", after := #[{ on := 4, ground := Ground.data }], guard := none } : Oper)) (v := ?hv4) rfl (by kernel_rfl) (by kernel_rfl) (by kernel_rfl) (fun _ _ _ h => h) (Or.inl ⟨by rfl, ?hy4⟩) (by assumption) ?hr4
      case hy4 => (intro w hSw; (try dsimp only at hSw); go_simp; (try with_reducible rfl))
      try simp only [Act.put, List.setIfInBounds_toArray, List.set_cons_zero, List.set_cons_succ]
      refine wpAnyH_take (i := 6) (oi := ({ dst := some 29, op := Op.load 9 (Operand.tmp 28), type := 9, pos := "ref.go:113", after := #[{ on := 5, ground := Ground.data }], guard := none } : Oper)) (v := .string us) rfl (by kernel_rfl) (by kernel_rfl) (by kernel_rfl) (fun _ _ _ h => h) (Or.inl ⟨by rfl, fun w0 hw0 => by have q0 := HQ0.out w0 hw0; go_simp⟩) (by assumption) ?_
      try simp only [Act.put, List.setIfInBounds_toArray, List.set_cons_zero, List.set_cons_succ]
      refine wpAnyH_take (i := 7) (oi := ({ dst := some 30, op := Op.fieldAddr 24 (Operand.tmp 3) 3, type := 0, pos := "ref.go:113", after := #[], guard := none } : Oper)) (v := ?hv5) rfl (by kernel_rfl) (by kernel_rfl) (by kernel_rfl) (fun _ _ _ h => h) (Or.inl ⟨by rfl, ?hy5⟩) (by assumption) ?hr5
      case hy5 => (intro w hSw; (try dsimp only at hSw); go_simp; (try with_reducible rfl))
      try simp only [Act.put, List.setIfInBounds_toArray, List.set_cons_zero, List.set_cons_succ]
      refine wpAnyH_take (i := 8) (oi := ({ dst := some 31, op := Op.load 22 (Operand.tmp 30), type := 22, pos := "ref.go:113", after := #[{ on := 7, ground := Ground.data }], guard := none } : Oper)) (v := .slice (some ⟨b, off, none⟩) n0 c0) rfl (by kernel_rfl) (by kernel_rfl) (by kernel_rfl) (fun _ _ _ h => h) (Or.inl ⟨by rfl, fun w0 hw0 => by have q0 := (XS.out.below hw0).cell (i := 3) rfl; go_simp⟩) (by assumption) ?_
      try simp only [Act.put, List.setIfInBounds_toArray, List.set_cons_zero, List.set_cons_succ]
      refine wpAnyH_take (i := 9) (oi := ({ dst := some 32, op := Op.move (Operand.tmp 8), type := 3, pos := "ref.go:113", after := #[], guard := none } : Oper)) (v := ?hv6) rfl (by kernel_rfl) (by kernel_rfl) (by kernel_rfl) (fun _ _ _ h => h) (Or.inl ⟨by rfl, ?hy6⟩) (by assumption) ?hr6
      case hy6 => (intro w hSw; (try dsimp only at hSw); go_simp; (try with_reducible rfl))
      try simp only [Act.put, List.setIfInBounds_toArray, List.set_cons_zero, List.set_cons_succ]
      refine wpAnyH_take (i := 10) (oi := ({ dst := some 33, op := Op.indexAddr 22 (Operand.tmp 31) (Operand.tmp 32), type := 0, pos := "ref.go:113", after := #[{ on := 8, ground := Ground.data }, { on := 9, ground := Ground.data }], guard := none } : Oper)) (v := ?hv7) rfl (by kernel_rfl) (by kernel_rfl) (by kernel_rfl) (fun _ _ _ h => h) (Or.inl ⟨by rfl, ?hy7⟩) (by assumption) ?hr7
      case hy7 => (intro w hSw; (try dsimp only at hSw); go_simp; (try with_reducible rfl))
      try simp only [Act.put, List.setIfInBounds_toArray, List.set_cons_zero, List.set_cons_succ]
      refine wpAnyH_take (i := 11) (oi := ({ dst := some 34, op := Op.fieldAddr 55 (Operand.tmp 33) 1, type := 0, pos := "ref.go:113", after := #[{ on := 10, ground := Ground.data }], guard := none } : Oper)) (v := ?hv8) rfl (by kernel_rfl) (by kernel_rfl) (by kernel_rfl) (fun _ _ _ h => h) (Or.inl ⟨by rfl, ?hy8⟩) (by assumption) ?hr8
      case hy8 => (intro w hSw; (try dsimp only at hSw); go_simp; (try with_reducible rfl))
      try simp only [Act.put, List.setIfInBounds_toArray, List.set_cons_zero, List.set_cons_succ]
      refine wpAnyH_take (i := 12) (oi := ({ dst := some 35, op := Op.load 9 (Operand.tmp 34), type := 9, pos := "ref.go:113", after := #[{ on := 11, ground := Ground.data }], guard := none } : Oper)) (v := .string dv) rfl (by kernel_rfl) (by kernel_rfl) (by kernel_rfl) (fun _ _ _ h => h) (Or.inl ⟨by rfl, fun w0 hw0 => by have q0 := HQ1.out w0 hw0; go_simp⟩) (by assumption) ?_
      try simp only [Act.put, List.setIfInBounds_toArray, List.set_cons_zero, List.set_cons_succ]
      refine wpAnyH_ready (rs := [13, 17]) (by kernel_rfl) (by simp) ?_
      refine AllReadyH.cons (o := ({ dst := some 36, op := Op.call { callee := Callee.value (Operand.func 29), args := #[Operand.tmp 23, Operand.tmp 29, Operand.tmp 35], argTypes := #[24, 9, 9] }, type := 62, pos := "ref.go:113", after := #[{ on := 0, ground := Ground.data }, { on := 6, ground := Ground.data }, { on := 12, ground := Ground.data }], guard := none } : Oper)) rfl (fun KK hKK => ?_) ?_
      · go_simp
        (with_reducible refine (HF.out _ RB0.out).mono ?_)
        rintro e1 y1 ⟨rfl, hb⟩
        have RB1 := Lib.hid (RB0.out.trans (hb.mono RB0.out.size))
        clear hb
        refine hKK.out _ _ (RB1.out) (fun hH1 => ?_)
        clear hKK KK
        try simp only [Act.put, List.setIfInBounds_toArray, List.set_cons_zero, List.set_cons_succ]
        refine wpAnyH_take (i := 14) (oi := ({ dst := some 22, op := Op.move (Operand.tmp 36), type := 62, pos := "ref.go:113", after := #[{ on := 13, ground := Ground.data }], guard := none } : Oper)) (v := ?hv9) rfl (by kernel_rfl) (by kernel_rfl) (by kernel_rfl) (fun _ _ _ h => h) (Or.inl ⟨by rfl, ?hy9⟩) (by assumption) ?hr9
        case hy9 => (intro w hSw; (try dsimp only at hSw); go_simp; (try with_reducible rfl))
        try simp only [Act.put, List.setIfInBounds_toArray, List.set_cons_zero, List.set_cons_succ]
        refine wpAnyH_take (i := 15) (oi := ({ dst := some 37, op := Op.extract (Operand.tmp 22) 0, type := 55, pos := "ref.go:113", after := #[{ on := 14, ground := Ground.data }], guard := none } : Oper)) (v := ?hv10) rfl (by kernel_rfl) (by kernel_rfl) (by kernel_rfl) (fun _ _ _ h => h) (Or.inl ⟨by rfl, ?hy10⟩) (by assumption) ?hr10
        case hy10 => (intro w hSw; (try dsimp only at hSw); go_simp; (try with_reducible rfl))
        try simp only [Act.put, List.setIfInBounds_toArray, List.set_cons_zero, List.set_cons_succ]
        refine wpAnyH_take (i := 16) (oi := ({ dst := some 38, op := Op.extract (Operand.tmp 22) 1, type := 4, pos := "ref.go:113", after := #[{ on := 14, ground := Ground.data }, { on := 18, ground := Ground.gcOnly Departure.lateStores }], guard := none } : Oper)) (v := ?hv11) rfl (by kernel_rfl) (by kernel_rfl) (by kernel_rfl) (fun _ _ _ h => h) (Or.inl ⟨by rfl, ?hy11⟩) (by assumption) ?hr11
        case hy11 => (intro w hSw; (try dsimp only at hSw); go_simp; (try with_reducible rfl))
        try simp only [Act.put, List.setIfInBounds_toArray, List.set_cons_zero, List.set_cons_succ]
        refine wpAnyH_ready (rs := [17]) (by kernel_rfl) (by simp) ?_
        refine AllReadyH.cons (o := ({ dst := some 9, op := Op.alloc 55, type := 0, pos := "ref.go:113", after := #[], guard := none } : Oper)) rfl (fun KK hKK => ?_) AllReadyH.nil
        refine step_alloc_new rfl 55 rfl [.string ⟨#[]⟩, .string ⟨#[]⟩, .int .i64 0] alloc55 ?_
        intro t y2 hx hb ht
        have XB2 := Lib.hid hx; have RB2 := Lib.hid (RB1.out.trans (hb.mono RB1.out.size)); have HT := Lib.hid (show wr.heap.size ≤ t from Nat.le_trans RB1.out.size ht)
        clear hx hb ht
        refine hKK.out _ _ (RB2.out) (fun hH2 => ?_)
        clear hKK KK
        try simp only [Act.put, List.setIfInBounds_toArray, List.set_cons_zero, List.set_cons_succ]
        refine wpAnyH_ready (rs := [18]) (by kernel_rfl) (by simp) ?_
        refine AllReadyH.cons (o := ({ dst := none, op := Op.store 55 (Operand.tmp 9) (Operand.tmp 37), type := 0, pos := "ref.go:113", after := #[{ on := 17, ground := Ground.data }, { on := 15, ground := Ground.data }, { on := 13, ground := Ground.chain }, { on := 0, ground := Ground.phase }, { on := 1, ground := Ground.phase }, { on := 2, ground := Ground.phase }, { on := 3, ground := Ground.phase }, { on := 4, ground := Ground.phase }, { on := 5, ground := Ground.phase }, { on := 6, ground := Ground.phase }, { on := 7, ground := Ground.phase }, { on := 8, ground := Ground.phase }, { on := 9, ground := Ground.phase }, { on := 10, ground := Ground.phase }, { on := 11, ground := Ground.phase }, { on := 12, ground := Ground.phase }, { on := 13, ground := Ground.phase }, { on := 14, ground := Ground.phase }, { on := 15, ground := Ground.phase }, { on := 16, ground := Ground.textOnly Departure.lateStores }, { on := 17, ground := Ground.phase }], guard := none } : Oper)) rfl (fun KK hKK => ?_) AllReadyH.nil
        refine step_store_blk rfl 55 _ _ rfl t [.string ⟨#[]⟩, .string ⟨#[]⟩, .int .i64 0] 55 [.string a1, .string a2, .int .i64 a3] rfl rfl XB2.out rfl size55 (by simp [Value.oneCell']) ?_
        intro y3 hb hp
        have RB3 := Lib.hid (RB2.out.trans (hp.bel _ HT.out))
        clear hb hp
        refine hKK.out _ _ (RB3.out) (fun hH3 => ?_)
        clear hKK KK
        try simp only [Act.put, List.setIfInBounds_toArray, List.set_cons_zero, List.set_cons_succ]
        refine wpAnyH_take (i := 19) (oi := ({ dst := some 10, op := Op.assign (Operand.tmp 38), type := 4, pos := "ref.go:113", after := #[{ on := 16, ground := Ground.data }, { on := 18, ground := Ground.chain }, { on := 0, ground := Ground.phase }, { on := 1, ground := Ground.phase }, { on := 2, ground := Ground.phase }, { on := 3, ground := Ground.phase }, { on := 4, ground := Ground.phase }, { on := 5, ground := Ground.phase }, { on := 6, ground := Ground.phase }, { on := 7, ground := Ground.phase }, { on := 8, ground := Ground.phase }, { on := 9, ground := Ground.phase }, { on := 10, ground := Ground.phase }, { on := 11, ground := Ground.phase }, { on := 12, ground := Ground.phase }, { on := 13, ground := Ground.phase }, { on := 14, ground := Ground.phase }, { on := 15, ground := Ground.phase }, { on := 16, ground := Ground.phase }, { on := 17, ground := Ground.phase }, { on := 18, ground := Ground.phase }], guard := none } : Oper)) (v := ?hv12) rfl (by kernel_rfl) (by kernel_rfl) (by kernel_rfl) (fun _ _ _ h => h) (Or.inl ⟨by rfl, ?hy12⟩) (by assumption) ?hr12
        case hy12 => (intro w hSw; (try dsimp only at hSw); go_simp; (try with_reducible rfl))
        try simp only [Act.put, List.setIfInBounds_toArray, List.set_cons_zero, List.set_cons_succ]
        refine wpAnyH_done (by kernel_rfl) ?_ _
        cases q with
        | true =>
          have HJ2 := Lib.hid (HNx.out HX.out.symm)
          go_wp2
          go_roundg (n0 - (k + 1))
          case measure => omega
          case rel => exact ⟨k + 1, by omega, by omega, by go_num, Lib.hid (BW.out.trans (RB3.out.mono BW.out.size)), Lib.hid (XS.out.below RB3.out), Lib.hid (XT.out.below RB3.out), Lib.hid (HR.out.below RB3.out), HJ2⟩
        | false =>
          have HE := Lib.hid (HY2.out HX.out.symm)
          go_wp2
          go_ret
          exact ⟨ret_bl HE.out.symm, BW.out.trans (RB3.out.mono BW.out.size)⟩
      refine AllReadyH.cons (o := ({ dst := some 9, op := Op.alloc 55, type := 0, pos := "ref.go:113", after := #[], guard := none } : Oper)) rfl (fun KK hKK => ?_) AllReadyH.nil
      refine step_alloc_new rfl 55 rfl [.string ⟨#[]⟩, .string ⟨#[]⟩, .int .i64 0] alloc55 ?_
      intro t y1 hx hb ht
      have XB1 := Lib.hid hx; have RB1 := Lib.hid (RB0.out.trans (hb.mono RB0.out.size)); have HT := Lib.hid (show wr.heap.size ≤ t from Nat.le_trans RB0.out.size ht)
      clear hx hb ht
      refine hKK.out _ _ (RB1.out) (fun hH1 => ?_)
      clear hKK KK
      try simp only [Act.put, List.setIfInBounds_toArray, List.set_cons_zero, List.set_cons_succ]
      refine wpAnyH_ready (rs := [13]) (by kernel_rfl) (by simp) ?_
      refine AllReadyH.cons (o := ({ dst := some 36, op := Op.call { callee := Callee.value (Operand.func 29), args := #[Operand.tmp 23, Operand.tmp 29, Operand.tmp 35], argTypes := #[24, 9, 9] }, type := 62, pos := "ref.go:113", after := #[{ on := 0, ground := Ground.data }, { on := 6, ground := Ground.data }, { on := 12, ground := Ground.data }], guard := none } : Oper)) rfl (fun KK hKK => ?_) AllReadyH.nil
      go_simp
      (with_reducible refine (HF.out _ RB1.out).mono ?_)
      rintro e2 y2 ⟨rfl, hb⟩
      have RB2 := Lib.hid (RB1.out.trans (hb.mono RB1.out.size))
      have XB2 := Lib.hid (XB1.out.below hb)
      clear hb
      refine hKK.out _ _ (RB2.out) (fun hH2 => ?_)
      clear hKK KK
      try simp only [Act.put, List.setIfInBounds_toArray, List.set_cons_zero, List.set_cons_succ]
      refine wpAnyH_take (i := 14) (oi := ({ dst := some 22, op := Op.move (Operand.tmp 36), type := 62, pos := "ref.go:113", after := #[{ on := 13, ground := Ground.data }], guard := none } : Oper)) (v := ?hv13) rfl (by kernel_rfl) (by kernel_rfl) (by kernel_rfl) (fun _ _ _ h => h) (Or.inl ⟨by rfl, ?hy13⟩) (by assumption) ?hr13
      case hy13 => (intro w hSw; (try dsimp only at hSw); go_simp; (try with_reducible rfl))
      try simp only [Act.put, List.setIfInBounds_toArray, List.set_cons_zero, List.set_cons_succ]
      refine wpAnyH_take (i := 15) (oi := ({ dst := some 37, op := Op.extract (Operand.tmp 22) 0, type := 55, pos := "ref.go:113", after := #[{ on := 14, ground := Ground.data }], guard := none } : Oper)) (v := ?hv14) rfl (by kernel_rfl) (by kernel_rfl) (by kernel_rfl) (fun _ _ _ h => h) (Or.inl ⟨by rfl, ?hy14⟩) (by assumption) ?hr14
      case hy14 => (intro w hSw; (try dsimp only at hSw); go_simp; (try with_reducible rfl))
      try simp only [Act.put, List.setIfInBounds_toArray, List.set_cons_zero, List.set_cons_succ]
      refine wpAnyH_take (i := 16) (oi := ({ dst := some 38, op := Op.extract (Operand.tmp 22) 1, type := 4, pos := "ref.go:113", after := #[{ on := 14, ground := Ground.data }, { on := 18, ground := Ground.gcOnly Departure.lateStores }], guard := none } : Oper)) (v := ?hv15) rfl (by kernel_rfl) (by kernel_rfl) (by kernel_rfl) (fun _ _ _ h => h) (Or.inl ⟨by rfl, ?hy15⟩) (by assumption) ?hr15
      case hy15 => (intro w hSw; (try dsimp only at hSw); go_simp; (try with_reducible rfl))
      try simp only [Act.put, List.setIfInBounds_toArray, List.set_cons_zero, List.set_cons_succ]
      refine wpAnyH_ready (rs := [18]) (by kernel_rfl) (by simp) ?_
      refine AllReadyH.cons (o := ({ dst := none, op := Op.store 55 (Operand.tmp 9) (Operand.tmp 37), type := 0, pos := "ref.go:113", after := #[{ on := 17, ground := Ground.data }, { on := 15, ground := Ground.data }, { on := 13, ground := Ground.chain }, { on := 0, ground := Ground.phase }, { on := 1, ground := Ground.phase }, { on := 2, ground := Ground.phase }, { on := 3, ground := Ground.phase }, { on := 4, ground := Ground.phase }, { on := 5, ground := Ground.phase }, { on := 6, ground := Ground.phase }, { on := 7, ground := Ground.phase }, { on := 8, ground := Ground.phase }, { on := 9, ground := Ground.phase }, { on := 10, ground := Ground.phase }, { on := 11, ground := Ground.phase }, { on := 12, ground := Ground.phase }, { on := 13, ground := Ground.phase }, { on := 14, ground := Ground.phase }, { on := 15, ground := Ground.phase }, { on := 16, ground := Ground.textOnly Departure.lateStores }, { on := 17, ground := Ground.phase }], guard := none } : Oper)) rfl (fun KK hKK => ?_) AllReadyH.nil
      refine step_store_blk rfl 55 _ _ rfl t [.string ⟨#[]⟩, .string ⟨#[]⟩, .int .i64 0] 55 [.string a1, .string a2, .int .i64 a3] rfl rfl XB2.out rfl size55 (by simp [Value.oneCell']) ?_
      intro y3 hb hp
      have RB3 := Lib.hid (RB2.out.trans (hp.bel _ HT.out))
      clear hb hp
      refine hKK.out _ _ (RB3.out) (fun hH3 => ?_)
      clear hKK KK
      try simp only [Act.put, List.setIfInBounds_toArray, List.set_cons_zero, List.set_cons_succ]
      refine wpAnyH_take (i := 19) (oi := ({ dst := some 10, op := Op.assign (Operand.tmp 38), type := 4, pos := "ref.go:113", after := #[{ on := 16, ground := Ground.data }, { on := 18, ground := Ground.chain }, { on := 0, ground := Ground.phase }, { on := 1, ground := Ground.phase }, { on := 2, ground := Ground.phase }, { on := 3, ground := Ground.phase }, { on := 4, ground := Ground.phase }, { on := 5, ground := Ground.phase }, { on := 6, ground := Ground.phase }, { on := 7, ground := Ground.phase }, { on := 8, ground := Ground.phase }, { on := 9, ground := Ground.phase }, { on := 10, ground := Ground.phase }, { on := 11, ground := Ground.phase }, { on := 12, ground := Ground.phase }, { on := 13, ground := Ground.phase }, { on := 14, ground := Ground.phase }, { on := 15, ground := Ground.phase }, { on := 16, ground := Ground.phase }, { on := 17, ground := Ground.phase }, { on := 18, ground := Ground.phase }], guard := none } : Oper)) (v := ?hv16) rfl (by kernel_rfl) (by kernel_rfl) (by kernel_rfl) (fun _ _ _ h => h) (Or.inl ⟨by rfl, ?hy16⟩) (by assumption) ?hr16
      case hy16 => (intro w hSw; (try dsimp only at hSw); go_simp; (try with_reducible rfl))
      try simp only [Act.put, List.setIfInBounds_toArray, List.set_cons_zero, List.set_cons_succ]
      refine wpAnyH_done (by kernel_rfl) ?_ _
      cases q with
      | true =>
        have HJ2 := Lib.hid (HNx.out HX.out.symm)
        go_wp2
        go_roundg (n0 - (k + 1))
        case measure => omega
        case rel => exact ⟨k + 1, by omega, by omega, by go_num, Lib.hid (BW.out.trans (RB3.out.mono BW.out.size)), Lib.hid (XS.out.below RB3.out), Lib.hid (XT.out.below RB3.out), Lib.hid (HR.out.below RB3.out), HJ2⟩
      | false =>
        have HE := Lib.hid (HY2.out HX.out.symm)
        go_wp2
        go_ret
        exact ⟨ret_bl HE.out.symm, BW.out.trans (RB3.out.mono BW.out.size)⟩
    · have hltz : ¬ (k : Int) < (n0 : Int) := by omega
      obtain rfl : k = n0 := by omega
      have HE := Lib.hid (HNo.out (fun j hj => HJ.out j (by rw [HL0.out] at hj; exact hj)))
      go_wp2
      go_ret
      exact ⟨ret_bl HE.out.symm, BW.out⟩
set_option maxHeartbeats 16000000 in
theorem wants19 (id : Int) (rm : ByteArray) (nx : Int) (A0 : Option Addr) (n0 c0 : Nat) (l : List Rc) (A1 : Option Addr) (n1 c1 : Nat) (ms : List ByteArray) (A : Option Addr) (n c : Nat) (K : Nat → Kd) (w : World) (h0 : Rcs w A0 n0 c0 l) (hn0 : n0 ≤ 900000) (hm : Strs w A1 n1 ms) (hn1 : n1 ≤ 1000) (h : Kys w A n K) (hn : n ≤ 900000) (hd : ∀ j, j < n → (K j).ds.length ≤ 900) : Calls Try.prog 19 #[.agg #[.int .i64 id, .string rm, .int .i64 nx, .slice A0 n0 c0], .slice A1 n1 c1, .slice A n c] w (WantP w (wantL l nx (holdL ms (dvI K n)))) := by
  have XS := Lib.hid (blk_new w (sC id rm nx A0 n0 c0) 24)
  have BA := Lib.hid ((Below.refl w.heap.size w).alloc (Nat.le_refl _) (.cells #[.int .i64 id, .string rm, .int .i64 nx, .slice A0 n0 c0] 24))
  have HD := Lib.hid (devices26 A1 n1 c1 ms A n c K nx _ (hm.below BA.out) hn1 (h.below BA.out) hn hd)
  have HHl : Hid ((holdL ms (dvI K n)).length ≤ 900000) := Lib.hid (hold_len hm hn1 h hd)
  have H0 := Lib.hid h0
  unfold WantP at HD
  generalize holdL ms (dvI K n) = hl at HD HHl ⊢
  have HSh := Lib.hid (fun u d => shP_hsS u d l)
  have HAt := Lib.hid (fun k (hk : k < hl.length) => shL_at (ix := nx) hk)
  rw [shL_len] at HD
  generalize shL hl nx = ls at HD HAt
  obtain ⟨i0, hi, hz0, hz1, hz2⟩ := info_parts info55
  have HI0 := Lib.hid (And.intro hi (And.intro hz0 (And.intro hz1 hz2)))
  clear h0 hm h hd hn hn1 hi hz0 hz1 hz2
  have y2 := XS.out.cell (i := 2) rfl
  go_enter Try.func19, Try.ntmps19
  go_upto_region 4 with (first
    | (go_at_call 26; (with_reducible refine HD.out.mono ?_); rintro e w2 ⟨AD, cD, rfl, hr, hnw, hb⟩; have R2 := Lib.hid hr; have B2 := Lib.hid hb; clear hr hnw hb)
    | fail)
  clear y2 HD
  generalize w.alloc (.cells #[.int .i64 id, .string rm, .int .i64 nx, .slice A0 n0 c0] 24) = wa at XS BA B2
  have O2 : Hid (w2.ownsRow wa.heap.size 55 3 (.slice none 0 0) 0 []) := Lib.hid ⟨rfl, .inl ⟨rfl, rfl⟩⟩
  have hhl := HHl.out
  go_wp2
  go_loopg [8, 9, 10, 11] hl.length (fun gg s8 s9 _ _ wr => ∃ (k : Nat) (v : Value), k ≤ hl.length ∧ hl.length - k ≤ gg ∧ v = s8 ∧ s9 = .int .i64 (k : Int) ∧ Hid (wr.ownsRow wa.heap.size 55 3 v (wantL l nx (hl.take k)).length (cl (wantL l nx (hl.take k)))) ∧ Hid (Below wa.heap.size wa wr) ∧ Hid (Rcs wr AD hl.length cD ls) ∧ Hid (∀ b off, AD = some ⟨b, off, none⟩ → some b ≠ v.ownBlock))
  case atStart => exact ⟨0, _, Nat.zero_le _, by omega, rfl, rfl, O2, B2, R2, Lib.hid (fun b off e e1 => by cases e1)⟩
  case round =>
    clear O2 B2 R2
    obtain ⟨k, v, hk, hg, rfl, rfl, HO, BX, HR, AP⟩ := hrel
    have hwl := wantL_len l nx hl k
    by_cases hlt : k < hl.length
    · have hltz : (k : Int) < (hl.length : Int) := by omega
      have hk0 : (0 : Int) ≤ (k : Int) := by omega
      obtain ⟨b, off, rfl, hbl, hr, hft⟩ := HR.out.get hlt
      rw [HAt.out k hlt] at hr hft
      have HAp := Lib.hid (AP.out b off rfl)
      have HY := Lib.hid (wantL_yes (l := l) (nx := nx) hlt)
      have HN := Lib.hid (wantL_no (l := l) (nx := nx) hlt)
      generalize hl.getD k Hd.t0 = hh at hr hft HY HN
      obtain ⟨us, dv⟩ := hh
      dsimp only at hr hft HY HN
      have q0 : wr.cell? ⟨b, off + k * 3, none⟩ = some (.string us) := hr 0 _ rfl
      have q1 : wr.cell? ⟨b, off + k * 3 + 1, none⟩ = some (.string dv) := hr 1 _ rfl
      have HRg := Lib.hid hr
      have XW := Lib.hid (XS.out.below BX.out)
      have HF := Lib.hid (fun y (hy : Below wr.heap.size wr y) => share29 id rm nx A0 n0 c0 l us dv y ((H0.out.below (BA.out.trans (BX.out.mono BA.out.size))).below hy))
      have HX := HSh.out us dv
      clear hr hft
      unfold ShareP at HF
      generalize shP us dv l = x at HF HX
      generalize hsS l (us, dv) = hq at HY HN HX
      obtain ⟨⟨a1, a2, a3⟩, q⟩ := x
      dsimp only [enc] at HF HX
      subst HX
      have HQ0 := Lib.hid (fun y (hy : Below wr.heap.size wr y) => (hy.cell (p := ⟨b, off + k * 3, none⟩) hbl).trans q0)
      have HQ1 := Lib.hid (fun y (hy : Below wr.heap.size wr y) => (hy.cell (p := ⟨b, off + k * 3 + 1, none⟩) hbl).trans q1)
      clear q0 q1
      go_upto_region 6 with (fail)
      refine wp_region_held_drew (S := (fun y => Below wr.heap.size wr y)) (by kernel_rfl) ((Below.refl wr.heap.size wr).drew) (fun hH0 => ?_)
      generalize hy0 : World.drew _ = y0 at hH0 ⊢
      have RB0 : Hid (Below wr.heap.size wr y0) := Lib.hid hH0
      clear hy0
      refine wpAnyH_take (i := 0) (oi := ({ dst := some 24, op := Op.load 24 (Operand.tmp 3), type := 24, pos := "ref.go:102", after := #[], guard := none } : Oper)) (v := .agg #[.int .i64 id, .string rm, .int .i64 nx, .slice A0 n0 c0]) rfl (by kernel_rfl) (by kernel_rfl) (by kernel_rfl) (fun _ _ _ h => h) (yieldsIf_load_mid (by rfl) 24 _ rfl w.heap.size 0 rfl [.int .i64 id, .string rm, .int .i64 nx, .slice A0 n0 c0] _ (fun w0 hw0 => (XW.out.below hw0).range) Try.underlying24 rfl size24) (by assumption) ?_
      try simp only [Act.put, List.setIfInBounds_toArray, List.set_cons_zero, List.set_cons_succ]
      refine wpAnyH_take (i := 1) (oi := ({ dst := some 25, op := Op.move (Operand.tmp 7), type := 22, pos := "ref.go:102", after := #[], guard := none } : Oper)) (v := ?hv17) rfl (by kernel_rfl) (by kernel_rfl) (by kernel_rfl) (fun _ _ _ h => h) (Or.inl ⟨by rfl, ?hy17⟩) (by assumption) ?hr17
      case hy17 => (intro w hSw; (try dsimp only at hSw); go_simp; (try with_reducible rfl))
      try simp only [Act.put, List.setIfInBounds_toArray, List.set_cons_zero, List.set_cons_succ]
      refine wpAnyH_take (i := 2) (oi := ({ dst := some 26, op := Op.move (Operand.tmp 9), type := 3, pos := "ref.go:102", after := #[], guard := none } : Oper)) (v := ?hv18) rfl (by kernel_rfl) (by kernel_rfl) (by kernel_rfl) (fun _ _ _ h => h) (Or.inl ⟨by rfl, ?hy18⟩) (by assumption) ?hr18
      case hy18 => (intro w hSw; (try dsimp only at hSw); go_simp; (try with_reducible rfl))
      try simp only [Act.put, List.setIfInBounds_toArray, List.set_cons_zero, List.set_cons_succ]
      refine wpAnyH_take (i := 3) (oi := ({ dst := some 27, op := Op.indexAddr 22 (Operand.tmp 25) (Operand.tmp 26), type := 0, pos := "ref.go:102", after := #[{ on := 1, ground := Ground.data }, { on := 2, ground := Ground.data }], guard := none } : Oper)) (v := ?hv19) rfl (by kernel_rfl) (by kernel_rfl) (by kernel_rfl) (fun _ _ _ h => h) (Or.inl ⟨by rfl, ?hy19⟩) (by assumption) ?hr19
      case hy19 => (intro w hSw; (try dsimp only at hSw); go_simp; (try with_reducible rfl))
      try simp only [Act.put, List.setIfInBounds_toArray, List.set_cons_zero, List.set_cons_succ]
      refine wpAnyH_take (i := 4) (oi := ({ dst := some 28, op := Op.fieldAddr 55 (Operand.tmp 27) 0, type := 0, pos := "ref.go:102", after := #[{ on := 3, ground := Ground.data }], guard := none } : Oper)) (v := ?hv20) rfl (by kernel_rfl) (by kernel_rfl) (by kernel_rfl) (fun _ _ _ h => h) (Or.inl ⟨by rfl, ?hy20⟩) (by assumption) ?hr20
      case hy20 => (intro w hSw; (try dsimp only at hSw); go_simp; (try with_reducible rfl))
      try simp only [Act.put, List.setIfInBounds_toArray, List.set_cons_zero, List.set_cons_succ]
      refine wpAnyH_take (i := 5) (oi := ({ dst := some 29, op := Op.load 9 (Operand.tmp 28), type := 9, pos := "ref.go:102", after := #[{ on := 4, ground := Ground.data }], guard := none } : Oper)) (v := .string us) rfl (by kernel_rfl) (by kernel_rfl) (by kernel_rfl) (fun _ _ _ h => h) (Or.inl ⟨by rfl, fun w0 hw0 => by have q0 := HQ0.out w0 hw0; go_simp⟩) (by assumption) ?_
      try simp only [Act.put, List.setIfInBounds_toArray, List.set_cons_zero, List.set_cons_succ]
      refine wpAnyH_take (i := 6) (oi := ({ dst := some 30, op := Op.move (Operand.tmp 7), type := 22, pos := "ref.go:102", after := #[], guard := none } : Oper)) (v := ?hv21) rfl (by kernel_rfl) (by kernel_rfl) (by kernel_rfl) (fun _ _ _ h => h) (Or.inl ⟨by rfl, ?hy21⟩) (by assumption) ?hr21
      case hy21 => (intro w hSw; (try dsimp only at hSw); go_simp; (try with_reducible rfl))
      try simp only [Act.put, List.setIfInBounds_toArray, List.set_cons_zero, List.set_cons_succ]
      refine wpAnyH_take (i := 7) (oi := ({ dst := some 31, op := Op.move (Operand.tmp 9), type := 3, pos := "ref.go:102", after := #[], guard := none } : Oper)) (v := ?hv22) rfl (by kernel_rfl) (by kernel_rfl) (by kernel_rfl) (fun _ _ _ h => h) (Or.inl ⟨by rfl, ?hy22⟩) (by assumption) ?hr22
      case hy22 => (intro w hSw; (try dsimp only at hSw); go_simp; (try with_reducible rfl))
      try simp only [Act.put, List.setIfInBounds_toArray, List.set_cons_zero, List.set_cons_succ]
      refine wpAnyH_take (i := 8) (oi := ({ dst := some 32, op := Op.indexAddr 22 (Operand.tmp 30) (Operand.tmp 31), type := 0, pos := "ref.go:102", after := #[{ on := 6, ground := Ground.data }, { on := 7, ground := Ground.data }], guard := none } : Oper)) (v := ?hv23) rfl (by kernel_rfl) (by kernel_rfl) (by kernel_rfl) (fun _ _ _ h => h) (Or.inl ⟨by rfl, ?hy23⟩) (by assumption) ?hr23
      case hy23 => (intro w hSw; (try dsimp only at hSw); go_simp; (try with_reducible rfl))
      try simp only [Act.put, List.setIfInBounds_toArray, List.set_cons_zero, List.set_cons_succ]
      refine wpAnyH_take (i := 9) (oi := ({ dst := some 33, op := Op.fieldAddr 55 (Operand.tmp 32) 1, type := 0, pos := "ref.go:102", after := #[{ on := 8, ground := Ground.data }], guard := none } : Oper)) (v := ?hv24) rfl (by kernel_rfl) (by kernel_rfl) (by kernel_rfl) (fun _ _ _ h => h) (Or.inl ⟨by rfl, ?hy24⟩) (by assumption) ?hr24
      case hy24 => (intro w hSw; (try dsimp only at hSw); go_simp; (try with_reducible rfl))
      try simp only [Act.put, List.setIfInBounds_toArray, List.set_cons_zero, List.set_cons_succ]
      refine wpAnyH_take (i := 10) (oi := ({ dst := some 34, op := Op.load 9 (Operand.tmp 33), type := 9, pos := "ref.go:102", after := #[{ on := 9, ground := Ground.data }], guard := none } : Oper)) (v := .string dv) rfl (by kernel_rfl) (by kernel_rfl) (by kernel_rfl) (fun _ _ _ h => h) (Or.inl ⟨by rfl, fun w0 hw0 => by have q0 := HQ1.out w0 hw0; go_simp⟩) (by assumption) ?_
      try simp only [Act.put, List.setIfInBounds_toArray, List.set_cons_zero, List.set_cons_succ]
      refine wpAnyH_ready (rs := [11, 15]) (by kernel_rfl) (by simp) ?_
      refine AllReadyH.cons (o := ({ dst := some 35, op := Op.call { callee := Callee.value (Operand.func 29), args := #[Operand.tmp 24, Operand.tmp 29, Operand.tmp 34], argTypes := #[24, 9, 9] }, type := 62, pos := "ref.go:102", after := #[{ on := 0, ground := Ground.data }, { on := 5, ground := Ground.data }, { on := 10, ground := Ground.data }], guard := none } : Oper)) rfl (fun KK hKK => ?_) ?_
      · go_simp
        (with_reducible refine (HF.out _ RB0.out).mono ?_)
        rintro e1 y1 ⟨rfl, hb⟩
        have RB1 := Lib.hid (RB0.out.trans (hb.mono RB0.out.size))
        clear hb
        refine hKK.out _ _ (RB1.out) (fun hH1 => ?_)
        clear hKK KK
        try simp only [Act.put, List.setIfInBounds_toArray, List.set_cons_zero, List.set_cons_succ]
        refine wpAnyH_take (i := 12) (oi := ({ dst := some 23, op := Op.move (Operand.tmp 35), type := 62, pos := "ref.go:102", after := #[{ on := 11, ground := Ground.data }], guard := none } : Oper)) (v := ?hv25) rfl (by kernel_rfl) (by kernel_rfl) (by kernel_rfl) (fun _ _ _ h => h) (Or.inl ⟨by rfl, ?hy25⟩) (by assumption) ?hr25
        case hy25 => (intro w hSw; (try dsimp only at hSw); go_simp; (try with_reducible rfl))
        try simp only [Act.put, List.setIfInBounds_toArray, List.set_cons_zero, List.set_cons_succ]
        refine wpAnyH_take (i := 13) (oi := ({ dst := some 36, op := Op.extract (Operand.tmp 23) 0, type := 55, pos := "ref.go:102", after := #[{ on := 12, ground := Ground.data }], guard := none } : Oper)) (v := ?hv26) rfl (by kernel_rfl) (by kernel_rfl) (by kernel_rfl) (fun _ _ _ h => h) (Or.inl ⟨by rfl, ?hy26⟩) (by assumption) ?hr26
        case hy26 => (intro w hSw; (try dsimp only at hSw); go_simp; (try with_reducible rfl))
        try simp only [Act.put, List.setIfInBounds_toArray, List.set_cons_zero, List.set_cons_succ]
        refine wpAnyH_take (i := 14) (oi := ({ dst := some 37, op := Op.extract (Operand.tmp 23) 1, type := 4, pos := "ref.go:102", after := #[{ on := 12, ground := Ground.data }, { on := 16, ground := Ground.gcOnly Departure.lateStores }], guard := none } : Oper)) (v := ?hv27) rfl (by kernel_rfl) (by kernel_rfl) (by kernel_rfl) (fun _ _ _ h => h) (Or.inl ⟨by rfl, ?hy27⟩) (by assumption) ?hr27
        case hy27 => (intro w hSw; (try dsimp only at hSw); go_simp; (try with_reducible rfl))
        try simp only [Act.put, List.setIfInBounds_toArray, List.set_cons_zero, List.set_cons_succ]
        refine wpAnyH_ready (rs := [15]) (by kernel_rfl) (by simp) ?_
        refine AllReadyH.cons (o := ({ dst := some 10, op := Op.alloc 55, type := 0, pos := "ref.go:102", after := #[], guard := none } : Oper)) rfl (fun KK hKK => ?_) AllReadyH.nil
        refine step_alloc_new rfl 55 rfl [.string ⟨#[]⟩, .string ⟨#[]⟩, .int .i64 0] alloc55 ?_
        intro t y2 hx hb ht
        have XB2 := Lib.hid hx; have RB2 := Lib.hid (RB1.out.trans (hb.mono RB1.out.size)); have HT := Lib.hid (show wr.heap.size ≤ t from Nat.le_trans RB1.out.size ht)
        clear hx hb ht
        refine hKK.out _ _ (RB2.out) (fun hH2 => ?_)
        clear hKK KK
        try simp only [Act.put, List.setIfInBounds_toArray, List.set_cons_zero, List.set_cons_succ]
        refine wpAnyH_ready (rs := [16]) (by kernel_rfl) (by simp) ?_
        refine AllReadyH.cons (o := ({ dst := none, op := Op.store 55 (Operand.tmp 10) (Operand.tmp 36), type := 0, pos := "ref.go:102", after := #[{ on := 15, ground := Ground.data }, { on := 13, ground := Ground.data }, { on := 11, ground := Ground.chain }, { on := 0, ground := Ground.phase }, { on := 1, ground := Ground.phase }, { on := 2, ground := Ground.phase }, { on := 3, ground := Ground.phase }, { on := 4, ground := Ground.phase }, { on := 5, ground := Ground.phase }, { on := 6, ground := Ground.phase }, { on := 7, ground := Ground.phase }, { on := 8, ground := Ground.phase }, { on := 9, ground := Ground.phase }, { on := 10, ground := Ground.phase }, { on := 11, ground := Ground.phase }, { on := 12, ground := Ground.phase }, { on := 13, ground := Ground.phase }, { on := 14, ground := Ground.textOnly Departure.lateStores }, { on := 15, ground := Ground.phase }], guard := none } : Oper)) rfl (fun KK hKK => ?_) AllReadyH.nil
        refine step_store_blk rfl 55 _ _ rfl t [.string ⟨#[]⟩, .string ⟨#[]⟩, .int .i64 0] 55 [.string a1, .string a2, .int .i64 a3] rfl rfl XB2.out rfl size55 (by simp [Value.oneCell']) ?_
        intro y3 hb hp
        have RB3 := Lib.hid (RB2.out.trans (hp.bel _ HT.out))
        clear hb hp
        refine hKK.out _ _ (RB3.out) (fun hH3 => ?_)
        clear hKK KK
        try simp only [Act.put, List.setIfInBounds_toArray, List.set_cons_zero, List.set_cons_succ]
        refine wpAnyH_take (i := 17) (oi := ({ dst := some 11, op := Op.assign (Operand.tmp 37), type := 4, pos := "ref.go:102", after := #[{ on := 14, ground := Ground.data }, { on := 16, ground := Ground.chain }, { on := 0, ground := Ground.phase }, { on := 1, ground := Ground.phase }, { on := 2, ground := Ground.phase }, { on := 3, ground := Ground.phase }, { on := 4, ground := Ground.phase }, { on := 5, ground := Ground.phase }, { on := 6, ground := Ground.phase }, { on := 7, ground := Ground.phase }, { on := 8, ground := Ground.phase }, { on := 9, ground := Ground.phase }, { on := 10, ground := Ground.phase }, { on := 11, ground := Ground.phase }, { on := 12, ground := Ground.phase }, { on := 13, ground := Ground.phase }, { on := 14, ground := Ground.phase }, { on := 15, ground := Ground.phase }, { on := 16, ground := Ground.phase }], guard := none } : Oper)) (v := ?hv28) rfl (by kernel_rfl) (by kernel_rfl) (by kernel_rfl) (fun _ _ _ h => h) (Or.inl ⟨by rfl, ?hy28⟩) (by assumption) ?hr28
        case hy28 => (intro w hSw; (try dsimp only at hSw); go_simp; (try with_reducible rfl))
        try simp only [Act.put, List.setIfInBounds_toArray, List.set_cons_zero, List.set_cons_succ]
        refine wpAnyH_done (by kernel_rfl) ?_ _
        cases q with
        | true =>
          have HT2 := Lib.hid (HN.out rfl)
          clear HY HN
          go_wp2
          go_roundg (hl.length - (k + 1))
          case measure => omega
          case rel => exact ⟨k + 1, v, by omega, by omega, rfl, by go_num, Lib.hid (by rw [HT2.out]; exact own_keep HO.out (fun b _ hl => RB3.out.block b hl)), Lib.hid (BX.out.trans (RB3.out.mono BX.out.size)), Lib.hid (HR.out.below RB3.out), Lib.hid (fun b off e => by cases e; exact HAp.out)⟩
        | false =>
          have HT2 := Lib.hid (HY.out rfl)
          clear HY HN
          generalize wantL l nx (hl.take k) = wl at HO HT2 hwl
          have O6 := Lib.hid (own_keep HO.out (fun b _ hl => RB3.out.block b hl))
          have D6 := Lib.hid (BX.out.trans (RB3.out.mono BX.out.size))
          have R6 := Lib.hid (HR.out.below RB3.out)
          have RG6 := Lib.hid (show World.rangeAt y3 b (off + k * 3) [.string us, .string dv, .int .i64 nx] from rg_below HRg.out hbl RB3.out)
          have hbl6 : b < y3.heap.size := Nat.lt_of_lt_of_le hbl RB3.out.size
          clear HO BX HR HRg HF XW
          go_wp2_with (first
            | (refine wpList_load_mid rfl 55 _ rfl b (off + k * 3) rfl [.string us, .string dv, .int .i64 nx] _ RG6.out Try.underlying55 rfl size55 ?_)
            | (at_builtin; refine wpList_append_any _ rfl _ _ 22 rfl wa.heap.size 55 i0 _ 3 40 Try.underlying22 HI0.out.1 HI0.out.2.1 HI0.out.2.2.1 HI0.out.2.2.2 rfl (by decide) v wl.length (cl wl) rfl (O6.out.alloc _) _ 1 1 (enc ⟨us, dv, nx⟩) rfl (blk_src (p := ⟨us, dv, nx⟩) (blk_new y3 (enc ⟨us, dv, nx⟩) 55)) (by unfold maxLen; omega) (by omega) (D6.out.alloc D6.out.size _).size ?_; intro v5 w7 hgr; have B5 := Lib.hid (hgr.below (D6.out.alloc D6.out.size _) (O6.out.alloc _)); have O5 := Lib.hid hgr.own; have R5 := Lib.hid ((R6.out.below ((Below.refl _ _).alloc (Nat.le_refl _) _)).grew hgr.grow (fun b off e => by cases e; exact HAp.out)); have P5 := Lib.hid (show ∀ b' off', some (⟨b, off, none⟩ : Addr) = some ⟨b', off', none⟩ → some b' ≠ v5.ownBlock from fun b' off' e => by cases e; rcases hgr.at_ with e | e <;> rw [e]; exact HAp.out; (intro e1; have e2 := Option.some.inj e1; simp only [World.size_alloc] at e2; omega)); clear hgr)
            | go_in)
          go_roundg (hl.length - (k + 1))
          case measure => omega
          case rel => exact ⟨k + 1, v5, by omega, by omega, rfl, by go_num, Lib.hid (by rw [HT2.out, List.length_append, ← cl_snoc]; exact O5.out), B5, R5, P5⟩
      refine AllReadyH.cons (o := ({ dst := some 10, op := Op.alloc 55, type := 0, pos := "ref.go:102", after := #[], guard := none } : Oper)) rfl (fun KK hKK => ?_) AllReadyH.nil
      refine step_alloc_new rfl 55 rfl [.string ⟨#[]⟩, .string ⟨#[]⟩, .int .i64 0] alloc55 ?_
      intro t y1 hx hb ht
      have XB1 := Lib.hid hx; have RB1 := Lib.hid (RB0.out.trans (hb.mono RB0.out.size)); have HT := Lib.hid (show wr.heap.size ≤ t from Nat.le_trans RB0.out.size ht)
      clear hx hb ht
      refine hKK.out _ _ (RB1.out) (fun hH1 => ?_)
      clear hKK KK
      try simp only [Act.put, List.setIfInBounds_toArray, List.set_cons_zero, List.set_cons_succ]
      refine wpAnyH_ready (rs := [11]) (by kernel_rfl) (by simp) ?_
      refine AllReadyH.cons (o := ({ dst := some 35, op := Op.call { callee := Callee.value (Operand.func 29), args := #[Operand.tmp 24, Operand.tmp 29, Operand.tmp 34], argTypes := #[24, 9, 9] }, type := 62, pos := "ref.go:102", after := #[{ on := 0, ground := Ground.data }, { on := 5, ground := Ground.data }, { on := 10, ground := Ground.data }], guard := none } : Oper)) rfl (fun KK hKK => ?_) AllReadyH.nil
      go_simp
      (with_reducible refine (HF.out _ RB1.out).mono ?_)
      rintro e2 y2 ⟨rfl, hb⟩
      have RB2 := Lib.hid (RB1.out.trans (hb.mono RB1.out.size))
      have XB2 := Lib.hid (XB1.out.below hb)
      clear hb
      refine hKK.out _ _ (RB2.out) (fun hH2 => ?_)
      clear hKK KK
      try simp only [Act.put, List.setIfInBounds_toArray, List.set_cons_zero, List.set_cons_succ]
      refine wpAnyH_take (i := 12) (oi := ({ dst := some 23, op := Op.move (Operand.tmp 35), type := 62, pos := "ref.go:102", after := #[{ on := 11, ground := Ground.data }], guard := none } : Oper)) (v := ?hv29) rfl (by kernel_rfl) (by kernel_rfl) (by kernel_rfl) (fun _ _ _ h => h) (Or.inl ⟨by rfl, ?hy29⟩) (by assumption) ?hr29
      case hy29 => (intro w hSw; (try dsimp only at hSw); go_simp; (try with_reducible rfl))
      try simp only [Act.put, List.setIfInBounds_toArray, List.set_cons_zero, List.set_cons_succ]
      refine wpAnyH_take (i := 13) (oi := ({ dst := some 36, op := Op.extract (Operand.tmp 23) 0, type := 55, pos := "ref.go:102", after := #[{ on := 12, ground := Ground.data }], guard := none } : Oper)) (v := ?hv30) rfl (by kernel_rfl) (by kernel_rfl) (by kernel_rfl) (fun _ _ _ h => h) (Or.inl ⟨by rfl, ?hy30⟩) (by assumption) ?hr30
      case hy30 => (intro w hSw; (try dsimp only at hSw); go_simp; (try with_reducible rfl))
      try simp only [Act.put, List.setIfInBounds_toArray, List.set_cons_zero, List.set_cons_succ]
      refine wpAnyH_take (i := 14) (oi := ({ dst := some 37, op := Op.extract (Operand.tmp 23) 1, type := 4, pos := "ref.go:102", after := #[{ on := 12, ground := Ground.data }, { on := 16, ground := Ground.gcOnly Departure.lateStores }], guard := none } : Oper)) (v := ?hv31) rfl (by kernel_rfl) (by kernel_rfl) (by kernel_rfl) (fun _ _ _ h => h) (Or.inl ⟨by rfl, ?hy31⟩) (by assumption) ?hr31
      case hy31 => (intro w hSw; (try dsimp only at hSw); go_simp; (try with_reducible rfl))
      try simp only [Act.put, List.setIfInBounds_toArray, List.set_cons_zero, List.set_cons_succ]
      refine wpAnyH_ready (rs := [16]) (by kernel_rfl) (by simp) ?_
      refine AllReadyH.cons (o := ({ dst := none, op := Op.store 55 (Operand.tmp 10) (Operand.tmp 36), type := 0, pos := "ref.go:102", after := #[{ on := 15, ground := Ground.data }, { on := 13, ground := Ground.data }, { on := 11, ground := Ground.chain }, { on := 0, ground := Ground.phase }, { on := 1, ground := Ground.phase }, { on := 2, ground := Ground.phase }, { on := 3, ground := Ground.phase }, { on := 4, ground := Ground.phase }, { on := 5, ground := Ground.phase }, { on := 6, ground := Ground.phase }, { on := 7, ground := Ground.phase }, { on := 8, ground := Ground.phase }, { on := 9, ground := Ground.phase }, { on := 10, ground := Ground.phase }, { on := 11, ground := Ground.phase }, { on := 12, ground := Ground.phase }, { on := 13, ground := Ground.phase }, { on := 14, ground := Ground.textOnly Departure.lateStores }, { on := 15, ground := Ground.phase }], guard := none } : Oper)) rfl (fun KK hKK => ?_) AllReadyH.nil
      refine step_store_blk rfl 55 _ _ rfl t [.string ⟨#[]⟩, .string ⟨#[]⟩, .int .i64 0] 55 [.string a1, .string a2, .int .i64 a3] rfl rfl XB2.out rfl size55 (by simp [Value.oneCell']) ?_
      intro y3 hb hp
      have RB3 := Lib.hid (RB2.out.trans (hp.bel _ HT.out))
      clear hb hp
      refine hKK.out _ _ (RB3.out) (fun hH3 => ?_)
      clear hKK KK
      try simp only [Act.put, List.setIfInBounds_toArray, List.set_cons_zero, List.set_cons_succ]
      refine wpAnyH_take (i := 17) (oi := ({ dst := some 11, op := Op.assign (Operand.tmp 37), type := 4, pos := "ref.go:102", after := #[{ on := 14, ground := Ground.data }, { on := 16, ground := Ground.chain }, { on := 0, ground := Ground.phase }, { on := 1, ground := Ground.phase }, { on := 2, ground := Ground.phase }, { on := 3, ground := Ground.phase }, { on := 4, ground := Ground.phase }, { on := 5, ground := Ground.phase }, { on := 6, ground := Ground.phase }, { on := 7, ground := Ground.phase }, { on := 8, ground := Ground.phase }, { on := 9, ground := Ground.phase }, { on := 10, ground := Ground.phase }, { on := 11, ground := Ground.phase }, { on := 12, ground := Ground.phase }, { on := 13, ground := Ground.phase }, { on := 14, ground := Ground.phase }, { on := 15, ground := Ground.phase }, { on := 16, ground := Ground.phase }], guard := none } : Oper)) (v := ?hv32) rfl (by kernel_rfl) (by kernel_rfl) (by kernel_rfl) (fun _ _ _ h => h) (Or.inl ⟨by rfl, ?hy32⟩) (by assumption) ?hr32
      case hy32 => (intro w hSw; (try dsimp only at hSw); go_simp; (try with_reducible rfl))
      try simp only [Act.put, List.setIfInBounds_toArray, List.set_cons_zero, List.set_cons_succ]
      refine wpAnyH_done (by kernel_rfl) ?_ _
      cases q with
      | true =>
        have HT2 := Lib.hid (HN.out rfl)
        clear HY HN
        go_wp2
        go_roundg (hl.length - (k + 1))
        case measure => omega
        case rel => exact ⟨k + 1, v, by omega, by omega, rfl, by go_num, Lib.hid (by rw [HT2.out]; exact own_keep HO.out (fun b _ hl => RB3.out.block b hl)), Lib.hid (BX.out.trans (RB3.out.mono BX.out.size)), Lib.hid (HR.out.below RB3.out), Lib.hid (fun b off e => by cases e; exact HAp.out)⟩
      | false =>
        have HT2 := Lib.hid (HY.out rfl)
        clear HY HN
        generalize wantL l nx (hl.take k) = wl at HO HT2 hwl
        have O6 := Lib.hid (own_keep HO.out (fun b _ hl => RB3.out.block b hl))
        have D6 := Lib.hid (BX.out.trans (RB3.out.mono BX.out.size))
        have R6 := Lib.hid (HR.out.below RB3.out)
        have RG6 := Lib.hid (show World.rangeAt y3 b (off + k * 3) [.string us, .string dv, .int .i64 nx] from rg_below HRg.out hbl RB3.out)
        have hbl6 : b < y3.heap.size := Nat.lt_of_lt_of_le hbl RB3.out.size
        clear HO BX HR HRg HF XW
        go_wp2_with (first
          | (refine wpList_load_mid rfl 55 _ rfl b (off + k * 3) rfl [.string us, .string dv, .int .i64 nx] _ RG6.out Try.underlying55 rfl size55 ?_)
          | (at_builtin; refine wpList_append_any _ rfl _ _ 22 rfl wa.heap.size 55 i0 _ 3 40 Try.underlying22 HI0.out.1 HI0.out.2.1 HI0.out.2.2.1 HI0.out.2.2.2 rfl (by decide) v wl.length (cl wl) rfl (O6.out.alloc _) _ 1 1 (enc ⟨us, dv, nx⟩) rfl (blk_src (p := ⟨us, dv, nx⟩) (blk_new y3 (enc ⟨us, dv, nx⟩) 55)) (by unfold maxLen; omega) (by omega) (D6.out.alloc D6.out.size _).size ?_; intro v5 w7 hgr; have B5 := Lib.hid (hgr.below (D6.out.alloc D6.out.size _) (O6.out.alloc _)); have O5 := Lib.hid hgr.own; have R5 := Lib.hid ((R6.out.below ((Below.refl _ _).alloc (Nat.le_refl _) _)).grew hgr.grow (fun b off e => by cases e; exact HAp.out)); have P5 := Lib.hid (show ∀ b' off', some (⟨b, off, none⟩ : Addr) = some ⟨b', off', none⟩ → some b' ≠ v5.ownBlock from fun b' off' e => by cases e; rcases hgr.at_ with e | e <;> rw [e]; exact HAp.out; (intro e1; have e2 := Option.some.inj e1; simp only [World.size_alloc] at e2; omega)); clear hgr)
          | go_in)
        go_roundg (hl.length - (k + 1))
        case measure => omega
        case rel => exact ⟨k + 1, v5, by omega, by omega, rfl, by go_num, Lib.hid (by rw [HT2.out, List.length_append, ← cl_snoc]; exact O5.out), B5, R5, P5⟩
    · have hltz : ¬ (k : Int) < (hl.length : Int) := by omega
      obtain rfl : k = hl.length := by omega
      rw [List.take_length] at HO hwl
      have HFt := Lib.hid (show ∀ p ∈ wantL l nx hl, fitR p from wantL_fit (fun p hp => by
        obtain ⟨j, hj, rfl⟩ := List.mem_iff_getElem.1 hp
        obtain ⟨_, _, _, _, _, hf⟩ := HR.out.get hj
        rw [HAt.out j hj, Hd.getD_at hj] at hf
        exact hf))
      obtain ⟨A', c', rfl, hr, hnw⟩ := Rcs.ofOwn HO.out rfl (by omega) HFt.out
      have HRr := Lib.hid hr
      have HNw := Lib.hid hnw
      clear hr hnw
      go_wp2
      go_ret
      exact ⟨A', c', rfl, HRr.out, fun b off e => Nat.le_trans BA.out.size (HNw.out b off e), BA.out.trans (BX.out.mono BA.out.size)⟩
end Go.Proofs.Ytbkchcpfnoclhaa
