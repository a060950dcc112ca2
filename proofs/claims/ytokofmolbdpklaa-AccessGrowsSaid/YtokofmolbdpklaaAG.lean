/- AccessGrows: its walk. -/
import Derived.Test.YtokofmolbdpklaaK2
import Derived.Test.YtokofmolbdpklaaG9
import Derived.Test.YtokofmolbdpklaaGT
import Derived.Test.YtokofmolbdpklaaO2
import Derived.Deep.Cut
import Derived.Deep.CutRange
import Derived.Deep.RegionHeld3
namespace Go.Proofs.Ytokofmolbdpklaa
open Go.RowKit
set_option linter.unusedVariables false
set_option linter.unusedSimpArgs false

theorem blk_at (w : World) (t : Nat) (cs : List Value) (T : TypeId) (h : t = w.heap.size) : Blk (w.alloc (.cells cs.toArray T)) t cs T := by rw [h]; exact blk_new w cs T
theorem cellsS {w' : World} {b0 : Nat} {C : Ct} {d : Ads} (h : Blk w' b0 (cells C d) 28) : w'.cell? ⟨b0, 0, none⟩ = some (.string C.tx) ∧ w'.cell? ⟨b0, 1, none⟩ = some (.int .i64 C.n) ∧ w'.cell? ⟨b0, 2, none⟩ = some (.int .i64 C.tg) ∧ w'.cell? ⟨b0, 3, none⟩ = some (.bool C.th) ∧ w'.cell? ⟨b0, 4, none⟩ = some (.string C.via) ∧ w'.cell? ⟨b0, 5, none⟩ = some (.slice d.aA C.nA d.aC) ∧ w'.cell? ⟨b0, 6, none⟩ = some (.slice d.dA C.nD d.dC) ∧ w'.cell? ⟨b0, 7, none⟩ = some (.slice d.uA C.lv.nU d.uC) ∧ w'.cell? ⟨b0, 8, none⟩ = some (.slice d.kA C.lv.nK d.kC) ∧ w'.cell? ⟨b0, 9, none⟩ = some (.int .i64 C.lv.d) ∧ w'.cell? ⟨b0, 10, none⟩ = some (.int .i64 C.lv.x3) ∧ w'.cell? ⟨b0, 11, none⟩ = some (.int .i64 C.lv.x4) ∧ w'.cell? ⟨b0, 12, none⟩ = some (.int .i64 C.lv.x5) ∧ w'.cell? ⟨b0, 13, none⟩ = some (.int .i64 C.lv.x6) ∧ w'.cell? ⟨b0, 14, none⟩ = some (.int .i64 C.lv.x7) ∧ w'.cell? ⟨b0, 15, none⟩ = some (.int .i64 C.lv.x8) :=
  ⟨h.cell (i := 0) rfl, h.cell (i := 1) rfl, h.cell (i := 2) rfl, h.cell (i := 3) rfl, h.cell (i := 4) rfl, h.cell (i := 5) rfl, h.cell (i := 6) rfl, h.cell (i := 7) rfl, h.cell (i := 8) rfl, h.cell (i := 9) rfl, h.cell (i := 10) rfl, h.cell (i := 11) rfl, h.cell (i := 12) rfl, h.cell (i := 13) rfl, h.cell (i := 14) rfl, h.cell (i := 15) rfl⟩
/-- Two copies of a row, in two new blocks. -/
def Two (cs : List Value) (u : World) (s7 s8 : Value) (w : World) : Prop :=
  ∃ g7 g8, s7 = .pointer (some ⟨g7, 0, none⟩) ∧ s8 = .pointer (some ⟨g8, 0, none⟩) ∧ Blk w g7 cs 28 ∧ Blk w g8 cs 28 ∧ u.heap.size ≤ g7 ∧ u.heap.size ≤ g8 ∧ g7 ≠ g8 ∧ Below u.heap.size u w
theorem src_one (w : World) (p : ByteArray) (t : TypeId) : Src (w.alloc (.cells #[.string p] t)) (some ⟨w.heap.size, 0, none⟩) 1 1 1 [.string p] := by
  refine ⟨rfl, (fun h => by cases h), .inr ⟨w.heap.size, 0, rfl, by simp, fun j u hu => ?_⟩, by simp [Value.oneCell']⟩
  rw [Nat.zero_add]
  exact (blk_new w [.string p] t).cell hu
/-- Two appends to a new list: a copy of a list of texts with one more. -/
theorem snoc2 {w w3 w4 : World} {n c : Nat} {A : Option Addr} {zs : List ByteArray} {v3 v4 : Value} (p : ByteArray) (h0 : Txs w A n c zs) (hp : p.size ≤ 9223372036854775807) (hn : n ≤ 1000000)
    (G3 : Grew (w.alloc (.cells #[] 9)) w3 w.heap.size 9 1 (.slice (some ⟨w.heap.size, 0, none⟩) 0 0) v3 (0 + n) ([] ++ flat n (rowS zs)))
    (G4 : Grew (w3.alloc (.cells #[.string p] 9)) w4 w.heap.size 9 1 v3 v4 (0 + n + 1) ([] ++ flat n (rowS zs) ++ [.string p])) :
    ∃ A4 c4, v4 = .slice A4 (n + 1) c4 ∧ Txs w4 A4 (n + 1) c4 (zs ++ [p]) ∧ (∀ b off, A4 = some ⟨b, off, none⟩ → w.heap.size ≤ b) ∧ Below w.heap.size w w4 := by
  have B3 : Below w.heap.size w w3 := G3.below ((Below.refl _ w).alloc (Nat.le_refl _) _) (World.ownsRow_made (base := w.heap.size) (e := 9) (size := 1) w #[] 0 (Nat.le_refl _) (by decide) (by simp))
  have B4 : Below w.heap.size w w4 := G4.below (B3.alloc B3.size _) (G3.own.alloc _)
  have ho := G4.own
  rw [Nat.zero_add, List.nil_append] at ho
  obtain ⟨A4, c4, e, h1, h2⟩ := own_snoc h0 p hp hn ho
  exact ⟨A4, c4, e, h1, h2, B4⟩
theorem IsCt.other {w : World} {C : Ct} {a : Ads} (h : IsCt w C a) (g o : Nat) (v : Value) (hp : Apart g C a) : IsCt (w.setCell ⟨g, o, none⟩ v) C a := h.otherAll g o [v] hp
/-- A content with one more allowed (denied) pattern; and with none allowed. -/
def moreA (C : Ct) (p : ByteArray) : Ct := ⟨C.tx, C.n, C.tg, C.th, C.via, C.nA + 1, C.al ++ [p], C.nD, C.dn, C.lv⟩
def moreD (C : Ct) (p : ByteArray) : Ct := ⟨C.tx, C.n, C.tg, C.th, C.via, C.nA, C.al, C.nD + 1, C.dn ++ [p], C.lv⟩
def noneA (C : Ct) : Ct := ⟨C.tx, C.n, C.tg, C.th, C.via, 0, [], C.nD, C.dn, C.lv⟩
theorem allow_less (C : Ct) (p sv : ByteArray) (h : allow C sv = false) : allow (moreD C p) sv = false := by
  cases h1 : allow (moreD C p) sv
  · rfl
  · have := deny_more C.al C.dn p sv h1
    rw [← h]; exact this.symm
theorem allow_morea (C : Ct) (p sv : ByteArray) (h : allow C sv = true) : allow (moreA C p) sv = true := allow_more C.al C.dn p sv h
theorem allow_none (C : Ct) (sv : ByteArray) : allow (noneA C) sv = false := by
  show (!hit C.dn sv && hit [] sv) = false
  rw [hit_nil, Bool.and_false]
def adA (d : Ads) (A : Option Addr) (c : Nat) : Ads := ⟨A, c, d.dA, d.dC, d.uA, d.uC, d.kA, d.kC⟩
def adD (d : Ads) (A : Option Addr) (c : Nat) : Ads := ⟨d.aA, d.aC, A, c, d.uA, d.uC, d.kA, d.kC⟩

set_option maxRecDepth 100000 in
set_option maxHeartbeats 8000000 in
theorem grows_walk (C : Ct) (d : Ads) (p sv : ByteArray) (hp : p.size ≤ 9223372036854775807) (hsv : sv.size ≤ 9223372036854775807) (w : World) (h0 : IsCt w C d) :
    Calls Try.prog 5 #[.agg (cells C d).toArray, .string p, .string sv] w fun e w' => e = .returned (.bool true) ∧ Below w.heap.size w w' := by
  have X1 := Lib.hid (blk_new w (cells C d) 28)
  have B1 := Lib.hid ((Below.refl _ w).alloc (Nat.le_refl _) (.cells (cells C d).toArray 28))
  have HSz := Lib.hid B1.out.size
  have G1 := Lib.hid (fun u (hb : Below w.heap.size w u) => great7b C d sv hsv u (h0.below hb))
  have AW := Lib.hid (fun u => awake8 u)
  have HG := Lib.hid (fun h => great_bound (nA := C.nA) (nD := C.nD) (al := C.al) (dn := C.dn) (sv := sv) h)
  have H0 := Lib.hid h0
  have HPz := Lib.hid hp
  clear h0
  generalize great C.nA C.nD C.al C.dn sv = q at G1 HG
  go_enter Try.func5, Try.ntmps5
  go_upto_region 1 with (fail)
  generalize hb0 : w.heap.size = b0 at X1 ⊢
  generalize hw2 : (w.alloc _) = u1 at X1 B1 HSz ⊢
  have Hb0 := Lib.hid hb0
  clear hb0 hw2
  cases q
  · obtain ⟨g1, g2, g3⟩ := HG.out rfl
    have hs : sv.size ≤ 4611686018427387903 := by omega
    clear HG g3
    by_cases hpz : 80 < p.size
    · go_wp2_with (first
        | (refine load_mid_g (by rfl) 28 _ rfl b0 0 rfl (cells C d) _ X1.out.range Try.underlying28 rfl size28c ?_)
        | (go_at_call 7; (with_reducible refine (G1.out _ B1.out).mono ?_); rintro e u3 ⟨rfl, hb3⟩; have B3 := Lib.hid (B1.out.trans (hb3.mono B1.out.size)); clear hb3)
        | (go_at_call 8; (with_reducible refine (AW.out _).mono ?_); rintro e u4 ⟨rfl, hb5⟩))
      go_ret
      exact ⟨rfl, B3.out.trans (hb5.mono B3.out.size)⟩
    · go_upto_region 3 with (first
        | (refine load_mid_g (by rfl) 28 _ rfl b0 0 rfl (cells C d) _ X1.out.range Try.underlying28 rfl size28c ?_)
        | (go_at_call 7; (with_reducible refine (G1.out _ B1.out).mono ?_); rintro e u3 ⟨rfl, hb3⟩; have X3 := Lib.hid (X1.out.below hb3); have B3 := Lib.hid (B1.out.trans (hb3.mono B1.out.size)); clear hb3 G1))
      have H3 := Lib.hid (H0.out.below B3.out)
      have T1 := X3.out
      have hl0 := X3.out.lt
      clear hpz X1 B1 HSz
      go_cut [7, 8] from 20 to 21 (fun s7 s8 wx => Two (cells C d) u3 s7 s8 wx)
      case first =>
        clear T1
        refine wp_region_held_drew (S := (fun w' => Blk w' b0 (cells C d) 28 ∧ Below u3.heap.size u3 w')) (by kernel_rfl) (⟨X3.out.drew, (Below.refl _ _).drew⟩) (fun hH0 => ?_)
        generalize u3.drew = y0 at hH0 ⊢
        have RX0 : Hid (Blk y0 b0 (cells C d) 28) := Lib.hid hH0.1
        have RB0 : Hid (Below u3.heap.size u3 y0) := Lib.hid hH0.2
        refine wpAnyH_take (i := 0) (oi := ({ dst := some 20, op := Op.load 28 (Operand.tmp 3), type := 28, pos := "law.go:48", after := #[], guard := none } : Oper)) (v := .agg (cells C d).toArray) rfl (by kernel_rfl) (by kernel_rfl) (by kernel_rfl) (fun _ _ _ h => h) (yieldsIf_load_mid (by rfl) 28 _ rfl b0 0 rfl (cells C d) _ (fun w hw => hw.1.range) Try.underlying28 rfl size28c) (by assumption) ?_
        try simp only [Act.put, List.setIfInBounds_toArray, List.set_cons_zero, List.set_cons_succ]
        refine wpAnyH_take (i := 1) (oi := ({ dst := some 21, op := Op.load 28 (Operand.tmp 3), type := 28, pos := "law.go:48", after := #[{ on := 4, ground := Ground.gcOnly Departure.lateStores }], guard := none } : Oper)) (v := .agg (cells C d).toArray) rfl (by kernel_rfl) (by kernel_rfl) (by kernel_rfl) (fun _ _ _ h => h) (yieldsIf_load_mid (by rfl) 28 _ rfl b0 0 rfl (cells C d) _ (fun w hw => hw.1.range) Try.underlying28 rfl size28c) (by assumption) ?_
        try simp only [Act.put, List.setIfInBounds_toArray, List.set_cons_zero, List.set_cons_succ]
        refine wpAnyH_ready (rs := [2, 3]) (by kernel_rfl) (by simp) ?_
        refine AllReadyH.cons (o := ({ dst := some 7, op := Op.alloc 28, type := 0, pos := "law.go:48", after := #[], guard := none } : Oper)) rfl (fun KK hKK => ?_) ?_
        · go_simp
          generalize hy1 : World.alloc _ _ = y1
          generalize hg7 : Array.size _ = g7
          have RX1 : Hid (Blk y1 b0 (cells C d) 28) := Lib.hid (by rw [← hy1]; exact (RX0.out).alloc _)
          have RB1 : Hid (Below u3.heap.size u3 y1) := Lib.hid (by rw [← hy1]; exact Below.alloc (RB0.out) (by first | exact Nat.le_refl _ | exact RB0.out.size) _)
          have RP7_1 : Hid (Blk y1 g7 c16 28) := Lib.hid (by rw [← hy1, ← hg7]; exact blk_new _ c16 28)
          have RQ7 : u3.heap.size ≤ g7 := by rw [← hg7]; first | exact Nat.le_refl _ | exact RB0.out.size
          clear hy1 hg7
          refine hKK.out _ _ (⟨RX1.out, RB1.out⟩) (fun hH1 => ?_)
          clear hKK KK
          try simp only [Act.put, List.setIfInBounds_toArray, List.set_cons_zero, List.set_cons_succ]
          refine wpAnyH_ready (rs := [3]) (by kernel_rfl) (by simp) ?_
          refine AllReadyH.cons (o := ({ dst := some 8, op := Op.alloc 28, type := 0, pos := "law.go:48", after := #[], guard := none } : Oper)) rfl (fun KK hKK => ?_) AllReadyH.nil
          go_simp
          generalize hy2 : World.alloc _ _ = y2
          generalize hg8 : Array.size _ = g8
          have RX2 : Hid (Blk y2 b0 (cells C d) 28) := Lib.hid (by rw [← hy2]; exact (RX1.out).alloc _)
          have RB2 : Hid (Below u3.heap.size u3 y2) := Lib.hid (by rw [← hy2]; exact Below.alloc (RB1.out) (by first | exact Nat.le_refl _ | exact RB1.out.size) _)
          have RP8_2 : Hid (Blk y2 g8 c16 28) := Lib.hid (by rw [← hy2, ← hg8]; exact blk_new _ c16 28)
          have RQ8 : u3.heap.size ≤ g8 := by rw [← hg8]; first | exact Nat.le_refl _ | exact RB1.out.size
          have RP7_2 : Hid (Blk y2 g7 c16 28) := Lib.hid (by rw [← hy2]; exact RP7_1.out.alloc _)
          have RN : g7 < g8 := by rw [← hg8]; exact RP7_1.out.lt
          clear hy2 hg8
          refine hKK.out _ _ (⟨RX2.out, RB2.out⟩) (fun hH2 => ?_)
          clear hKK KK
          try simp only [Act.put, List.setIfInBounds_toArray, List.set_cons_zero, List.set_cons_succ]
          refine wpAnyH_ready (rs := [4]) (by kernel_rfl) (by simp) ?_
          refine AllReadyH.cons (o := ({ dst := none, op := Op.store 28 (Operand.tmp 7) (Operand.tmp 20), type := 0, pos := "law.go:48", after := #[{ on := 2, ground := Ground.data }, { on := 0, ground := Ground.data }, { on := 0, ground := Ground.phase }, { on := 1, ground := Ground.textOnly Departure.lateStores }, { on := 2, ground := Ground.phase }, { on := 3, ground := Ground.phase }], guard := none } : Oper)) rfl (fun KK hKK => ?_) AllReadyH.nil
          rw [if_pos (by rfl)]
          refine wp_store_mid 28 _ _ rfl g7 0 (cells C d).toArray rfl rfl (Blk.there (n := 16) RP7_2.out (by decide)) size28c (ctc_one _ _) ?_
          generalize hy3 : World.setCells _ _ _ _ = y3
          have RX3 : Hid (Blk y3 b0 (cells C d) 28) := Lib.hid (by rw [← hy3]; exact RX2.out.otherAll _ _ _ (by omega))
          have RB3 : Hid (Below u3.heap.size u3 y3) := Lib.hid (by rw [← hy3]; exact below_setAll RQ7 _ _ _ RB2.out)
          have RP7_3 : Hid (Blk y3 g7 (cells C d) 28) := Lib.hid (by rw [← hy3]; exact RP7_2.out.setAll _ rfl)
          have RP8_3 : Hid (Blk y3 g8 c16 28) := Lib.hid (by rw [← hy3]; exact RP8_2.out.otherAll _ _ _ (by omega))
          clear hy3
          refine hKK.out _ _ (⟨RX3.out, RB3.out⟩) (fun hH3 => ?_)
          clear hKK KK
          try simp only [Act.put, List.setIfInBounds_toArray, List.set_cons_zero, List.set_cons_succ]
          refine wpAnyH_ready (rs := [5]) (by kernel_rfl) (by simp) ?_
          refine AllReadyH.cons (o := ({ dst := none, op := Op.store 28 (Operand.tmp 8) (Operand.tmp 21), type := 0, pos := "law.go:48", after := #[{ on := 3, ground := Ground.data }, { on := 1, ground := Ground.data }, { on := 4, ground := Ground.chain }, { on := 0, ground := Ground.phase }, { on := 1, ground := Ground.phase }, { on := 2, ground := Ground.phase }, { on := 3, ground := Ground.phase }, { on := 4, ground := Ground.phase }], guard := none } : Oper)) rfl (fun KK hKK => ?_) AllReadyH.nil
          rw [if_pos (by rfl)]
          refine wp_store_mid 28 _ _ rfl g8 0 (cells C d).toArray rfl rfl (Blk.there (n := 16) RP8_3.out (by decide)) size28c (ctc_one _ _) ?_
          generalize hy4 : World.setCells _ _ _ _ = y4
          have RX4 : Hid (Blk y4 b0 (cells C d) 28) := Lib.hid (by rw [← hy4]; exact RX3.out.otherAll _ _ _ (by omega))
          have RB4 : Hid (Below u3.heap.size u3 y4) := Lib.hid (by rw [← hy4]; exact below_setAll RQ8 _ _ _ RB3.out)
          have RP8_4 : Hid (Blk y4 g8 (cells C d) 28) := Lib.hid (by rw [← hy4]; exact RP8_3.out.setAll _ rfl)
          have RP7_4 : Hid (Blk y4 g7 (cells C d) 28) := Lib.hid (by rw [← hy4]; exact RP7_3.out.otherAll _ _ _ (by omega))
          clear hy4
          refine hKK.out _ _ (⟨RX4.out, RB4.out⟩) (fun hH4 => ?_)
          clear hKK KK
          try simp only [Act.put, List.setIfInBounds_toArray, List.set_cons_zero, List.set_cons_succ]
          refine wpAnyH_done (by kernel_rfl) ?_ _
          go_wp2
          go_meet
          exact ⟨g7, g8, rfl, rfl, RP7_4.out, RP8_4.out, RQ7, RQ8, by omega, RB4.out⟩
        refine AllReadyH.cons (o := ({ dst := some 8, op := Op.alloc 28, type := 0, pos := "law.go:48", after := #[], guard := none } : Oper)) rfl (fun KK hKK => ?_) AllReadyH.nil
        go_simp
        generalize hy1 : World.alloc _ _ = y1
        generalize hg8 : Array.size _ = g8
        have RX1 : Hid (Blk y1 b0 (cells C d) 28) := Lib.hid (by rw [← hy1]; exact (RX0.out).alloc _)
        have RB1 : Hid (Below u3.heap.size u3 y1) := Lib.hid (by rw [← hy1]; exact Below.alloc (RB0.out) (by first | exact Nat.le_refl _ | exact RB0.out.size) _)
        have RP8_1 : Hid (Blk y1 g8 c16 28) := Lib.hid (by rw [← hy1, ← hg8]; exact blk_new _ c16 28)
        have RQ8 : u3.heap.size ≤ g8 := by rw [← hg8]; first | exact Nat.le_refl _ | exact RB0.out.size
        clear hy1 hg8
        refine hKK.out _ _ (⟨RX1.out, RB1.out⟩) (fun hH1 => ?_)
        clear hKK KK
        try simp only [Act.put, List.setIfInBounds_toArray, List.set_cons_zero, List.set_cons_succ]
        refine wpAnyH_ready (rs := [2]) (by kernel_rfl) (by simp) ?_
        refine AllReadyH.cons (o := ({ dst := some 7, op := Op.alloc 28, type := 0, pos := "law.go:48", after := #[], guard := none } : Oper)) rfl (fun KK hKK => ?_) AllReadyH.nil
        go_simp
        generalize hy2 : World.alloc _ _ = y2
        generalize hg7 : Array.size _ = g7
        have RX2 : Hid (Blk y2 b0 (cells C d) 28) := Lib.hid (by rw [← hy2]; exact (RX1.out).alloc _)
        have RB2 : Hid (Below u3.heap.size u3 y2) := Lib.hid (by rw [← hy2]; exact Below.alloc (RB1.out) (by first | exact Nat.le_refl _ | exact RB1.out.size) _)
        have RP7_2 : Hid (Blk y2 g7 c16 28) := Lib.hid (by rw [← hy2, ← hg7]; exact blk_new _ c16 28)
        have RQ7 : u3.heap.size ≤ g7 := by rw [← hg7]; first | exact Nat.le_refl _ | exact RB1.out.size
        have RP8_2 : Hid (Blk y2 g8 c16 28) := Lib.hid (by rw [← hy2]; exact RP8_1.out.alloc _)
        have RN : g8 < g7 := by rw [← hg7]; exact RP8_1.out.lt
        clear hy2 hg7
        refine hKK.out _ _ (⟨RX2.out, RB2.out⟩) (fun hH2 => ?_)
        clear hKK KK
        try simp only [Act.put, List.setIfInBounds_toArray, List.set_cons_zero, List.set_cons_succ]
        refine wpAnyH_ready (rs := [4]) (by kernel_rfl) (by simp) ?_
        refine AllReadyH.cons (o := ({ dst := none, op := Op.store 28 (Operand.tmp 7) (Operand.tmp 20), type := 0, pos := "law.go:48", after := #[{ on := 2, ground := Ground.data }, { on := 0, ground := Ground.data }, { on := 0, ground := Ground.phase }, { on := 1, ground := Ground.textOnly Departure.lateStores }, { on := 2, ground := Ground.phase }, { on := 3, ground := Ground.phase }], guard := none } : Oper)) rfl (fun KK hKK => ?_) AllReadyH.nil
        rw [if_pos (by rfl)]
        refine wp_store_mid 28 _ _ rfl g7 0 (cells C d).toArray rfl rfl (Blk.there (n := 16) RP7_2.out (by decide)) size28c (ctc_one _ _) ?_
        generalize hy3 : World.setCells _ _ _ _ = y3
        have RX3 : Hid (Blk y3 b0 (cells C d) 28) := Lib.hid (by rw [← hy3]; exact RX2.out.otherAll _ _ _ (by omega))
        have RB3 : Hid (Below u3.heap.size u3 y3) := Lib.hid (by rw [← hy3]; exact below_setAll RQ7 _ _ _ RB2.out)
        have RP7_3 : Hid (Blk y3 g7 (cells C d) 28) := Lib.hid (by rw [← hy3]; exact RP7_2.out.setAll _ rfl)
        have RP8_3 : Hid (Blk y3 g8 c16 28) := Lib.hid (by rw [← hy3]; exact RP8_2.out.otherAll _ _ _ (by omega))
        clear hy3
        refine hKK.out _ _ (⟨RX3.out, RB3.out⟩) (fun hH3 => ?_)
        clear hKK KK
        try simp only [Act.put, List.setIfInBounds_toArray, List.set_cons_zero, List.set_cons_succ]
        refine wpAnyH_ready (rs := [5]) (by kernel_rfl) (by simp) ?_
        refine AllReadyH.cons (o := ({ dst := none, op := Op.store 28 (Operand.tmp 8) (Operand.tmp 21), type := 0, pos := "law.go:48", after := #[{ on := 3, ground := Ground.data }, { on := 1, ground := Ground.data }, { on := 4, ground := Ground.chain }, { on := 0, ground := Ground.phase }, { on := 1, ground := Ground.phase }, { on := 2, ground := Ground.phase }, { on := 3, ground := Ground.phase }, { on := 4, ground := Ground.phase }], guard := none } : Oper)) rfl (fun KK hKK => ?_) AllReadyH.nil
        rw [if_pos (by rfl)]
        refine wp_store_mid 28 _ _ rfl g8 0 (cells C d).toArray rfl rfl (Blk.there (n := 16) RP8_3.out (by decide)) size28c (ctc_one _ _) ?_
        generalize hy4 : World.setCells _ _ _ _ = y4
        have RX4 : Hid (Blk y4 b0 (cells C d) 28) := Lib.hid (by rw [← hy4]; exact RX3.out.otherAll _ _ _ (by omega))
        have RB4 : Hid (Below u3.heap.size u3 y4) := Lib.hid (by rw [← hy4]; exact below_setAll RQ8 _ _ _ RB3.out)
        have RP8_4 : Hid (Blk y4 g8 (cells C d) 28) := Lib.hid (by rw [← hy4]; exact RP8_3.out.setAll _ rfl)
        have RP7_4 : Hid (Blk y4 g7 (cells C d) 28) := Lib.hid (by rw [← hy4]; exact RP7_3.out.otherAll _ _ _ (by omega))
        clear hy4
        refine hKK.out _ _ (⟨RX4.out, RB4.out⟩) (fun hH4 => ?_)
        clear hKK KK
        try simp only [Act.put, List.setIfInBounds_toArray, List.set_cons_zero, List.set_cons_succ]
        refine wpAnyH_done (by kernel_rfl) ?_ _
        go_wp2
        go_meet
        exact ⟨g7, g8, rfl, rfl, RP7_4.out, RP8_4.out, RQ7, RQ8, by omega, RB4.out⟩
      case rest =>
        clear T1
        obtain ⟨g7, g8, rfl, rfl, hg7, hg8, q7, q8, hne, hbc⟩ := hcut
        obtain ⟨wq, rfl⟩ : ∃ x : World, x = wc := ⟨_, rfl⟩
        have M7 := Lib.hid hg7
        have M8 := Lib.hid hg8
        have Bq := Lib.hid (B3.out.trans (hbc.mono B3.out.size))
        have X4 := Lib.hid (X3.out.below hbc)
        have Hq := Lib.hid (H3.out.below hbc)
        have Ap7 := Lib.hid (H3.out.apart q7)
        have Ap8 := Lib.hid (H3.out.apart q8)
        have l7 := hg7.lt
        have l8 := hg8.lt
        have lw : w.heap.size ≤ u3.heap.size := B3.out.size
        have k5 : wq.cell? ⟨b0, 5, none⟩ = some (.slice d.aA C.nA d.aC) := X4.out.cell (i := 5) rfl
        have k5' : (wq.alloc (.cells #[] 9)).cell? ⟨b0, 5, none⟩ = some (.slice d.aA C.nA d.aC) := (X4.out.alloc _).cell (i := 5) rfl
        have l0 := X4.out.lt
        have HTa := Lib.hid Hq.out.al
        have HSa := Lib.hid (HTa.out.rws.src.below ((Below.refl _ wq).alloc (Nat.le_refl _) (.cells #[] 9)))
        have HOa := Lib.hid (World.ownsRow_made (base := wq.heap.size) (e := 9) (size := 1) wq #[] 0 (Nat.le_refl _) (by decide) (by simp))
        obtain ⟨i0, hi, hz0, hz1, hz2⟩ := info_parts info9
        have HI := Lib.hid (And.intro hi (And.intro hz0 (And.intro hz1 hz2)))
        clear hi hz0 hz1 hz2 hg7 hg8 hbc H3 B3 X3
        go_upto_region 5 with (first
          | (at_builtin; refine wpList_append_any (o := ⟨some 25, _, _, _, _, _⟩) _ rfl (.tmp 22) (.tmp 24) 22 rfl wq.heap.size 9 i0 _ 1 16 Try.underlying22 HI.out.1 HI.out.2.1 HI.out.2.2.1 HI.out.2.2.2 rfl (by decide) _ 0 [] rfl HOa.out d.aA C.nA d.aC (flat C.nA (rowS C.al)) rfl HSa.out (by unfold maxLen; omega) (by omega) (by simp) ?_; intro v3 w3 hgr; have GA := Lib.hid hgr; have HP3 := Lib.hid (hgr.own.alloc (.cells #[.string p] 9)); have Hle3 := Lib.hid (show wq.heap.size ≤ (w3.alloc (.cells #[.string p] 9)).heap.size by have := hgr.grow.size; simp at this ⊢; omega); clear hgr)
          | (at_builtin; refine wpList_append_any (o := ⟨some 28, _, _, _, _, _⟩) _ rfl (.tmp 25) (.tmp 27) 22 rfl wq.heap.size 9 i0 _ 1 16 Try.underlying22 HI.out.1 HI.out.2.1 HI.out.2.2.1 HI.out.2.2.2 rfl (by decide) _ _ _ rfl HP3.out (some ⟨w3.heap.size, 0, none⟩) 1 1 [.string p] rfl (src_one w3 p 9) (by unfold maxLen; omega) (by omega) Hle3.out ?_; intro v4 w4 hgr4; obtain ⟨A4, c4, e4, hT, hAp, hB4⟩ := snoc2 p HTa.out HPz.out (by omega) GA.out hgr4; subst e4; have T4 := Lib.hid hT; have P4 := Lib.hid hAp; have B4 := Lib.hid hB4; have M7z := Lib.hid (M7.out.below hB4); have k7 := M7z.out.cell (i := 5) rfl; have z7 := M7z.out.free 5; clear M7z; clear hgr4 hT hAp hB4 GA HP3 Hle3))
        generalize hw5 : World.setCell _ _ _ = w5
        have X5 : Hid (Blk w5 b0 (cells C d) 28) := Lib.hid (by rw [← hw5]; exact (X4.out.below B4.out).other _ _ (by simp; omega))
        have M5 : Hid (Blk w5 g7 (cells (moreA C p) (adA d A4 c4)) 28) := Lib.hid (by rw [← hw5]; exact (M7.out.below B4.out).set 5 _)
        have N5 : Hid (Blk w5 g8 (cells C d) 28) := Lib.hid (by rw [← hw5]; exact (M8.out.below B4.out).other _ _ (by simp; omega))
        have H5 : Hid (IsCt w5 C d) := Lib.hid (by rw [← hw5]; exact (Hq.out.below B4.out).other g7 5 _ Ap7.out)
        have I5 : Hid (IsCt w5 (moreA C p) (adA d A4 c4)) := Lib.hid ⟨(by rw [← hw5]; exact T4.out.other _ _ (fun _ b off e => by have := P4.out b off e; simp; omega)), H5.out.dn, H5.out.us, H5.out.ks⟩
        have B5 : Hid (Below w.heap.size w w5) := Lib.hid (by rw [← hw5]; exact (Bq.out.trans (B4.out.mono Bq.out.size)).setCell (by simp; omega) _)
        have s5 : wq.heap.size ≤ w5.heap.size := by rw [← hw5]; have := B4.out.size; simp; exact this
        clear hw5 k5 k5' k7 z7 T4 B4 HTa HSa HOa X4 M7 M8 Hq Bq
        have k6 : w5.cell? ⟨b0, 6, none⟩ = some (.slice d.dA C.nD d.dC) := X5.out.cell (i := 6) rfl
        have k6' : (w5.alloc (.cells #[] 9)).cell? ⟨b0, 6, none⟩ = some (.slice d.dA C.nD d.dC) := (X5.out.alloc _).cell (i := 6) rfl
        have l0 := X5.out.lt
        have HTb := Lib.hid H5.out.dn
        have HSb := Lib.hid (HTb.out.rws.src.below ((Below.refl _ w5).alloc (Nat.le_refl _) (.cells #[] 9)))
        have HOb := Lib.hid (World.ownsRow_made (base := w5.heap.size) (e := 9) (size := 1) w5 #[] 0 (Nat.le_refl _) (by decide) (by simp))
        go_upto_region 6 with (first
          | (at_builtin; refine wpList_append_any (o := ⟨some 33, _, _, _, _, _⟩) _ rfl (.tmp 30) (.tmp 32) 22 rfl w5.heap.size 9 i0 _ 1 16 Try.underlying22 HI.out.1 HI.out.2.1 HI.out.2.2.1 HI.out.2.2.2 rfl (by decide) _ 0 [] rfl HOb.out d.dA C.nD d.dC (flat C.nD (rowS C.dn)) rfl HSb.out (by unfold maxLen; omega) (by omega) (by simp) ?_; intro v3b w3b hgr; have GA := Lib.hid hgr; have HP3 := Lib.hid (hgr.own.alloc (.cells #[.string p] 9)); have Hle3 := Lib.hid (show w5.heap.size ≤ (w3b.alloc (.cells #[.string p] 9)).heap.size by have := hgr.grow.size; simp at this ⊢; omega); clear hgr)
          | (at_builtin; refine wpList_append_any (o := ⟨some 36, _, _, _, _, _⟩) _ rfl (.tmp 33) (.tmp 35) 22 rfl w5.heap.size 9 i0 _ 1 16 Try.underlying22 HI.out.1 HI.out.2.1 HI.out.2.2.1 HI.out.2.2.2 rfl (by decide) _ _ _ rfl HP3.out (some ⟨w3b.heap.size, 0, none⟩) 1 1 [.string p] rfl (src_one w3b p 9) (by unfold maxLen; omega) (by omega) Hle3.out ?_; intro v4b w4b hgr4; obtain ⟨A4b, c4b, e4, hT, hAp, hB4⟩ := snoc2 p HTb.out HPz.out (by omega) GA.out hgr4; subst e4; have T4b := Lib.hid hT; have P4b := Lib.hid hAp; have B4b := Lib.hid hB4; have N5z := Lib.hid (N5.out.below hB4); have k8 := N5z.out.cell (i := 6) rfl; have z8 := N5z.out.free 6; clear N5z; clear hgr4 hT hAp hB4 GA HP3 Hle3))
        generalize hw6 : World.setCell _ _ _ = w6
        have X6 : Hid (Blk w6 b0 (cells C d) 28) := Lib.hid (by rw [← hw6]; exact (X5.out.below B4b.out).other _ _ (by simp; omega))
        have M6 : Hid (Blk w6 g7 (cells (moreA C p) (adA d A4 c4)) 28) := Lib.hid (by rw [← hw6]; exact (M5.out.below B4b.out).other _ _ (by simp; omega))
        have N6 : Hid (Blk w6 g8 (cells (moreD C p) (adD d A4b c4b)) 28) := Lib.hid (by rw [← hw6]; exact (N5.out.below B4b.out).set 6 _)
        have H6 : Hid (IsCt w6 C d) := Lib.hid (by rw [← hw6]; exact (H5.out.below B4b.out).other g8 6 _ Ap8.out)
        have I6 : Hid (IsCt w6 (moreA C p) (adA d A4 c4)) := Lib.hid ⟨(by rw [← hw6]; exact (I5.out.below B4b.out).al.other _ _ (fun _ b off e => by have := P4.out b off e; simp; omega)), H6.out.dn, H6.out.us, H6.out.ks⟩
        have J6 : Hid (IsCt w6 (moreD C p) (adD d A4b c4b)) := Lib.hid ⟨H6.out.al, (by rw [← hw6]; exact T4b.out.other _ _ (fun _ b off e => by have := P4b.out b off e; simp; omega)), H6.out.us, H6.out.ks⟩
        have B6 : Hid (Below w.heap.size w w6) := Lib.hid (by rw [← hw6]; exact (B5.out.trans (B4b.out.mono B5.out.size)).setCell (by simp; omega) _)
        have s6 : w5.heap.size ≤ w6.heap.size := by rw [← hw6]; have := B4b.out.size; simp; exact this
        clear hw6 k6 k6' k8 z8 T4b B4b HTb HSb HOb X5 M5 N5 H5 I5 B5 P4b HI
        have AL := Lib.hid (fun u (hb : Below w6.heap.size w6 u) => allowed9 C d sv hs u (H6.out.below hb))
        have AMo := Lib.hid (fun u (hb : Below w6.heap.size w6 u) => allowed9 (moreA C p) (adA d A4 c4) sv hs u (I6.out.below hb))
        have ALe := Lib.hid (fun u (hb : Below w6.heap.size w6 u) => allowed9 (moreD C p) (adD d A4b c4b) sv hs u (J6.out.below hb))
        have KM6 := Lib.hid (fun u (h1 : IsCt u C d) (h2 : IsCt u (moreA C p) (adA d A4 c4)) => keeps11 C d (moreA C p) (adA d A4 c4) sv hs u h1 h2)
        have AM6 := Lib.hid (fun u (h2 : IsCt u (moreA C p) (adA d A4 c4)) => allowed9 (moreA C p) (adA d A4 c4) sv hs u h2)
        have RL := Lib.hid (allow_less C p sv)
        have RM := Lib.hid (allow_morea C p sv)
        generalize allow C sv = a at AL RL RM KM6
        generalize allow (moreA C p) sv = m at AMo RM KM6 AM6
        generalize allow (moreD C p) sv = l at ALe RL
        go_upto_region 7 with (first
          | (refine load_mid_g (by rfl) 28 _ rfl b0 0 rfl (cells C d) _ X6.out.range Try.underlying28 rfl size28c ?_)
          | (go_at_call 9; (with_reducible refine (AL.out _ (Below.refl _ _)).mono ?_); rintro e u7 ⟨rfl, hb7⟩; have Z7 := Lib.hid hb7; clear hb7))
        have X7 := Lib.hid (X6.out.below Z7.out)
        have M7 := Lib.hid (M6.out.below Z7.out)
        have N7 := Lib.hid (N6.out.below Z7.out)
        have B7 := Lib.hid (B6.out.trans (Z7.out.mono B6.out.size))
        have s7 : w6.heap.size ≤ u7.heap.size := Z7.out.size
        go_cut [56] from 41 to 56 (fun c wx => c = .bool false ∧ Below u7.heap.size u7 wx)
        case first =>
          cases a
          · obtain rfl := RL.out rfl
            go_wp2_with (first
              | (refine load_mid_g (by rfl) 28 _ rfl g8 0 rfl (cells (moreD C p) (adD d A4b c4b)) _ N7.out.range Try.underlying28 rfl size28c ?_)
              | (go_at_call 9; (with_reducible refine (ALe.out _ Z7.out).mono ?_); rintro e u8 ⟨rfl, hb8⟩))
            go_meet
            exact ⟨rfl, hb8⟩
          · obtain rfl := RM.out rfl
            cases l
            all_goals
              go_wp2_with (first
                | (refine load_mid_g (by rfl) 28 _ rfl g8 0 rfl (cells (moreD C p) (adD d A4b c4b)) _ N7.out.range Try.underlying28 rfl size28c ?_)
                | (go_at_call 9; (with_reducible refine (ALe.out _ Z7.out).mono ?_); rintro e u8 ⟨rfl, hb8⟩; have M8 := Lib.hid (M7.out.below hb8); have Z8 := Lib.hid (Z7.out.trans (hb8.mono Z7.out.size)))
                | (refine load_mid_g (by rfl) 28 _ rfl g7 0 rfl (cells (moreA C p) (adA d A4 c4)) _ M8.out.range Try.underlying28 rfl size28c ?_)
                | (go_at_call 9; (with_reducible refine (AMo.out _ Z8.out).mono ?_); rintro e u9 ⟨rfl, hb9⟩))
              go_meet
              exact ⟨rfl, hb8.trans (hb9.mono hb8.size)⟩
        case rest =>
          obtain ⟨rfl, hbx⟩ := hcut
          obtain ⟨wr, rfl⟩ : ∃ x : World, x = wc := ⟨_, rfl⟩
          have Xr := Lib.hid (X7.out.below hbx)
          have Mr := Lib.hid (M7.out.below hbx)
          have Zr := Lib.hid (Z7.out.trans (hbx.mono Z7.out.size))
          have Hr := Lib.hid (H6.out.below Zr.out)
          have Ir := Lib.hid (I6.out.below Zr.out)
          have Br := Lib.hid (B7.out.trans (hbx.mono B7.out.size))
          have sr : w6.heap.size ≤ wr.heap.size := Zr.out.size
          clear AL AMo ALe RL RM X6 M6 N6 H6 I6 J6 B6 X7 M7 N7 B7 Z7 hbx
          go_upto_region 10 with (first
            | (refine load_mid_g (by rfl) 28 _ rfl b0 0 rfl (cells C d) _ Xr.out.range Try.underlying28 rfl size28c ?_)
            | (refine store_mid_as rfl 28 _ _ rfl wr.heap.size 0 (cells C d).toArray rfl rfl (Blk.there (n := 16) (blk_new wr c16 28) (by decide)) size28c (ctc_one _ _) ?_; intro w9 qw9; have X9 : Hid (Blk w9 b0 (cells C d) 28) := Lib.hid (by rw [qw9]; exact (Xr.out.alloc _).otherAll _ _ _ (by omega)); have M9 : Hid (Blk w9 g7 (cells (moreA C p) (adA d A4 c4)) 28) := Lib.hid (by rw [qw9]; exact (Mr.out.alloc _).otherAll _ _ _ (by omega)); have N9 : Hid (Blk w9 wr.heap.size (cells C d) 28) := Lib.hid (by rw [qw9]; exact (blk_new wr c16 28).setAll _ rfl); have H9 : Hid (IsCt w9 C d) := Lib.hid (by rw [qw9]; exact (Hr.out.below ((Below.refl _ wr).alloc (Nat.le_refl _) _)).otherAll _ _ _ (Hr.out.apart (Nat.le_refl _))); have I9 : Hid (IsCt w9 (moreA C p) (adA d A4 c4)) := Lib.hid (by rw [qw9]; exact (Ir.out.below ((Below.refl _ wr).alloc (Nat.le_refl _) _)).otherAll _ _ _ (Ir.out.apart (Nat.le_refl _))); have B9 : Hid (Below w.heap.size w w9) := Lib.hid (by rw [qw9]; exact below_setAll Br.out.size _ _ _ (Br.out.alloc Br.out.size _)); have Ap9 := Lib.hid (Hr.out.apart (Nat.le_refl _)); have Aq9 := Lib.hid (Ir.out.apart (Nat.le_refl _)); have lr := Br.out.size; clear qw9 Xr Mr Hr Ir Br))
          have k10 := N9.out.cell (i := 5) rfl
          have z10 := N9.out.free 5
          generalize wr.heap.size = g10 at *
          go_upto_region 11 with (fail)
          generalize hu8 : World.setCell _ _ _ = u8
          have X8 : Hid (Blk u8 b0 (cells C d) 28) := Lib.hid (by rw [← hu8]; exact X9.out.other _ _ (by simp; omega))
          have M8 : Hid (Blk u8 g7 (cells (moreA C p) (adA d A4 c4)) 28) := Lib.hid (by rw [← hu8]; exact M9.out.other _ _ (by simp; omega))
          have N8 : Hid (Blk u8 g10 (cells (noneA C) (adA d none 0)) 28) := Lib.hid (by rw [← hu8]; exact N9.out.set 5 _)
          have H8 : Hid (IsCt u8 C d) := Lib.hid (by rw [← hu8]; exact H9.out.other _ _ _ Ap9.out)
          have I8 : Hid (IsCt u8 (moreA C p) (adA d A4 c4)) := Lib.hid (by rw [← hu8]; exact I9.out.other _ _ _ Aq9.out)
          have J8 : Hid (IsCt u8 (noneA C) (adA d none 0)) := Lib.hid ⟨Txs.nil _, H8.out.dn, H8.out.us, H8.out.ks⟩
          have B8 : Hid (Below w.heap.size w u8) := Lib.hid (by rw [← hu8]; exact B9.out.setCell (by simp; omega) _)
          clear hu8 k10 z10 X9 M9 N9 H9 I9 B9
          have AN := Lib.hid (fun u (hb : Below u8.heap.size u8 u) => allowed9 (noneA C) (adA d none 0) sv hs u (J8.out.below hb))
          rw [allow_none] at AN
          have KM := Lib.hid (fun u (hb : Below u8.heap.size u8 u) => KM6.out u (H8.out.below hb) (I8.out.below hb))
          have AM := Lib.hid (fun u (hb : Below u8.heap.size u8 u) => AM6.out u (I8.out.below hb))
          clear H8 I8 J8 KM6 AM6
          have HS8 := Lib.hid B8.out.size
          refine wp_region_held_drew (S := (fun w' => Blk w' b0 (cells C d) 28 ∧ Blk w' g7 (cells (moreA C p) (adA d A4 c4)) 28 ∧ Blk w' g10 (cells (noneA C) (adA d none 0)) 28 ∧ Below u8.heap.size u8 w')) (by kernel_rfl) (by first | exact ⟨X8.out.drew, M8.out.drew, N8.out.drew, (Below.refl _ _).drew⟩ | exact ⟨hH0.1.below hb3, hH0.2.1.below hb3, hH0.2.2.1.below hb3, hH0.2.2.2.trans (hb3.mono hH0.2.2.2.size)⟩ | exact hH0) (fun hH0 => ?_)
          refine wpAnyH_take (i := 0) (oi := ({ dst := some 59, op := Op.load 28 (Operand.tmp 10), type := 28, pos := "law.go:57", after := #[], guard := none } : Oper)) (v := .agg (cells (noneA C) (adA d none 0)).toArray) rfl (by kernel_rfl) (by kernel_rfl) (by kernel_rfl) (fun _ _ _ h => h) (yieldsIf_load_mid (by rfl) 28 _ rfl g10 0 rfl (cells (noneA C) (adA d none 0)) _ (fun w hw => hw.2.2.1.range) Try.underlying28 rfl size28c) (by assumption) ?hr1
          try simp only [Act.put, List.setIfInBounds_toArray, List.set_cons_zero, List.set_cons_succ]
          refine wpAnyH_take (i := 1) (oi := ({ dst := some 60, op := Op.move (Operand.tmp 2), type := 9, pos := "law.go:57", after := #[], guard := none } : Oper)) (v := ?hv2) rfl (by kernel_rfl) (by kernel_rfl) (by kernel_rfl) (fun _ _ _ h => h) (Or.inl ⟨by rfl, ?hy2⟩) (by assumption) ?hr2
          case hy2 => (intro w hSw; (try dsimp only at hSw); go_simp; (try with_reducible rfl))
          try simp only [Act.put, List.setIfInBounds_toArray, List.set_cons_zero, List.set_cons_succ]
          refine wpAnyH_ready (rs := [2]) (by kernel_rfl) (by simp) ?_
          refine AllReadyH.cons (o := ({ dst := some 61, op := Op.call { callee := Callee.value (Operand.func 9), args := #[Operand.tmp 59, Operand.tmp 60], argTypes := #[28, 9] }, type := 4, pos := "law.go:57", after := #[{ on := 0, ground := Ground.data }, { on := 1, ground := Ground.data }], guard := none } : Oper)) rfl (fun KK hKK => ?_) AllReadyH.nil
          (go_simp; (with_reducible refine (AN.out _ hH0.2.2.2).mono ?_); rintro e0 w3 ⟨rfl, hb3⟩)
          refine hKK.out _ _ (by first | exact ⟨X8.out.drew, M8.out.drew, N8.out.drew, (Below.refl _ _).drew⟩ | exact ⟨hH0.1.below hb3, hH0.2.1.below hb3, hH0.2.2.1.below hb3, hH0.2.2.2.trans (hb3.mono hH0.2.2.2.size)⟩ | exact hH0) (fun hH1 => ?_)
          clear hKK KK hH0
          try simp only [Act.put, List.setIfInBounds_toArray, List.set_cons_zero, List.set_cons_succ]
          refine wpAnyH_take (i := 3) (oi := ({ dst := some 62, op := Op.unOp UnOp.not 4 (Operand.tmp 61), type := 4, pos := "law.go:57", after := #[{ on := 2, ground := Ground.data }], guard := none } : Oper)) (v := ?hv3) rfl (by kernel_rfl) (by kernel_rfl) (by kernel_rfl) (fun _ _ _ h => h) (Or.inl ⟨by rfl, ?hy3⟩) (by assumption) ?hr3
          case hy3 => (intro w hSw; (try dsimp only at hSw); go_simp; (try with_reducible rfl))
          try simp only [Act.put, List.setIfInBounds_toArray, List.set_cons_zero, List.set_cons_succ]
          refine wpAnyH_take (i := 4) (oi := ({ dst := some 63, op := Op.move (Operand.tmp 62), type := 4, pos := "law.go:57", after := #[{ on := 3, ground := Ground.data }, { on := 2, ground := Ground.chain }], guard := none } : Oper)) (v := ?hv4) rfl (by kernel_rfl) (by kernel_rfl) (by kernel_rfl) (fun _ _ _ h => h) (Or.inl ⟨by rfl, ?hy4⟩) (by assumption) ?hr4
          case hy4 => (intro w hSw; (try dsimp only at hSw); go_simp; (try with_reducible rfl))
          try simp only [Act.put, List.setIfInBounds_toArray, List.set_cons_zero, List.set_cons_succ]
          refine wpAnyH_take (i := 5) (oi := ({ dst := some 64, op := Op.load 28 (Operand.tmp 3), type := 28, pos := "law.go:57", after := #[{ on := 4, ground := Ground.guard }], guard := some (4, true) } : Oper)) (v := .agg (cells C d).toArray) rfl (by kernel_rfl) (by kernel_rfl) (by kernel_rfl) (fun _ _ _ h => h) (yieldsIf_load_mid (by rfl) 28 _ rfl b0 0 rfl (cells C d) _ (fun w hw => hw.1.range) Try.underlying28 rfl size28c) (by assumption) ?hr5
          try simp only [Act.put, List.setIfInBounds_toArray, List.set_cons_zero, List.set_cons_succ]
          refine wpAnyH_take (i := 6) (oi := ({ dst := some 65, op := Op.load 28 (Operand.tmp 7), type := 28, pos := "law.go:57", after := #[{ on := 4, ground := Ground.guard }], guard := some (4, true) } : Oper)) (v := .agg (cells (moreA C p) (adA d A4 c4)).toArray) rfl (by kernel_rfl) (by kernel_rfl) (by kernel_rfl) (fun _ _ _ h => h) (yieldsIf_load_mid (by rfl) 28 _ rfl g7 0 rfl (cells (moreA C p) (adA d A4 c4)) _ (fun w hw => hw.2.1.range) Try.underlying28 rfl size28c) (by assumption) ?hr6
          try simp only [Act.put, List.setIfInBounds_toArray, List.set_cons_zero, List.set_cons_succ]
          refine wpAnyH_take (i := 7) (oi := ({ dst := some 66, op := Op.move (Operand.tmp 2), type := 9, pos := "law.go:57", after := #[{ on := 4, ground := Ground.guard }], guard := some (4, true) } : Oper)) (v := ?hv7) rfl (by kernel_rfl) (by kernel_rfl) (by kernel_rfl) (fun _ _ _ h => h) (Or.inl ⟨by rfl, ?hy7⟩) (by assumption) ?hr7
          case hy7 => (intro w hSw; (try dsimp only at hSw); go_simp; (try with_reducible rfl))
          try simp only [Act.put, List.setIfInBounds_toArray, List.set_cons_zero, List.set_cons_succ]
          refine wpAnyH_take (i := 9) (oi := ({ dst := some 68, op := Op.move (Operand.tmp 9), type := 4, pos := "law.go:57", after := #[{ on := 4, ground := Ground.guard }], guard := some (4, true) } : Oper)) (v := ?hv8) rfl (by kernel_rfl) (by kernel_rfl) (by kernel_rfl) (fun _ _ _ h => h) (Or.inl ⟨by rfl, ?hy8⟩) (by assumption) ?hr8
          case hy8 => (intro w hSw; (try dsimp only at hSw); go_simp; (try with_reducible rfl))
          try simp only [Act.put, List.setIfInBounds_toArray, List.set_cons_zero, List.set_cons_succ]
          refine wpAnyH_take (i := 10) (oi := ({ dst := some 69, op := Op.load 28 (Operand.tmp 7), type := 28, pos := "law.go:57", after := #[{ on := 4, ground := Ground.guard }], guard := some (4, true) } : Oper)) (v := .agg (cells (moreA C p) (adA d A4 c4)).toArray) rfl (by kernel_rfl) (by kernel_rfl) (by kernel_rfl) (fun _ _ _ h => h) (yieldsIf_load_mid (by rfl) 28 _ rfl g7 0 rfl (cells (moreA C p) (adA d A4 c4)) _ (fun w hw => hw.2.1.range) Try.underlying28 rfl size28c) (by assumption) ?hr9
          try simp only [Act.put, List.setIfInBounds_toArray, List.set_cons_zero, List.set_cons_succ]
          refine wpAnyH_take (i := 11) (oi := ({ dst := some 70, op := Op.move (Operand.tmp 2), type := 9, pos := "law.go:57", after := #[{ on := 4, ground := Ground.guard }], guard := some (4, true) } : Oper)) (v := ?hv10) rfl (by kernel_rfl) (by kernel_rfl) (by kernel_rfl) (fun _ _ _ h => h) (Or.inl ⟨by rfl, ?hy10⟩) (by assumption) ?hr10
          case hy10 => (intro w hSw; (try dsimp only at hSw); go_simp; (try with_reducible rfl))
          try simp only [Act.put, List.setIfInBounds_toArray, List.set_cons_zero, List.set_cons_succ]
          refine wpAnyH_ready (rs := [8]) (by kernel_rfl) (by simp) ?_
          refine AllReadyH.cons (o := ({ dst := some 67, op := Op.call { callee := Callee.value (Operand.func 11), args := #[Operand.tmp 64, Operand.tmp 65, Operand.tmp 66], argTypes := #[28, 28, 9] }, type := 4, pos := "law.go:57", after := #[{ on := 5, ground := Ground.data }, { on := 6, ground := Ground.data }, { on := 7, ground := Ground.data }, { on := 4, ground := Ground.chain }, { on := 4, ground := Ground.guard }], guard := some (4, true) } : Oper)) rfl (fun KK hKK => ?_) AllReadyH.nil
          (go_simp; (with_reducible refine (KM.out _ hH1.2.2.2).mono ?_); rintro e0 w3 ⟨rfl, hb3⟩)
          refine hKK.out _ _ (by first | exact ⟨X8.out.drew, M8.out.drew, N8.out.drew, (Below.refl _ _).drew⟩ | exact ⟨hH1.1.below hb3, hH1.2.1.below hb3, hH1.2.2.1.below hb3, hH1.2.2.2.trans (hb3.mono hH1.2.2.2.size)⟩ | exact hH1) (fun hH2 => ?_)
          clear hKK KK hH1
          try simp only [Act.put, List.setIfInBounds_toArray, List.set_cons_zero, List.set_cons_succ]
          refine wpAnyH_ready (rs := [12]) (by kernel_rfl) (by simp) ?_
          refine AllReadyH.cons (o := ({ dst := some 71, op := Op.call { callee := Callee.value (Operand.func 9), args := #[Operand.tmp 69, Operand.tmp 70], argTypes := #[28, 9] }, type := 4, pos := "law.go:57", after := #[{ on := 10, ground := Ground.data }, { on := 11, ground := Ground.data }, { on := 8, ground := Ground.chain }, { on := 4, ground := Ground.guard }], guard := some (4, true) } : Oper)) rfl (fun KK hKK => ?_) AllReadyH.nil
          (go_simp; (with_reducible refine (AM.out _ hH2.2.2.2).mono ?_); rintro e0 w3 ⟨rfl, hb3⟩)
          refine hKK.out _ _ (by first | exact ⟨X8.out.drew, M8.out.drew, N8.out.drew, (Below.refl _ _).drew⟩ | exact ⟨hH2.1.below hb3, hH2.2.1.below hb3, hH2.2.2.1.below hb3, hH2.2.2.2.trans (hb3.mono hH2.2.2.2.size)⟩ | exact hH2) (fun hH3 => ?_)
          clear hKK KK hH2
          try simp only [Act.put, List.setIfInBounds_toArray, List.set_cons_zero, List.set_cons_succ]
          refine wpAnyH_take (i := 13) (oi := ({ dst := some 72, op := Op.binOp BinOp.eql 4 (Operand.tmp 68) (Operand.tmp 71) 4, type := 4, pos := "law.go:57", after := #[{ on := 9, ground := Ground.data }, { on := 12, ground := Ground.data }, { on := 4, ground := Ground.guard }], guard := some (4, true) } : Oper)) (v := ?hv11) rfl (by kernel_rfl) (by kernel_rfl) (by kernel_rfl) (fun _ _ _ h => h) (Or.inl ⟨by rfl, ?hy11⟩) (by assumption) ?hr11
          case hy11 => (intro w hSw; (try dsimp only at hSw); go_simp; (try with_reducible rfl))
          try simp only [Act.put, List.setIfInBounds_toArray, List.set_cons_zero, List.set_cons_succ]
          refine wpAnyH_take (i := 14) (oi := ({ dst := some 73, op := Op.binOp BinOp.eql 4 (Operand.tmp 67) (Operand.tmp 72) 4, type := 4, pos := "law.go:57", after := #[{ on := 8, ground := Ground.data }, { on := 13, ground := Ground.data }, { on := 4, ground := Ground.guard }], guard := some (4, true) } : Oper)) (v := ?hv12) rfl (by kernel_rfl) (by kernel_rfl) (by kernel_rfl) (fun _ _ _ h => h) (Or.inl ⟨by rfl, ?hy12⟩) (by assumption) ?hr12
          case hy12 => (intro w hSw; (try dsimp only at hSw); go_simp; (try with_reducible rfl))
          try simp only [Act.put, List.setIfInBounds_toArray, List.set_cons_zero, List.set_cons_succ]
          refine wpAnyH_take (i := 15) (oi := ({ dst := some 74, op := Op.pick (Operand.tmp 63) (Operand.tmp 73) (Operand.const (Value.bool false)), type := 4, pos := "law.go:57", after := #[{ on := 4, ground := Ground.data }, { on := 14, ground := Ground.data }], guard := none } : Oper)) (v := ?hv13) rfl (by kernel_rfl) (by kernel_rfl) (by kernel_rfl) (fun _ _ _ h => h) (Or.inl ⟨by rfl, ?hy13⟩) (by assumption) ?hr13
          case hy13 => (intro w hSw; (try dsimp only at hSw); go_simp; (try with_reducible rfl))
          try simp only [Act.put, List.setIfInBounds_toArray, List.set_cons_zero, List.set_cons_succ]
          refine wpAnyH_take (i := 16) (oi := ({ dst := some 75, op := Op.move (Operand.tmp 74), type := 4, pos := "law.go:57", after := #[{ on := 15, ground := Ground.data }, { on := 12, ground := Ground.chain }], guard := none } : Oper)) (v := ?hv14) rfl (by kernel_rfl) (by kernel_rfl) (by kernel_rfl) (fun _ _ _ h => h) (Or.inl ⟨by rfl, ?hy14⟩) (by assumption) ?hr14
          case hy14 => (intro w hSw; (try dsimp only at hSw); go_simp; (try with_reducible rfl))
          try simp only [Act.put, List.setIfInBounds_toArray, List.set_cons_zero, List.set_cons_succ]
          refine wpAnyH_ready (rs := [17]) (by kernel_rfl) (by simp) ?_
          refine AllReadyH.cons (o := ({ dst := some 76, op := Op.call { callee := Callee.value (Operand.func 8), args := #[], argTypes := #[] }, type := 4, pos := "law.go:57", after := #[{ on := 16, ground := Ground.chain }, { on := 16, ground := Ground.guard }], guard := some (16, true) } : Oper)) rfl (fun KK hKK => ?_) AllReadyH.nil
          (go_simp; (with_reducible refine (AW.out _).mono ?_); rintro e0 w3 ⟨rfl, hb3⟩)
          refine hKK.out _ _ (by first | exact ⟨X8.out.drew, M8.out.drew, N8.out.drew, (Below.refl _ _).drew⟩ | exact ⟨hH3.1.below hb3, hH3.2.1.below hb3, hH3.2.2.1.below hb3, hH3.2.2.2.trans (hb3.mono hH3.2.2.2.size)⟩ | exact hH3) (fun hH4 => ?_)
          clear hKK KK hH3
          try simp only [Act.put, List.setIfInBounds_toArray, List.set_cons_zero, List.set_cons_succ]
          refine wpAnyH_take (i := 18) (oi := ({ dst := some 77, op := Op.pick (Operand.tmp 75) (Operand.tmp 76) (Operand.const (Value.bool false)), type := 4, pos := "law.go:57", after := #[{ on := 16, ground := Ground.data }, { on := 17, ground := Ground.data }], guard := none } : Oper)) (v := ?hv15) rfl (by kernel_rfl) (by kernel_rfl) (by kernel_rfl) (fun _ _ _ h => h) (Or.inl ⟨by rfl, ?hy15⟩) (by assumption) ?hr15
          case hy15 => (intro w hSw; (try dsimp only at hSw); go_simp; (try with_reducible rfl))
          try simp only [Act.put, List.setIfInBounds_toArray, List.set_cons_zero, List.set_cons_succ]
          refine wpAnyH_take (i := 19) (oi := ({ dst := some 6, op := Op.assign (Operand.tmp 77), type := 4, pos := "law.go:57", after := #[{ on := 18, ground := Ground.data }, { on := 17, ground := Ground.chain }, { on := 0, ground := Ground.phase }, { on := 1, ground := Ground.phase }, { on := 2, ground := Ground.phase }, { on := 3, ground := Ground.phase }, { on := 4, ground := Ground.phase }, { on := 5, ground := Ground.phase }, { on := 6, ground := Ground.phase }, { on := 7, ground := Ground.phase }, { on := 8, ground := Ground.phase }, { on := 9, ground := Ground.phase }, { on := 10, ground := Ground.phase }, { on := 11, ground := Ground.phase }, { on := 12, ground := Ground.phase }, { on := 13, ground := Ground.phase }, { on := 14, ground := Ground.phase }, { on := 15, ground := Ground.phase }, { on := 16, ground := Ground.phase }, { on := 17, ground := Ground.phase }, { on := 18, ground := Ground.phase }], guard := none } : Oper)) (v := ?hv16) rfl (by kernel_rfl) (by kernel_rfl) (by kernel_rfl) (fun _ _ _ h => h) (Or.inl ⟨by rfl, ?hy16⟩) (by assumption) ?hr16
          case hy16 => (intro w hSw; (try dsimp only at hSw); go_simp; (try with_reducible rfl))
          try simp only [Act.put, List.setIfInBounds_toArray, List.set_cons_zero, List.set_cons_succ]
          refine wpAnyH_done (by kernel_rfl) ?_ _
          have hBl := hH4.2.2.2
          clear hH4
          go_wp2
          go_ret
          exact ⟨rfl, B8.out.trans (hBl.mono HS8.out)⟩
  · go_wp2_with (first
      | (refine load_mid_g (by rfl) 28 _ rfl b0 0 rfl (cells C d) _ X1.out.range Try.underlying28 rfl size28c ?_)
      | (go_at_call 7; (with_reducible refine (G1.out _ B1.out).mono ?_); rintro e u3 ⟨rfl, hb3⟩; have B3 := Lib.hid (B1.out.trans (hb3.mono B1.out.size)); clear hb3)
      | (go_at_call 8; (with_reducible refine (AW.out _).mono ?_); rintro e u4 ⟨rfl, hb5⟩))
    go_ret
    exact ⟨rfl, B3.out.trans (hb5.mono B3.out.size)⟩
end Go.Proofs.Ytokofmolbdpklaa
