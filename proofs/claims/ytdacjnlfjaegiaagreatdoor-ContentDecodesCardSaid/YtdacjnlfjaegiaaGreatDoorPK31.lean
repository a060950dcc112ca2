/- Decoding of levels without lists (enough where there are none). Bounds: at most 800000 bytes. No condition. -/
import Derived.Test.YtdacjnlfjaegiaaGreatDoorPPf
namespace Go.Proofs.YtdacjnlfjaegiaaGreatDoor
open Go Go.RowKit
set_option linter.unusedVariables false
set_option linter.unusedSimpArgs false
set_option maxRecDepth 100000

theorem Blk.kp {w w' : World} {t : Nat} {cs : List Value} {T : TypeId} (h : Blk w t cs T) {g : Nat} (hne : t ≠ g) (hk : Kp g w w') : Blk w' t cs T := ⟨(hk.block t h.lt hne).trans h.heap⟩
theorem _root_.Go.Proofs.YtdacjnlfjaegiaaGreatDoor.Cd.Sl.set_blk {w : World} {A : Option Addr} {n c : Nat} {zs : List Int} (h : Cd.Sl w A n c zs) {g : Nat} {cs : List Value} {T : TypeId} (hb : Blk w g cs T) (hn : ∀ v ∈ cs, ∀ z, v ≠ .int .u8 z) (i : Nat) (v : Value) : Cd.Sl (w.setCell ⟨g, i, none⟩ v) A n c zs := by
  refine ⟨h.sz, h.bd, h.le, h.nl, fun h0 => ?_⟩
  obtain ⟨b, off, e, hl, hc⟩ := h.cell h0
  have hne : b ≠ g := by
    rintro rfl
    have h1 := hc 0 h0
    have h2 : w.cell? ⟨b, off + 0, none⟩ = cs[off + 0]? := by
      simp [World.cell?, hb.heap]
    rw [h2] at h1
    exact hn _ (List.mem_of_getElem? h1) _ rfl
  exact ⟨b, off, e, by simpa using hl, fun j hj => (World.cell?_of_block (a := ⟨b, off + j, none⟩) (heap_setCell_other w ⟨g, i, none⟩ b v hne)).trans (hc j hj)⟩
theorem Rd.set_blk {w : World} {rb : Nat} {zs : List Int} {f : Bool} (h : Rd w rb zs f) {g : Nat} {cs : List Value} {T : TypeId} (hb : Blk w g cs T) (hne : rb ≠ g) (hn : ∀ v ∈ cs, ∀ z, v ≠ .int .u8 z) (i : Nat) (v : Value) : Rd (w.setCell ⟨g, i, none⟩ v) rb zs f := by
  obtain ⟨A, c, h1, h2⟩ := h
  exact ⟨A, c, h1.other ⟨g, i, none⟩ v hne, h2.set_blk hb hn i v⟩
theorem Rd.below {w w1 : World} {rb : Nat} {zs : List Int} {f : Bool} (h : Rd w rb zs f) (hb : Below w.heap.size w w1) : Rd w1 rb zs f := by
  obtain ⟨A, c, h1, h2⟩ := h
  exact ⟨A, c, h1.below hb, h2.below hb⟩
theorem Rd.lt {w : World} {rb : Nat} {zs : List Int} {f : Bool} (h : Rd w rb zs f) : rb < w.heap.size := by
  obtain ⟨A, c, h1, h2⟩ := h
  exact h1.lt
theorem Rd.set_all {w : World} {rb : Nat} {zs : List Int} {f : Bool} (h : Rd w rb zs f) {g : Nat} {cs : List Value} {T : TypeId} (hb : Blk w g cs T) (hne : rb ≠ g) (hn : ∀ v ∈ cs, ∀ z, v ≠ .int .u8 z) (o : Nat) (vs : List Value) : Rd (w.setCells g o vs) rb zs f := by
  obtain ⟨A, c, h1, h2⟩ := h
  refine ⟨A, c, h1.otherAll g o vs hne, ⟨h2.sz, h2.bd, h2.le, h2.nl, fun h0 => ?_⟩⟩
  obtain ⟨b, off, e, hl, hc⟩ := h2.cell h0
  have hne : b ≠ g := by
    rintro rfl
    have h1 := hc 0 h0
    have h2 : w.cell? ⟨b, off + 0, none⟩ = cs[off + 0]? := by
      simp [World.cell?, hb.heap]
    rw [h2] at h1
    exact hn _ (List.mem_of_getElem? h1) _ rfl
  exact ⟨b, off, e, by rw [size_setAll]; exact hl, fun j hj => (World.cell?_of_block (a := ⟨b, off + j, none⟩) (World.heap_setCells_other w g o vs hl hne)).trans (hc j hj)⟩
theorem Kp.new_set {g t : Nat} {w w1 : World} (h : Kp g w w1) (ht : w.heap.size ≤ t) (i : Nat) (v : Value) : Kp g w (w1.setCell ⟨t, i, none⟩ v) := ⟨by have := h.size; simpa using this, fun k hk hn => (heap_setCell_other w1 ⟨t, i, none⟩ k v (by show k ≠ t; omega)).trans (h.block k hk hn)⟩
theorem Kp.new_all {g t : Nat} {w w1 : World} (h : Kp g w w1) (ht : w.heap.size ≤ t) (o : Nat) (vs : List Value) : Kp g w (w1.setCells t o vs) := ⟨by rw [size_setAll]; exact h.size, fun k hk hn => (World.heap_setCells_other w1 t o vs (Nat.lt_of_lt_of_le hk h.size) (by omega)).trans (h.block k hk hn)⟩
/-- So many ints, taken one behind the other. -/
def takes (zs : List Int) (f : Bool) : Nat → List Int × List Int × Bool
  | 0 => ([], zs, f)
  | n + 1 => ((takes zs f n).1 ++ [(gtkI (takes zs f n).2.1 (takes zs f n).2.2).1], (gtkI (takes zs f n).2.1 (takes zs f n).2.2).2)
theorem takes_len (zs : List Int) (f : Bool) : ∀ n, (takes zs f n).1.length = n
  | 0 => rfl
  | n + 1 => by show ((takes zs f n).1 ++ [_]).length = n + 1; rw [List.length_append, takes_len zs f n]; rfl
theorem gtkI_len (zs : List Int) (f : Bool) : (gtkI zs f).2.1.length ≤ zs.length := by
  unfold gtkI
  cases f with
  | true => exact Nat.le_refl _
  | false =>
    cases h : Cd.di zs with
    | none => exact Nat.zero_le _
    | some p => exact Cd.di_len h
theorem takes_rest (zs : List Int) (f : Bool) : ∀ n, (takes zs f n).2.1.length ≤ zs.length
  | 0 => Nat.le_refl _
  | n + 1 => Nat.le_trans (gtkI_len _ _) (takes_rest zs f n)
theorem cntk_len (zs : List Int) (f : Bool) : (cntk zs f).2.1.length ≤ zs.length := by
  unfold cntk
  split
  · exact gtkI_len zs f
  · exact gtkI_len zs f
def lvk (vs : List Int) : List Value := (([.slice none 0 0, .slice none 0 0] : List Value) ++ vs.map (Value.int .i64)) ++ List.replicate (7 - vs.length) (.int .i64 0)
theorem lvk_set (vs : List Int) (v : Int) (h : vs.length < 7) : (lvk vs).set (2 + vs.length) (.int .i64 v) = lvk (vs ++ [v]) := by
  unfold lvk
  have e : 7 - vs.length = (7 - (vs ++ [v]).length) + 1 := by rw [List.length_append, List.length_singleton]; omega
  rw [List.set_append_right _ _ (by simp; omega), e, List.replicate_succ]
  rw [show 2 + vs.length - (([.slice none 0 0, .slice none 0 0] : List Value) ++ vs.map (Value.int .i64)).length = 0 by simp; omega]
  simp
theorem lvk_no8 (vs : List Int) : ∀ v ∈ lvk vs, ∀ z, v ≠ .int .u8 z := by
  intro v hv z e
  subst e
  unfold lvk at hv
  simp at hv
theorem lvk_len (vs : List Int) (h : vs.length = 7) : (lvk vs).length = 9 := by
  unfold lvk
  simp [h]
theorem lvk_one (vs : List Int) : (lvk vs).toArray.all (·.oneCell') = true := by
  rw [List.all_toArray]
  refine List.all_eq_true.2 (fun v hm => ?_)
  unfold lvk at hm
  simp only [List.mem_append, List.mem_map, List.mem_replicate, List.mem_cons, List.not_mem_nil, or_false] at hm
  rcases hm with (hm | ⟨z, _, hm⟩) | ⟨_, hm⟩
  · rcases hm with hm | hm <;> rw [hm] <;> rfl
  · rw [← hm]; rfl
  · rw [hm]; rfl
theorem lvk_at (vs : List Int) (h : vs.length < 7) : (lvk vs)[2 + vs.length]? = some (.int .i64 0) := by
  unfold lvk
  rw [List.getElem?_append_right (by simp; omega)]
  rw [show 2 + vs.length - (([.slice none 0 0, .slice none 0 0] : List Value) ++ vs.map (Value.int .i64)).length = 0 by simp; omega]
  rw [show 7 - vs.length = (6 - vs.length) + 1 by omega, List.replicate_succ]
  rfl
theorem pts_at (lb : Nat) (k : Nat) (h : k < 7) : ([.pointer (some ⟨lb, 2, none⟩), .pointer (some ⟨lb, 3, none⟩), .pointer (some ⟨lb, 4, none⟩), .pointer (some ⟨lb, 5, none⟩), .pointer (some ⟨lb, 6, none⟩), .pointer (some ⟨lb, 7, none⟩), .pointer (some ⟨lb, 8, none⟩)] : List Value)[k]? = some (.pointer (some ⟨lb, 2 + k, none⟩)) := by
  match k, h with
  | 0, _ => rfl
  | 1, _ => rfl
  | 2, _ => rfl
  | 3, _ => rfl
  | 4, _ => rfl
  | 5, _ => rfl
  | 6, _ => rfl
def lvs (vs : List Int) : List Value := lvk vs
/-- What decodeLevels gives where both counts are zero. -/
def DlP (vs : List Int) (zs : List Int) (f : Bool) (rb : Nat) (w : World) (e : Ending) (w' : World) : Prop := e = .returned (.agg (lvk vs).toArray) ∧ Rd w' rb zs f ∧ Below rb w w' ∧ Kp rb w w'
set_option maxHeartbeats 16000000 in
theorem decode71z (rb : Nat) (zs : List Int) (f : Bool) (w : World) (h : Rd w rb zs f) (hl : zs.length ≤ 800000) (h1 : (cntk zs f).1 = 0) (h2 : (cntk (cntk zs f).2.1 (cntk zs f).2.2).1 = 0) :
    Calls Tryz.prog 71 #[.pointer (some ⟨rb, 0, none⟩)] w (DlP (takes (cntk (cntk zs f).2.1 (cntk zs f).2.2).2.1 (cntk (cntk zs f).2.1 (cntk zs f).2.2).2.2 7).1 (takes (cntk (cntk zs f).2.1 (cntk zs f).2.2).2.1 (cntk (cntk zs f).2.1 (cntk zs f).2.2).2.2 7).2.1 (takes (cntk (cntk zs f).2.1 (cntk zs f).2.2).2.1 (cntk (cntk zs f).2.1 (cntk zs f).2.2).2.2 7).2.2 rb w) := by
  unfold DlP
  have HT1 := Lib.hid (fun y (hr : Rd y rb zs f) => count131 rb zs f y hr hl)
  have hl1 := Nat.le_trans (cntk_len zs f) hl
  generalize cntk zs f = t1 at HT1 h1 h2 hl1 ⊢
  obtain ⟨n1, zs1, f1⟩ := t1
  dsimp only at h1 h2 hl1 HT1 ⊢
  subst h1
  have HT2 := Lib.hid (fun y (hr : Rd y rb zs1 f1) => count131 rb zs1 f1 y hr hl1)
  have hl2 := Nat.le_trans (cntk_len zs1 f1) hl1
  generalize cntk zs1 f1 = t2 at HT2 h2 hl2 ⊢
  obtain ⟨n2, zs2, f2⟩ := t2
  dsimp only at h2 hl2 HT2 ⊢
  subst h2
  have H0 := Lib.hid h
  have HR := Lib.hid h.lt
  clear h
  have BA := Lib.hid ((Below.refl w.heap.size w).alloc (Nat.le_refl _) (.cells #[.slice none 0 0, .slice none 0 0, .int .i64 0, .int .i64 0, .int .i64 0, .int .i64 0, .int .i64 0, .int .i64 0, .int .i64 0] 27))
  have RA := Lib.hid (blk_new w [.slice none 0 0, .slice none 0 0, .int .i64 0, .int .i64 0, .int .i64 0, .int .i64 0, .int .i64 0, .int .i64 0, .int .i64 0] 27)
  have R0 := Lib.hid (H0.out.below BA.out)
  generalize hW : w.alloc (.cells #[.slice none 0 0, .slice none 0 0, .int .i64 0, .int .i64 0, .int .i64 0, .int .i64 0, .int .i64 0, .int .i64 0, .int .i64 0] 27) = W0 at BA RA R0
  go_enter Tryz.func71, Tryz.ntmps71
  go_upto_region 2 with (first
    | (refine store_as rfl 27 _ _ rfl [.slice none 0 0, .slice none 0 0, .int .i64 0, .int .i64 0, .int .i64 0, .int .i64 0, .int .i64 0, .int .i64 0, .int .i64 0] [.slice none 0 0, .slice none 0 0, .int .i64 0, .int .i64 0, .int .i64 0, .int .i64 0, .int .i64 0, .int .i64 0, .int .i64 0] rfl rfl rfl size27 (by simp [Value.oneCell']) ?_; intro w1 hx hb; have L1 := Lib.hid hx; have B1 := Lib.hid hb; clear hx hb)
    | (fail))
  obtain ⟨lb, hlb⟩ : ∃ lb, lb = W0.heap.size := ⟨_, rfl⟩
  have HLB := Lib.hid hlb
  rw [← hlb] at L1 ⊢
  clear hlb
  have LR := Lib.hid (show rb < lb by rw [HLB.out]; exact Nat.lt_of_lt_of_le HR.out BA.out.size)
  have LW := Lib.hid (show w.heap.size < lb by rw [HLB.out]; exact RA.out.lt)
  have R1 := Lib.hid (R0.out.below B1.out)
  have A1 := Lib.hid (RA.out.below B1.out)
  have K1 := Lib.hid (Kp.below (BA.out.trans (B1.out.mono BA.out.size)) rb)
  have BB1 := Lib.hid ((BA.out.trans (B1.out.mono BA.out.size)).mono (Nat.le_of_lt HR.out))
  clear BA RA R0 B1 hW
  go_wp2_with (first
    | (go_at_call 131; (with_reducible refine (HT1.out _ R1.out).mono ?_); rintro e w2 ⟨rfl, hr, hb, hk⟩; have R2 := Lib.hid hr; have L2 := Lib.hid (L1.out.kp (Nat.ne_of_gt LR.out) hk); have A2 := Lib.hid (A1.out.kp (Nat.ne_of_gt HR.out) hk); have K2 := Lib.hid (K1.out.trans hk); have BB2 := Lib.hid (BB1.out.trans hb); clear hr hb hk)
    | fail)
  clear R1 L1 A1 K1 BB1 HT1
  go_loop [9] (fun s => s = .int .i64 0) (fun _ => 0)
  case atStart => rfl
  case round =>
    subst hrel
    go_wp2_with (first
      | (go_at_call 131; (with_reducible refine (HT2.out _ R2.out).mono ?_); rintro e w3 ⟨rfl, hr, hb, hk⟩; have R3 := Lib.hid hr; have L3 := Lib.hid (L2.out.kp (Nat.ne_of_gt LR.out) hk); have A3 := Lib.hid (A2.out.kp (Nat.ne_of_gt HR.out) hk); have K3 := Lib.hid (K2.out.trans hk); have BB3 := Lib.hid (BB2.out.trans hb); clear hr hb hk)
      | fail)
    clear R2 L2 A2 K2 BB2 HT2
    go_loop [29] (fun s => s = .int .i64 0) (fun _ => 0)
    case atStart => rfl
    case round =>
      subst hrel
      have PB := Lib.hid (blk_new w3 [.pointer (some ⟨lb, 2, none⟩), .pointer (some ⟨lb, 3, none⟩), .pointer (some ⟨lb, 4, none⟩), .pointer (some ⟨lb, 5, none⟩), .pointer (some ⟨lb, 6, none⟩), .pointer (some ⟨lb, 7, none⟩), .pointer (some ⟨lb, 8, none⟩)] 112)
      have BP := Lib.hid ((Below.refl w3.heap.size w3).alloc (Nat.le_refl _) (.cells #[.pointer (some ⟨lb, 2, none⟩), .pointer (some ⟨lb, 3, none⟩), .pointer (some ⟨lb, 4, none⟩), .pointer (some ⟨lb, 5, none⟩), .pointer (some ⟨lb, 6, none⟩), .pointer (some ⟨lb, 7, none⟩), .pointer (some ⟨lb, 8, none⟩)] 112))
      have R4 := Lib.hid (R3.out.below BP.out)
      have L4 := Lib.hid (L3.out.below BP.out)
      have A4 := Lib.hid (A3.out.below BP.out)
      have K4 := Lib.hid (K3.out.trans (Kp.below BP.out rb))
      have BB4 := Lib.hid (BB3.out.trans (BP.out.mono (Nat.le_of_lt R3.out.lt)))
      have PN := Lib.hid (show ¬ w3.heap.size = rb from Nat.ne_of_gt R3.out.lt)
      have PL := Lib.hid (show ¬ w3.heap.size = lb from Nat.ne_of_gt L3.out.lt)
      go_wp2
      clear R3 L3 A3 K3 BB3 BP
      go_loopw [56] (fun s wr => ∃ k : Nat, k ≤ 7 ∧ s = .int .i64 (k : Int) ∧ Hid (Blk wr lb (lvk (takes zs2 f2 k).1) 27) ∧ Hid (Rd wr rb (takes zs2 f2 k).2.1 (takes zs2 f2 k).2.2) ∧ Hid (Blk wr w3.heap.size [.pointer (some ⟨lb, 2, none⟩), .pointer (some ⟨lb, 3, none⟩), .pointer (some ⟨lb, 4, none⟩), .pointer (some ⟨lb, 5, none⟩), .pointer (some ⟨lb, 6, none⟩), .pointer (some ⟨lb, 7, none⟩), .pointer (some ⟨lb, 8, none⟩)] 112) ∧ Hid (Blk wr w.heap.size [.slice none 0 0, .slice none 0 0, .int .i64 0, .int .i64 0, .int .i64 0, .int .i64 0, .int .i64 0, .int .i64 0, .int .i64 0] 27) ∧ Hid (Below rb w wr) ∧ Hid (Kp rb w wr)) (fun s _ => 7 - (intOf s).toNat)
      case atStart => exact ⟨0, Nat.zero_le _, rfl, L4, R4, PB, A4, BB4, K4⟩
      case round =>
        clear L4 R4 PB A4 BB4 K4
        obtain ⟨k, hk, rfl, LK, RK, PK, AK, BK, KK⟩ := hrel
        by_cases hlt : k < 7
        · have hltz : (k : Int) < 7 := by omega
          have hk0 : (0 : Int) ≤ (k : Int) := by omega
          have x0 := PK.out.cell (pts_at lb k hlt)
          have HT := Lib.hid (take_int rb (takes zs2 f2 k).2.1 (takes zs2 f2 k).2.2 wr RK.out (Nat.le_trans (takes_rest _ _ _) hl2))
          rw [gtk_int] at HT
          have HLn := Lib.hid (takes_len zs2 f2 k)
          have HS := Lib.hid (show takes zs2 f2 (k + 1) = ((takes zs2 f2 k).1 ++ [(gtkI (takes zs2 f2 k).2.1 (takes zs2 f2 k).2.2).1], (gtkI (takes zs2 f2 k).2.1 (takes zs2 f2 k).2.2).2) from rfl)
          generalize takes zs2 f2 k = t at LK RK HT HLn HS
          obtain ⟨vs, zk, fk⟩ := t
          dsimp only at LK RK HT HLn HS
          generalize gtkI zk fk = g at HT HS
          obtain ⟨v, zn, fn⟩ := g
          dsimp only at HT HS
          go_wp2_with (first
            | (go_at_call 65; (with_reducible refine HT.out.mono ?_); rintro e w4 ⟨rfl, hr, hb, hk⟩; have R5 := Lib.hid hr; have L5 := Lib.hid (LK.out.kp (Nat.ne_of_gt LR.out) hk); have A5 := Lib.hid (AK.out.kp (Nat.ne_of_gt HR.out) hk); have P5 := Lib.hid (PK.out.kp PN.out hk); have K5 := Lib.hid (KK.out.trans hk); have B5 := Lib.hid (BK.out.trans hb); clear hr hb hk x0; have y0 := L5.out.cell (i := 2 + k) (by rw [← HLn.out]; exact lvk_at vs (by rw [HLn.out]; exact hlt)); have z0 := L5.out.free (2 + k))
            | fail)
          go_roundw
          case rel => exact ⟨k + 1, by omega, by go_num, Lib.hid (by rw [HS.out]; show Blk _ lb (lvk (vs ++ [v])) 27; rw [← lvk_set vs v (by rw [HLn.out]; exact hlt), HLn.out]; exact L5.out.set (2 + k) (.int .i64 v)), Lib.hid (by rw [HS.out]; exact R5.out.set_blk L5.out (Nat.ne_of_lt LR.out) (lvk_no8 vs) (2 + k) _), Lib.hid (P5.out.other ⟨lb, 2 + k, none⟩ _ PL.out), Lib.hid (A5.out.other ⟨lb, 2 + k, none⟩ _ (Nat.ne_of_lt LW.out)), Lib.hid (B5.out.setCell (p := ⟨lb, 2 + k, none⟩) (Nat.le_of_lt LR.out) _), Lib.hid (K5.out.new_set (Nat.le_of_lt LW.out) _ _)⟩
          case measure => simp [intOf]; omega
        · have hltz : ¬ (k : Int) < 7 := by omega
          have hke : k = 7 := by omega
          subst hke
          have HLn := Lib.hid (takes_len zs2 f2 7)
          generalize ht : takes zs2 f2 7 = t at LK RK HLn
          obtain ⟨vs, zk, fk⟩ := t
          dsimp only at LK RK HLn
          have HT7 := Lib.hid ht
          clear ht
          have HN9 := Lib.hid (lvk_len vs HLn.out)
          have HSZ : Hid ((lvk vs).toArray.size = 9) := Lib.hid (by rw [List.size_toArray]; exact HN9.out)
          have HTH : Hid (World.there wr w.heap.size 0 (lvk vs).toArray.size) := Lib.hid (by rw [HSZ.out]; exact AK.out.there (Nat.le_refl 9))
          have HI9 : Hid ((Tryz.prog.info? 27).map (·.size) = some (lvk vs).toArray.size) := Lib.hid (by rw [HSZ.out]; exact size27)
          go_wp2_with (first
            | (refine wpList_load_mid rfl 27 _ rfl lb 0 rfl (lvk vs) _ LK.out.range Tryz.underlying27 rfl (by rw [HN9.out]; exact size27) ?_)
            | (refine store_mid_as rfl 27 _ _ rfl w.heap.size 0 (lvk vs).toArray rfl rfl HTH.out HI9.out (lvk_one vs) ?_; intro wz ez; have EZ := Lib.hid ez; clear ez)
            | fail)
          (try simp only [Exit.inBlock, Exit.then])
          refine bodyPost_ret (results_cell_mid rfl _ _ w.heap.size (lvk vs) 27 _ rfl (by rw [EZ.out]; exact AK.out.setAll _ HN9.out) Tryz.underlying27 rfl (by rw [HN9.out]; exact size27)) rfl ?_
          rw [EZ.out, HT7.out]
          exact ⟨rfl, RK.out.set_all AK.out (Nat.ne_of_lt HR.out) (lvk_no8 []) _ _, below_setAll (Nat.le_of_lt HR.out) _ _ _ BK.out, KK.out.new_all (Nat.le_refl _) _ _⟩
end Go.Proofs.YtdacjnlfjaegiaaGreatDoor
