/- The reader: what it takes. Bounds: at most 800000 bytes. No condition. -/
import Derived.Test.YtablocpcgknmaaaGreatDoorRK19
import Derived.Test.YtablocpcgknmaaaGreatDoorRPe
namespace Go.Proofs.YtablocpcgknmaaaGreatDoor
open Go.Lib (hid)
open Go Go.RowKit
set_option linter.unusedVariables false
set_option linter.unusedSimpArgs false
set_option maxRecDepth 100000

/-- All blocks stand but one. -/
structure Kp (g : Nat) (w w' : World) : Prop where
 size : w.heap.size ≤ w'.heap.size
 block : ∀ k, k < w.heap.size → k ≠ g → w'.heap[k]? = w.heap[k]?
theorem Kp.refl (g : Nat) (w : World) : Kp g w w := ⟨Nat.le_refl _, fun _ _ _ => rfl⟩
theorem Kp.below {w w' : World} (h : Below w.heap.size w w') (g : Nat) : Kp g w w' := ⟨h.size, fun k hk _ => h.block k hk⟩
theorem Kp.trans {g : Nat} {w w1 w2 : World} (h : Kp g w w1) (h2 : Kp g w1 w2) : Kp g w w2 := ⟨Nat.le_trans h.size h2.size, fun k hk hn => (h2.block k (Nat.lt_of_lt_of_le hk h.size) hn).trans (h.block k hk hn)⟩
theorem Kp.set {g : Nat} {w w1 : World} (h : Kp g w w1) (i : Nat) (v : Value) : Kp g w (w1.setCell ⟨g, i, none⟩ v) := ⟨by have := h.size; simpa using this, fun k hk hn => (heap_setCell_other w1 ⟨g, i, none⟩ k v hn).trans (h.block k hk hn)⟩
/-- The reader at rb: what is left, and whether it failed. -/
def Rd (w : World) (rb : Nat) (zs : List Int) (f : Bool) : Prop := ∃ A c, Blk w rb [.slice A zs.length c, .bool f] 89 ∧ Cd.Sl w A zs.length c zs
theorem _root_.Go.Proofs.YtablocpcgknmaaaGreatDoor.Cd.Sl.set_rd {w : World} {A : Option Addr} {n c : Nat} {zs : List Int} (h : Cd.Sl w A n c zs) {rb : Nat} {u1 : Option Addr} {u2 u3 : Nat} {u4 : Bool} (hb : Blk w rb [.slice u1 u2 u3, .bool u4] 89) (i : Nat) (v : Value) : Cd.Sl (w.setCell ⟨rb, i, none⟩ v) A n c zs := by
 refine ⟨h.sz, h.bd, h.le, h.nl, fun h0 => ?_⟩
 obtain ⟨b, off, e, hl, hc⟩ := h.cell h0
 have hne : b ≠ rb := by
  rintro rfl
  have h1 := hc 0 h0
  have h2 : w.cell? ⟨b, off + 0, none⟩ = [Value.slice u1 u2 u3, .bool u4][off + 0]? := by
   simp [World.cell?, hb.heap]
  rw [h2] at h1
  rcases off with _ | _ | off
  ·cases h1
  ·cases h1
  ·rw [List.getElem?_eq_none (by simp)] at h1; cases h1
 exact ⟨b, off, e, by simpa using hl, fun j hj => (World.cell?_of_block (a := ⟨b, off + j, none⟩) (heap_setCell_other w ⟨rb, i, none⟩ b v hne)).trans (hc j hj)⟩
/-- Taking one value. -/
def gtk (g : List Int → Option (Value × List Int)) (z : Value) (zs : List Int) (f : Bool) : Value × List Int × Bool :=
 if f = true then (z, zs, true) else match g zs with
  | some (v, r) => (v, r, false)
  | none => (z, [], true)
def TkP (r : Value × List Int × Bool) (rb : Nat) (w : World) (e : Ending) (w' : World) : Prop := e = .returned r.1 ∧ Rd w' rb r.2.1 r.2.2 ∧ Below rb w w' ∧ Kp rb w w'
set_option maxHeartbeats 4000000 in
theorem take_int (rb : Nat) (zs : List Int) (f : Bool) (w : World) (h : Rd w rb zs f) (hl : zs.length ≤ 800000) : Calls Tryz.prog 69 #[.pointer (some ⟨rb, 0, none⟩), .func (.func 70) #[] #[]] w (TkP (gtk Cd.gi (.int .i64 0) zs f) rb w) := by
 unfold TkP
 obtain ⟨A, c, hb0, hs0⟩ := h
 have X0 := hid hb0
 have S0 := hid hs0
 clear hb0 hs0
 have y1 := X0.out.cell (i := 1) rfl
 have y0 := X0.out.cell (i := 0) rfl
 cases f with
 | true =>
  have HG := hid (show gtk Cd.gi (.int .i64 0) zs true = (.int .i64 0, zs, true) from rfl)
  generalize gtk Cd.gi (.int .i64 0) zs true = r at HG ⊢
  go_enter Tryz.func69, Tryz.ntmps69
  go_wp2
  go_ret
  rw [HG.out]
  exact ⟨rfl, ⟨A, c, X0.out, S0.out⟩, Below.refl _ _, Kp.refl _ _⟩
 | false =>
  cases hg : Cd.gi zs with
  | none =>
   have HG := hid (show gtk Cd.gi (.int .i64 0) zs false = (.int .i64 0, [], true) by unfold gtk; rw [hg]; rfl)
   generalize gtk Cd.gi (.int .i64 0) zs false = r at HG ⊢
   have HN := hid hg
   clear hg
   go_enter Tryz.func69, Tryz.ntmps69
   go_wp2_with (first
    | (go_at_call 70; (with_reducible refine (Cd.getInt_any A zs.length c zs hl _ S0.out).mono ?_); intro e w1 hgot; obtain ⟨rfl, hb⟩ := Cd.got_no hgot HN.out; have B1 := hid hb; have X1 := hid (X0.out.below hb); clear hgot hb y0 y1; have y0 := X1.out.cell (i := 0) rfl; have f0 := X1.out.free 0; have X2 := hid (X1.out.set 0 (.slice none 0 0)); have y1 := X2.out.cell (i := 1) rfl; have f1 := X2.out.free 1)
    | fail)
   go_ret
   rw [HG.out]
   exact ⟨rfl, ⟨none, 0, X2.out.set 1 (.bool true), Cd.Sl.empty _ none 0 (fun _ => rfl)⟩, ((B1.out.mono (Nat.le_of_lt X0.out.lt)).setCell (p := ⟨rb, 0, none⟩) (Nat.le_refl _) _).setCell (p := ⟨rb, 1, none⟩) (Nat.le_refl _) _, ((Kp.below B1.out rb).set 0 _).set 1 _⟩
  | some p =>
   obtain ⟨v, rest⟩ := p
   have HG := hid (show gtk Cd.gi (.int .i64 0) zs false = (v, rest, false) by unfold gtk; rw [hg]; rfl)
   generalize gtk Cd.gi (.int .i64 0) zs false = r at HG ⊢
   have HN := hid hg
   clear hg
   go_enter Tryz.func69, Tryz.ntmps69
   go_wp2_with (first
    | (go_at_call 70; (with_reducible refine (Cd.getInt_any A zs.length c zs hl _ S0.out).mono ?_); intro e w1 hgot; obtain ⟨A1, c1, rfl, hs, hb⟩ := Cd.got_yes hgot HN.out; have B1 := hid hb; have S1 := hid hs; have X1 := hid (X0.out.below hb); clear hgot hb hs y0 y1; have y0 := X1.out.cell (i := 0) rfl; have f0 := X1.out.free 0; have X2 := hid (X1.out.set 0 (.slice A1 rest.length c1)); have y1 := X2.out.cell (i := 1) rfl; have f1 := X2.out.free 1)
    | fail)
   go_ret
   rw [HG.out]
   exact ⟨rfl, ⟨A1, c1, X2.out.set 1 (.bool false), (S1.out.set_rd X1.out 0 _).set_rd X2.out 1 _⟩, ((B1.out.mono (Nat.le_of_lt X0.out.lt)).setCell (p := ⟨rb, 0, none⟩) (Nat.le_refl _) _).setCell (p := ⟨rb, 1, none⟩) (Nat.le_refl _) _, ((Kp.below B1.out rb).set 0 _).set 1 _⟩
set_option maxHeartbeats 4000000 in
theorem take_str (rb : Nat) (zs : List Int) (f : Bool) (w : World) (h : Rd w rb zs f) (hl : zs.length ≤ 800000) : Calls Tryz.prog 71 #[.pointer (some ⟨rb, 0, none⟩), .func (.func 72) #[] #[]] w (TkP (gtk Cd.gt (.string ⟨#[]⟩) zs f) rb w) := by
 unfold TkP
 obtain ⟨A, c, hb0, hs0⟩ := h
 have X0 := hid hb0
 have S0 := hid hs0
 clear hb0 hs0
 have y1 := X0.out.cell (i := 1) rfl
 have y0 := X0.out.cell (i := 0) rfl
 cases f with
 | true =>
  have HG := hid (show gtk Cd.gt (.string ⟨#[]⟩) zs true = (.string ⟨#[]⟩, zs, true) from rfl)
  generalize gtk Cd.gt (.string ⟨#[]⟩) zs true = r at HG ⊢
  go_enter Tryz.func71, Tryz.ntmps71
  go_wp2
  go_ret
  rw [HG.out]
  exact ⟨rfl, ⟨A, c, X0.out, S0.out⟩, Below.refl _ _, Kp.refl _ _⟩
 | false =>
  cases hg : Cd.gt zs with
  | none =>
   have HG := hid (show gtk Cd.gt (.string ⟨#[]⟩) zs false = (.string ⟨#[]⟩, [], true) by unfold gtk; rw [hg]; rfl)
   generalize gtk Cd.gt (.string ⟨#[]⟩) zs false = r at HG ⊢
   have HN := hid hg
   clear hg
   go_enter Tryz.func71, Tryz.ntmps71
   go_wp2_with (first
    | (go_at_call 72; (with_reducible refine (Cd.getText_any A zs.length c zs hl _ S0.out).mono ?_); intro e w1 hgot; obtain ⟨rfl, hb⟩ := Cd.got_no hgot HN.out; have B1 := hid hb; have X1 := hid (X0.out.below hb); clear hgot hb y0 y1; have y0 := X1.out.cell (i := 0) rfl; have f0 := X1.out.free 0; have X2 := hid (X1.out.set 0 (.slice none 0 0)); have y1 := X2.out.cell (i := 1) rfl; have f1 := X2.out.free 1)
    | fail)
   go_ret
   rw [HG.out]
   exact ⟨rfl, ⟨none, 0, X2.out.set 1 (.bool true), Cd.Sl.empty _ none 0 (fun _ => rfl)⟩, ((B1.out.mono (Nat.le_of_lt X0.out.lt)).setCell (p := ⟨rb, 0, none⟩) (Nat.le_refl _) _).setCell (p := ⟨rb, 1, none⟩) (Nat.le_refl _) _, ((Kp.below B1.out rb).set 0 _).set 1 _⟩
  | some p =>
   obtain ⟨v, rest⟩ := p
   have HG := hid (show gtk Cd.gt (.string ⟨#[]⟩) zs false = (v, rest, false) by unfold gtk; rw [hg]; rfl)
   generalize gtk Cd.gt (.string ⟨#[]⟩) zs false = r at HG ⊢
   have HN := hid hg
   clear hg
   go_enter Tryz.func71, Tryz.ntmps71
   go_wp2_with (first
    | (go_at_call 72; (with_reducible refine (Cd.getText_any A zs.length c zs hl _ S0.out).mono ?_); intro e w1 hgot; obtain ⟨A1, c1, rfl, hs, hb⟩ := Cd.got_yes hgot HN.out; have B1 := hid hb; have S1 := hid hs; have X1 := hid (X0.out.below hb); clear hgot hb hs y0 y1; have y0 := X1.out.cell (i := 0) rfl; have f0 := X1.out.free 0; have X2 := hid (X1.out.set 0 (.slice A1 rest.length c1)); have y1 := X2.out.cell (i := 1) rfl; have f1 := X2.out.free 1)
    | fail)
   go_ret
   rw [HG.out]
   exact ⟨rfl, ⟨A1, c1, X2.out.set 1 (.bool false), (S1.out.set_rd X1.out 0 _).set_rd X2.out 1 _⟩, ((B1.out.mono (Nat.le_of_lt X0.out.lt)).setCell (p := ⟨rb, 0, none⟩) (Nat.le_refl _) _).setCell (p := ⟨rb, 1, none⟩) (Nat.le_refl _) _, ((Kp.below B1.out rb).set 0 _).set 1 _⟩
set_option maxHeartbeats 4000000 in
theorem take_bool (rb : Nat) (zs : List Int) (f : Bool) (w : World) (h : Rd w rb zs f) (hl : zs.length ≤ 800000) : Calls Tryz.prog 73 #[.pointer (some ⟨rb, 0, none⟩), .func (.func 74) #[] #[]] w (TkP (gtk Cd.gb (.bool false) zs f) rb w) := by
 unfold TkP
 obtain ⟨A, c, hb0, hs0⟩ := h
 have X0 := hid hb0
 have S0 := hid hs0
 clear hb0 hs0
 have y1 := X0.out.cell (i := 1) rfl
 have y0 := X0.out.cell (i := 0) rfl
 cases f with
 | true =>
  have HG := hid (show gtk Cd.gb (.bool false) zs true = (.bool false, zs, true) from rfl)
  generalize gtk Cd.gb (.bool false) zs true = r at HG ⊢
  go_enter Tryz.func73, Tryz.ntmps73
  go_wp2
  go_ret
  rw [HG.out]
  exact ⟨rfl, ⟨A, c, X0.out, S0.out⟩, Below.refl _ _, Kp.refl _ _⟩
 | false =>
  cases hg : Cd.gb zs with
  | none =>
   have HG := hid (show gtk Cd.gb (.bool false) zs false = (.bool false, [], true) by unfold gtk; rw [hg]; rfl)
   generalize gtk Cd.gb (.bool false) zs false = r at HG ⊢
   have HN := hid hg
   clear hg
   go_enter Tryz.func73, Tryz.ntmps73
   go_wp2_with (first
    | (go_at_call 74; (with_reducible refine (Cd.getBool_any A zs.length c zs hl _ S0.out).mono ?_); intro e w1 hgot; obtain ⟨rfl, hb⟩ := Cd.got_no hgot HN.out; have B1 := hid hb; have X1 := hid (X0.out.below hb); clear hgot hb y0 y1; have y0 := X1.out.cell (i := 0) rfl; have f0 := X1.out.free 0; have X2 := hid (X1.out.set 0 (.slice none 0 0)); have y1 := X2.out.cell (i := 1) rfl; have f1 := X2.out.free 1)
    | fail)
   go_ret
   rw [HG.out]
   exact ⟨rfl, ⟨none, 0, X2.out.set 1 (.bool true), Cd.Sl.empty _ none 0 (fun _ => rfl)⟩, ((B1.out.mono (Nat.le_of_lt X0.out.lt)).setCell (p := ⟨rb, 0, none⟩) (Nat.le_refl _) _).setCell (p := ⟨rb, 1, none⟩) (Nat.le_refl _) _, ((Kp.below B1.out rb).set 0 _).set 1 _⟩
  | some p =>
   obtain ⟨v, rest⟩ := p
   have HG := hid (show gtk Cd.gb (.bool false) zs false = (v, rest, false) by unfold gtk; rw [hg]; rfl)
   generalize gtk Cd.gb (.bool false) zs false = r at HG ⊢
   have HN := hid hg
   clear hg
   go_enter Tryz.func73, Tryz.ntmps73
   go_wp2_with (first
    | (go_at_call 74; (with_reducible refine (Cd.getBool_any A zs.length c zs hl _ S0.out).mono ?_); intro e w1 hgot; obtain ⟨A1, c1, rfl, hs, hb⟩ := Cd.got_yes hgot HN.out; have B1 := hid hb; have S1 := hid hs; have X1 := hid (X0.out.below hb); clear hgot hb hs y0 y1; have y0 := X1.out.cell (i := 0) rfl; have f0 := X1.out.free 0; have X2 := hid (X1.out.set 0 (.slice A1 rest.length c1)); have y1 := X2.out.cell (i := 1) rfl; have f1 := X2.out.free 1)
    | fail)
   go_ret
   rw [HG.out]
   exact ⟨rfl, ⟨A1, c1, X2.out.set 1 (.bool false), (S1.out.set_rd X1.out 0 _).set_rd X2.out 1 _⟩, ((B1.out.mono (Nat.le_of_lt X0.out.lt)).setCell (p := ⟨rb, 0, none⟩) (Nat.le_refl _) _).setCell (p := ⟨rb, 1, none⟩) (Nat.le_refl _) _, ((Kp.below B1.out rb).set 0 _).set 1 _⟩
end Go.Proofs.YtablocpcgknmaaaGreatDoor
namespace Go.Proofs.YtablocpcgknmaaaGreatDoor
open Go.Lib (hid)
open Go Go.RowKit
set_option linter.unusedVariables false
set_option linter.unusedSimpArgs false
set_option maxRecDepth 100000

theorem rd_other {w : World} {rb : Nat} {u1 : Option Addr} {u2 u3 : Nat} {u4 : Bool} (hb : Blk w rb [.slice u1 u2 u3, .bool u4] 89) {b off : Nat} {s : ByteArray} (h : w.cell? ⟨b, off, none⟩ = some (.string s)) : b ≠ rb := by
 rintro rfl
 have h2 : w.cell? ⟨b, off, none⟩ = [Value.slice u1 u2 u3, .bool u4][off]? := by
  simp [World.cell?, hb.heap]
 rw [h2] at h
 rcases off with _ | _ | off
 ·cases h
 ·cases h
 ·rw [List.getElem?_eq_none (by simp)] at h; cases h
theorem _root_.Go.Proofs.YtablocpcgknmaaaGreatDoor.Cd.Ts.kp {w w' : World} {A : Option Addr} {n c : Nat} {zs : List ByteArray} (h : Cd.Ts w A n c zs) {rb : Nat} {u1 : Option Addr} {u2 u3 : Nat} {u4 : Bool} (hb : Blk w rb [.slice u1 u2 u3, .bool u4] 89) (hk : Kp rb w w') : Cd.Ts w' A n c zs := by
 refine ⟨h.sz, h.bd, h.le, h.nl, fun h0 => ?_⟩
 obtain ⟨b, off, e, hl, hc⟩ := h.cell h0
 have hne : b ≠ rb := rd_other hb (hc 0 h0)
 exact ⟨b, off, e, Nat.lt_of_lt_of_le hl hk.size, fun j hj => (World.cell?_of_block (a := ⟨b, off + j, none⟩) (hk.block b hl hne)).trans (hc j hj)⟩
def gtkL (zs : List Int) (f : Bool) : List ByteArray × List Int × Bool :=
 if f = true then ([], zs, true) else match Cd.gts zs with
  | some (v, r) => (v, r, false)
  | none => ([], [], true)
def TkL (r : List ByteArray × List Int × Bool) (rb : Nat) (w : World) (e : Ending) (w' : World) : Prop := ∃ A c, e = .returned (.slice A r.1.length c) ∧ Cd.Ts w' A r.1.length c r.1 ∧ Rd w' rb r.2.1 r.2.2 ∧ Below rb w w' ∧ Kp rb w w'
theorem ts_nil (w : World) : Cd.Ts w none 0 0 [] := ⟨rfl, by simp, Nat.le_refl _, fun _ => rfl, by omega⟩
set_option maxHeartbeats 4000000 in
theorem ended72 (rb : Nat) (zs : List Int) (f : Bool) (q : Bool) (hq : (!f && decide (zs.length = 0)) = q) (w : World) (h : Rd w rb zs f) : Calls Tryz.prog 78 #[.pointer (some ⟨rb, 0, none⟩)] w fun e w' => e = .returned (.bool q) ∧ w = w' := by
 obtain ⟨A, c, hb0, hs0⟩ := h
 have y1 := hb0.cell (i := 1) rfl
 have y0 := hb0.cell (i := 0) rfl
 clear hb0 hs0
 cases f with
 | true =>
  have HQ := hid hq
  clear hq
  go_enter Tryz.func78, Tryz.ntmps78
  go_wp2
  go_ret
  exact ⟨ret_b HQ.out.symm, rfl⟩
 | false =>
  by_cases h0 : zs.length = 0
  ·have HQ := hid (hq.symm.trans (by rw [decide_eq_true h0]; rfl) : q = true)
   have hz : ((zs.length : Int) == 0) = true := by rw [h0]; rfl
   clear hq
   generalize zs.length = m at *
   go_enter Tryz.func78, Tryz.ntmps78
   go_wp2
   go_ret
   exact ⟨ret_b HQ.out, rfl⟩
  ·have HQ := hid (hq.symm.trans (by rw [decide_eq_false h0]; rfl) : q = false)
   have hz : ((zs.length : Int) == 0) = false := by rw [beq_eq_false_iff_ne]; omega
   clear hq
   generalize zs.length = m at *
   go_enter Tryz.func78, Tryz.ntmps78
   go_wp2
   go_ret
   exact ⟨ret_b HQ.out, rfl⟩
def gtkI (zs : List Int) (f : Bool) : Int × List Int × Bool :=
 if f = true then (0, zs, true) else match Cd.di zs with
  | some (v, r) => (v, r, false)
  | none => (0, [], true)
theorem gtk_int (zs : List Int) (f : Bool) : gtk Cd.gi (.int .i64 0) zs f = (.int .i64 (gtkI zs f).1, (gtkI zs f).2.1, (gtkI zs f).2.2) := by
 unfold gtk gtkI
 cases f with
 | true => rfl
 | false =>
  rw [Cd.gi_di]
  cases Cd.di zs with
  | none => rfl
  | some p => rfl
/-- A count: at most as many as there are bytes left. -/
def cntk (zs : List Int) (f : Bool) : Int × List Int × Bool := if (gtkI zs f).1 < 0 ∨ ((gtkI zs f).2.1.length : Int) < (gtkI zs f).1 then (0, (gtkI zs f).2.1, true) else gtkI zs f
set_option maxHeartbeats 4000000 in
theorem count131 (rb : Nat) (zs : List Int) (f : Bool) (w : World) (h : Rd w rb zs f) (hl : zs.length ≤ 800000) : Calls Tryz.prog 209 #[.pointer (some ⟨rb, 0, none⟩)] w fun e w' => e = .returned (.int .i64 (cntk zs f).1) ∧ Rd w' rb (cntk zs f).2.1 (cntk zs f).2.2 ∧ Below rb w w' ∧ Kp rb w w' := by
 have HT := hid (take_int rb zs f w h hl)
 rw [gtk_int] at HT
 clear h
 have HC := hid (show cntk zs f = if (gtkI zs f).1 < 0 ∨ ((gtkI zs f).2.1.length : Int) < (gtkI zs f).1 then (0, (gtkI zs f).2.1, true) else gtkI zs f from rfl)
 generalize cntk zs f = r at HC ⊢
 generalize gtkI zs f = t at HC HT
 obtain ⟨n, rest, f2⟩ := t
 dsimp only at HC HT
 by_cases h0 : n < 0
 ·have HE := hid (HC.out.trans (if_pos (.inl h0)))
  clear HC
  go_enter Tryz.func209, Tryz.ntmps209
  go_wp2_with (first
   | (go_at_call 69; (with_reducible refine HT.out.mono ?_); rintro e w1 ⟨rfl, ⟨A, c, hx, hs⟩, hb, hk⟩; have X1 := hid hx; have S1 := hid hs; have B1 := hid hb; have K1 := hid hk; clear hx hs hb hk; have y1 := X1.out.cell (i := 1) rfl; have f1 := X1.out.free 1)
   | fail)
  go_ret
  rw [HE.out]
  exact ⟨rfl, ⟨A, c, X1.out.set 1 (.bool true), S1.out.set_rd X1.out 1 _⟩, B1.out.setCell (p := ⟨rb, 1, none⟩) (Nat.le_refl _) _, K1.out.set 1 _⟩
 ·by_cases h1 : (rest.length : Int) < n
  ·have HE := hid (HC.out.trans (if_pos (.inr h1)))
   have z0 : decide (n < 0) = false := decide_eq_false h0
   have z1 : decide ((rest.length : Int) < n) = true := decide_eq_true h1
   have z2 : n > (rest.length : Int) := h1
   clear HC
   go_enter Tryz.func209, Tryz.ntmps209
   go_wp2_with (first
    | (go_at_call 69; (with_reducible refine HT.out.mono ?_); rintro e w1 ⟨rfl, ⟨A, c, hx, hs⟩, hb, hk⟩; have X1 := hid hx; have S1 := hid hs; have B1 := hid hb; have K1 := hid hk; clear hx hs hb hk; have y0 := X1.out.cell (i := 0) rfl; have y1 := X1.out.cell (i := 1) rfl; have f1 := X1.out.free 1)
    | fail)
   go_ret
   rw [HE.out]
   exact ⟨rfl, ⟨A, c, X1.out.set 1 (.bool true), S1.out.set_rd X1.out 1 _⟩, B1.out.setCell (p := ⟨rb, 1, none⟩) (Nat.le_refl _) _, K1.out.set 1 _⟩
  ·have HE := hid (HC.out.trans (if_neg (fun h => h.elim h0 h1)))
   have z0 : decide (n < 0) = false := decide_eq_false h0
   have z1 : decide ((rest.length : Int) < n) = false := decide_eq_false h1
   clear HC
   go_enter Tryz.func209, Tryz.ntmps209
   go_wp2_with (first
    | (go_at_call 69; (with_reducible refine HT.out.mono ?_); rintro e w1 ⟨rfl, ⟨A, c, hx, hs⟩, hb, hk⟩; have X1 := hid hx; have S1 := hid hs; have B1 := hid hb; have K1 := hid hk; clear hx hs hb hk; have y0 := X1.out.cell (i := 0) rfl; have y1 := X1.out.cell (i := 1) rfl)
    | fail)
   go_ret
   rw [HE.out]
   exact ⟨rfl, ⟨A, c, X1.out, S1.out⟩, B1.out, K1.out⟩
end Go.Proofs.YtablocpcgknmaaaGreatDoor
