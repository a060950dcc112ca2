/- The writer of encodings. No condition. -/
import Derived.Test.YtablocpcgknmaaaGreatDoorRPh
import Derived.Test.YtablocpcgknmaaaGreatDoorRV8
namespace Go.Proofs.YtablocpcgknmaaaGreatDoor
open Go.Lib (hid)
open Go Go.RowKit
set_option linter.unusedVariables false
set_option linter.unusedSimpArgs false
set_option maxRecDepth 100000

theorem row_ne {w : World} {B : Nat} {e : TypeId} {s n : Nat} {v : Value} {xs : List Value} (h : w.ownsRow B e s v n xs) {g : Nat} {cs : List Value} {T : TypeId} (hb : Blk w g cs T) (hne : e ≠ T) : ∀ q, v.ownBlock = some q → q ≠ g := by
 intro q hq he
 subst he
 rcases h.2 with ⟨rfl, _⟩ | ⟨g', cap, cur, rfl, _, hg, _⟩
 ·cases hq
 obtain rfl : g' = q := by simpa [Value.ownBlock] using hq
 rw [hb.heap] at hg
 injection hg with hg
 injection hg with _ h2 _
 exact hne h2.symm
/-- What no byte lies in stands, but for one block. -/
def KT (wb : Nat) (w w' : World) : Prop := ∀ g cs T, (5 : TypeId) ≠ T → g ≠ wb → Blk w g cs T → Blk w' g cs T
theorem KT.refl (wb : Nat) (w : World) : KT wb w w := fun _ _ _ _ _ h => h
theorem KT.trans {wb : Nat} {w w1 w2 : World} (h : KT wb w w1) (h2 : KT wb w1 w2) : KT wb w w2 := fun g cs T hT hg hb => h2 g cs T hT hg (h g cs T hT hg hb)
theorem KT.below {wb : Nat} {w w1 : World} (h : Below w.heap.size w w1) : KT wb w w1 := fun _ _ _ _ _ hb => hb.below h
/-- The writer and its bytes. -/
structure WS (w : World) (wb : Nat) (u v : Value) (zs : List Int) (y : World) : Prop where
 blk : Blk y wb [u] 78
 own : Cd.Own y (wb + 1) v zs
 bel : Below wb w y
 kt : KT wb w y
section
variable {w : World} {wb : Nat} {u v : Value} {zs : List Int} {y : World}
theorem WS.call (h : WS w wb u v zs y) {y' : World} (hb : Below y.heap.size y y') : WS w wb u v zs y' :=
 ⟨h.blk.below hb, Cd.own_below h.own hb, h.bel.trans (hb.mono (Nat.le_of_lt h.blk.lt)), h.kt.trans (KT.below hb)⟩
theorem WS.app (h : WS w wb u v zs y) {y' : World} {v' : Value} {n' : Nat} {xs' : List Value} (hg : Grew y y' (wb + 1) 5 1 v v' n' xs') {zs2 : List Int} (ho : Cd.Own y' (wb + 1) v' zs2) : WS w wb u v' zs2 y' :=
 have lo : ∀ q, v.ownBlock = some q → wb + 1 ≤ q := fun q hq => (h.own.lt q hq).1
 ⟨⟨(hg.grow.block wb h.blk.lt (fun e => by have := lo _ e.symm; omega)).trans h.blk.heap⟩, ho, h.bel.trans ((Below.refl wb y).grown hg.grow (Nat.le_of_lt h.blk.lt) (fun q hq => by have := lo q hq; omega)),
  h.kt.trans fun g cs T hT hgn hb => ⟨(hg.grow.block g hb.lt (fun e => row_ne h.own hb hT g e.symm rfl)).trans hb.heap⟩⟩
theorem WS.store (h : WS w wb u v zs y) : WS w wb v v zs (y.setCell ⟨wb, 0, none⟩ v) :=
 have hk : ∀ k, k ≠ wb → (y.setCell ⟨wb, 0, none⟩ v).heap[k]? = y.heap[k]? := fun k hk => heap_setCell_other y ⟨wb, 0, none⟩ k v hk
 ⟨h.blk.set 0 v, by
  refine ⟨h.own.1, h.own.2.imp id ?_⟩
  rintro ⟨g', cap, cur, hv, hbg, hg, r⟩
  exact ⟨g', cap, cur, hv, hbg, (hk g' (by omega)).trans hg, r⟩, h.bel.setCell (p := ⟨wb, 0, none⟩) (Nat.le_refl _) v, h.kt.trans fun g cs T hT hgn hb => ⟨(hk g hgn).trans hb.heap⟩⟩
theorem WS.drew (h : WS w wb u v zs y) : WS w wb u v zs y.drew := h.call ((Below.refl _ y).drew)
end
theorem step_bytes {w : World} {wb : Nat} {u v : Value} {zs : List Int} {y : World}
  {ops : Array Oper} {o : Oper} {a : Act} {K : Act → World → Prop} {Q : Exit → Act → World → Prop} {E : Prop} (hgd : o.guard = none) (s x : Operand)
  (ho : o.op = .call { callee := .builtin .append, args := #[s, x], argTypes := #[56, 56] }) (hs : a.eval s = v) (A2 : Option Addr) (c2 : Nat) (z : List Int) (hx : a.eval x = .slice A2 z.length c2)
  (h : WS w wb u v zs y) (hS : Cd.Sl y A2 z.length c2 z) (hl : zs.length + z.length ≤ 2000000) (zs2 : List Int) (hz : zs2 = zs ++ z)
  (hK : ∀ A c y', WS w wb u (.slice A zs2.length c) zs2 y' → K (a.put o.dst (.slice A zs2.length c)) y') : if Region.wanted o (yielded ops a.tmps) = true then Oper.wp Tryz.prog o a y K Q else E := by
 obtain ⟨i0, hi0, hz0, hz1, hz2⟩ := info_parts Cd.info5
 refine step_append_any y hgd s x 56 ho (wb + 1) 5 i0 _ 1 1 Tryz.underlying56 hi0 hz0 hz1 hz2 rfl (by decide) v _ _ hs h.own A2 z.length c2 (z.map (Value.int .u8)) hx ?_ (by unfold maxLen; omega) (by omega) (by have := h.blk.lt; omega) ?_
 ·refine ⟨by simp, fun e => ?_, ?_, Cd.one8 _⟩
  ·have h1 := hS.nl e
   have h2 := hS.le
   exact ⟨by omega, h1⟩
  ·rcases Nat.eq_zero_or_pos z.length with h0 | h0
   ·exact .inl h0
   ·obtain ⟨b, off, e, hlt, hc⟩ := hS.cell h0
    refine .inr ⟨b, off, e, hlt, fun j t ht => ?_⟩
    rw [List.getElem?_map] at ht
    have hj : j < z.length := by
     rcases Nat.lt_or_ge j z.length with h | h
     ·exact h
     ·rw [List.getElem?_eq_none h] at ht; cases ht
    rw [hc j hj, ← ht, List.getD_eq_getElem?_getD, List.getElem?_eq_getElem hj]
    rfl
 ·intro v' y' hg
  have ho2 : Cd.Own y' (wb + 1) v' zs2 := by
   have := hg.own
   subst hz
   show y'.ownsRow (wb + 1) 5 1 v' (zs ++ z).length ((zs ++ z).map (Value.int .u8))
   rw [List.map_append, List.length_append]
   exact this
  obtain ⟨A, c, rfl⟩ := Cd.own_shape ho2
  exact hK A c y' (h.app hg ho2)
def Wr (wb : Nat) (A : Option Addr) (c : Nat) (zs : List Int) (w : World) : Prop := Blk w wb [.slice A zs.length c] 78 ∧ Cd.Own w (wb + 1) (.slice A zs.length c) zs
def WrP (wb : Nat) (zs : List Int) (w : World) (e : Ending) (w' : World) : Prop := e = .returned (.tuple #[]) ∧ (∃ A c, Wr wb A c zs w') ∧ Below wb w w' ∧ KT wb w w'
theorem is_ins {w : World} {A : Option Addr} {n c : Nat} {l : List Int} (h : Ins w A n c l) : Cd.Is w A n c l := by
 refine ⟨h.len, fun z hz => (Cd.C.in64_iff z).2 (h.fit z hz), h.cap, fun e => (h.rws.nil e).2, fun h0 => ?_⟩
 obtain ⟨b, off, e, hb, hc⟩ := h.rws.at_.resolve_left (by omega)
 refine ⟨b, off, e, hb, fun i hi => ?_⟩
 have := hc i hi 0 _ rfl
 rwa [Nat.mul_one, Nat.add_zero] at this
/-- The bytes of a list of numbers. -/
def encJ (l : List Int) : List Int := eI l.length ++ Cd.encs l
theorem encJ_bd {l : List Int} (h : ∀ z ∈ l, i64B z) (hl : l.length ≤ 100) : (∀ z ∈ encJ l, 0 ≤ z ∧ z ≤ 255) ∧ (encJ l).length ≤ 1111 := by
 have h1 := Cd.encs_len l (fun z hz => (Cd.C.in64_iff z).2 (h z hz))
 have h2 := eI_bd (len64 (show l.length ≤ 1000000 by omega))
 refine ⟨fun z hz => (List.mem_append.1 hz).elim (h2.1 z) (h1.2 z), ?_⟩
 unfold encJ
 rw [List.length_append]
 omega
theorem pJ (A : Option Addr) (c : Nat) (l : List Int) (w : World) (h : Ins w A l.length c l) (hl : l.length ≤ 100) : Calls Tryz.prog 128 #[.slice none 0 0, .slice A l.length c] w (SlP w (encJ l)) := by
 refine (Cd.putInts_any none 0 0 [] A l.length c l (by decide) (by omega) w (Cd.Sl.empty w none 0 (fun _ => rfl)) (is_ins h)).mono ?_
 rintro e w' ⟨B, d, rfl, ho, hb⟩
 rw [show ([] ++ Cd.C.enc (Cd.C.zig (l.length : Int)) ++ Cd.encs l : List Int) = encJ l from rfl] at ho
 exact ⟨B, d, rfl, own_sl ho (encJ_bd h.fit hl).1 rfl, ho, hb⟩
theorem pX (s : ByteArray) (hs : s.size ≤ 640000) (w : World) : Calls Tryz.prog 114 #[.slice none 0 0, .string s] w (SlP w (Cd.ent s)) := by
 refine (Cd.putText_any none 0 0 [] s (show Cd.Small s by unfold Cd.Small; omega) (by omega) w (Cd.Sl.empty w none 0 (fun _ => rfl))).mono ?_
 rintro e w' ⟨A, c, rfl, ho, hb⟩
 exact ⟨A, c, rfl, own_sl ho (Cd.ent_bd (show Cd.Small s by unfold Cd.Small; omega)).1 rfl, ho, hb⟩
set_option maxHeartbeats 8000000 in
theorem wnum (wb : Nat) (A : Option Addr) (c : Nat) (zs : List Int) (n : Int) (w : World) (h : Wr wb A c zs w) (hl : zs.length ≤ 650000) (hn : i64B n) : Calls Tryz.prog 62 #[.pointer (some ⟨wb, 0, none⟩), .int .i64 n] w (WrP wb (zs ++ eI n) w) := by
 obtain ⟨z, hz⟩ : ∃ z, eI n = z := ⟨_, rfl⟩
 have HW := hid (show WS w wb (.slice A zs.length c) (.slice A zs.length c) zs w from ⟨h.1, h.2, Below.refl _ _, KT.refl _ _⟩)
 have HG := hid (fun y (hbl : Below wb w y) => pI n hn y)
 rw [hz] at HG
 unfold SlP at HG
 have HLN := hid (show zs.length + z.length ≤ 2000000 by rw [← hz]; have := (eI_bd hn).2; omega)
 rw [hz]
 obtain ⟨zs2, hz2⟩ : ∃ zs2, zs2 = zs ++ z := ⟨_, rfl⟩
 have HZ2 := hid hz2
 rw [← hz2]
 clear h hz hz2 hl hn
 unfold WrP
 go_enter Tryz.func62, Tryz.ntmps62
 refine wp_region_held_drew (S := (fun y => Below wb w y)) (by kernel_rfl) ((Below.refl wb w).drew) (fun hH0 => ?_)
 have D0 := hid HW.out.drew
 generalize World.drew w = y0 at hH0 D0 ⊢
 refine mvA 0 (v := ?hv1) rfl ?hy1 ?hr1
 case hy1 => (intro w hSw; (try dsimp only at hSw); go_simp; (try with_reducible rfl))
 try simp only [Act.put, lsA, ls0, ls1]
 refine mvA 1 (v := ?hv2) rfl ?hy2 ?hr2
 case hy2 => (intro w hSw; (try dsimp only at hSw); go_simp; (try with_reducible rfl))
 try simp only [Act.put, lsA, ls0, ls1]
 refine mvA 2 (v := ?hv3) rfl ?hy3 ?hr3
 case hy3 => (intro w hSw; (try dsimp only at hSw); go_simp; (try with_reducible rfl))
 try simp only [Act.put, lsA, ls0, ls1]
 refine mvA 3 (v := ?hv4) rfl ?hy4 ?hr4
 case hy4 => (intro w hSw; (try dsimp only at hSw); go_simp; (try with_reducible rfl))
 try simp only [Act.put, lsA, ls0, ls1]
 refine mvA 5 (v := ?hv5) rfl ?hy5 ?hr5
 case hy5 => (intro w hSw; (try dsimp only at hSw); go_simp; (try with_reducible rfl))
 try simp only [Act.put, lsA, ls0, ls1]
 refine wpAnyH_ready (rs := [4, 6]) (by kernel_rfl) (by simp) ?_
 refine AllReadyH.cons (o := ({ dst := some 8, op := Op.load 56 (Operand.tmp 7), type := 56, pos := "bytes.go:13", after := #[{ on := 3, ground := Ground.data }], guard := none } : Oper)) rfl (fun KK hKK => ?_) ?_
 ·have x0 := D0.out.blk.cell (i := 0) rfl
  go_simp
  clear x0
  have D1 := D0
  refine hKK.out _ _ (D1.out.bel) (fun hH1 => ?_)
  clear hKK KK
  try simp only [Act.put, lsA, ls0, ls1]
  refine mvR 6 rfl (fun KK hKK => ?_)
  go_simp
  (with_reducible refine (HG.out y0 D1.out.bel).mono ?_)
  rintro e0 y2 ⟨A2, c2, rfl, hs, ho, hb⟩
  have S2 := hid hs
  have D2 := hid (D1.out.call hb)
  clear hs ho hb
  refine hKK.out _ _ (D2.out.bel) (fun hH2 => ?_)
  clear hKK KK
  try simp only [Act.put, lsA, ls0, ls1]
  refine mvR 7 rfl (fun KK hKK => ?_)
  refine step_bytes rfl (.tmp 8) (.tmp 10) rfl rfl A2 c2 z rfl D2.out S2.out HLN.out zs2 HZ2.out ?_
  intro A3 c3 y3 hws
  have D3 := hid hws
  clear hws
  refine hKK.out _ _ (D3.out.bel) (fun hH3 => ?_)
  clear hKK KK
  try simp only [Act.put, lsA, ls0, ls1]
  refine mvA 8 (v := ?hv6) rfl ?hy6 ?hr6
  case hy6 => (intro w hSw; (try dsimp only at hSw); go_simp; (try with_reducible rfl))
  try simp only [Act.put, lsA, ls0, ls1]
  refine mvA 9 (v := ?hv7) rfl ?hy7 ?hr7
  case hy7 => (intro w hSw; (try dsimp only at hSw); go_simp; (try with_reducible rfl))
  try simp only [Act.put, lsA, ls0, ls1]
  refine mvR 10 rfl (fun KK hKK => ?_)
  have x0 := D3.out.blk.cell (i := 0) rfl
  have f0 := D3.out.blk.free 0
  go_simp
  have D4 := hid D3.out.store
  clear x0 f0
  generalize World.setCell y3 ⟨wb, 0, none⟩ _ = y4 at D4 ⊢
  refine hKK.out _ _ (D4.out.bel) (fun hH4 => ?_)
  clear hKK KK
  try simp only [Act.put, lsA, ls0, ls1]
  refine wpAnyH_done (by kernel_rfl) ?_ _
  (try go_wp2)
  go_end0
  exact ⟨rfl, ⟨A3, c3, D4.out.blk, D4.out.own⟩, D4.out.bel, D4.out.kt⟩
 refine AllReadyH.cons (o := ({ dst := some 10, op := Op.call { callee := Callee.value (Operand.func 115), args := #[Operand.const (Value.slice none 0 0), Operand.tmp 9], argTypes := #[56, 3] }, type := 56, pos := "bytes.go:13", after := #[{ on := 5, ground := Ground.data }], guard := none } : Oper)) rfl (fun KK hKK => ?_) AllReadyH.nil
 go_simp
 (with_reducible refine (HG.out y0 D0.out.bel).mono ?_)
 rintro e0 y1 ⟨A2, c2, rfl, hs, ho, hb⟩
 have S2 := hid hs
 have D1 := hid (D0.out.call hb)
 clear hs ho hb
 refine hKK.out _ _ (D1.out.bel) (fun hH1 => ?_)
 clear hKK KK
 try simp only [Act.put, lsA, ls0, ls1]
 refine mvR 4 rfl (fun KK hKK => ?_)
 have x0 := D1.out.blk.cell (i := 0) rfl
 go_simp
 clear x0
 have D2 := D1
 refine hKK.out _ _ (D2.out.bel) (fun hH2 => ?_)
 clear hKK KK
 try simp only [Act.put, lsA, ls0, ls1]
 refine mvR 7 rfl (fun KK hKK => ?_)
 refine step_bytes rfl (.tmp 8) (.tmp 10) rfl rfl A2 c2 z rfl D2.out S2.out HLN.out zs2 HZ2.out ?_
 intro A3 c3 y3 hws
 have D3 := hid hws
 clear hws
 refine hKK.out _ _ (D3.out.bel) (fun hH3 => ?_)
 clear hKK KK
 try simp only [Act.put, lsA, ls0, ls1]
 refine mvA 8 (v := ?hv8) rfl ?hy8 ?hr8
 case hy8 => (intro w hSw; (try dsimp only at hSw); go_simp; (try with_reducible rfl))
 try simp only [Act.put, lsA, ls0, ls1]
 refine mvA 9 (v := ?hv9) rfl ?hy9 ?hr9
 case hy9 => (intro w hSw; (try dsimp only at hSw); go_simp; (try with_reducible rfl))
 try simp only [Act.put, lsA, ls0, ls1]
 refine mvR 10 rfl (fun KK hKK => ?_)
 have x0 := D3.out.blk.cell (i := 0) rfl
 have f0 := D3.out.blk.free 0
 go_simp
 have D4 := hid D3.out.store
 clear x0 f0
 generalize World.setCell y3 ⟨wb, 0, none⟩ _ = y4 at D4 ⊢
 refine hKK.out _ _ (D4.out.bel) (fun hH4 => ?_)
 clear hKK KK
 try simp only [Act.put, lsA, ls0, ls1]
 refine wpAnyH_done (by kernel_rfl) ?_ _
 (try go_wp2)
 go_end0
 exact ⟨rfl, ⟨A3, c3, D4.out.blk, D4.out.own⟩, D4.out.bel, D4.out.kt⟩
set_option maxHeartbeats 8000000 in
theorem wtext (wb : Nat) (A : Option Addr) (c : Nat) (zs : List Int) (s : ByteArray) (w : World) (h : Wr wb A c zs w) (hl : zs.length ≤ 650000) (hs : s.size ≤ 640000) : Calls Tryz.prog 64 #[.pointer (some ⟨wb, 0, none⟩), .string s] w (WrP wb (zs ++ Cd.ent s) w) := by
 obtain ⟨z, hz⟩ : ∃ z, Cd.ent s = z := ⟨_, rfl⟩
 have HW := hid (show WS w wb (.slice A zs.length c) (.slice A zs.length c) zs w from ⟨h.1, h.2, Below.refl _ _, KT.refl _ _⟩)
 have HG := hid (fun y (hbl : Below wb w y) => pX s hs y)
 rw [hz] at HG
 unfold SlP at HG
 have HLN := hid (show zs.length + z.length ≤ 2000000 by rw [← hz]; have h1 := (Cd.ent_bd (show Cd.Small s by unfold Cd.Small; omega)).2; have h2 := (eI_bd (len64 (show s.size ≤ 1000000 by omega))).2; unfold eI at h2; omega)
 rw [hz]
 obtain ⟨zs2, hz2⟩ : ∃ zs2, zs2 = zs ++ z := ⟨_, rfl⟩
 have HZ2 := hid hz2
 rw [← hz2]
 clear h hz hz2 hl hs
 unfold WrP
 go_enter Tryz.func64, Tryz.ntmps64
 refine wp_region_held_drew (S := (fun y => Below wb w y)) (by kernel_rfl) ((Below.refl wb w).drew) (fun hH0 => ?_)
 have D0 := hid HW.out.drew
 generalize World.drew w = y0 at hH0 D0 ⊢
 refine mvA 0 (v := ?hv10) rfl ?hy10 ?hr10
 case hy10 => (intro w hSw; (try dsimp only at hSw); go_simp; (try with_reducible rfl))
 try simp only [Act.put, lsA, ls0, ls1]
 refine mvA 1 (v := ?hv11) rfl ?hy11 ?hr11
 case hy11 => (intro w hSw; (try dsimp only at hSw); go_simp; (try with_reducible rfl))
 try simp only [Act.put, lsA, ls0, ls1]
 refine mvA 2 (v := ?hv12) rfl ?hy12 ?hr12
 case hy12 => (intro w hSw; (try dsimp only at hSw); go_simp; (try with_reducible rfl))
 try simp only [Act.put, lsA, ls0, ls1]
 refine mvA 3 (v := ?hv13) rfl ?hy13 ?hr13
 case hy13 => (intro w hSw; (try dsimp only at hSw); go_simp; (try with_reducible rfl))
 try simp only [Act.put, lsA, ls0, ls1]
 refine mvA 5 (v := ?hv14) rfl ?hy14 ?hr14
 case hy14 => (intro w hSw; (try dsimp only at hSw); go_simp; (try with_reducible rfl))
 try simp only [Act.put, lsA, ls0, ls1]
 refine wpAnyH_ready (rs := [4, 6]) (by kernel_rfl) (by simp) ?_
 refine AllReadyH.cons (o := ({ dst := some 8, op := Op.load 56 (Operand.tmp 7), type := 56, pos := "bytes.go:14", after := #[{ on := 3, ground := Ground.data }], guard := none } : Oper)) rfl (fun KK hKK => ?_) ?_
 ·have x0 := D0.out.blk.cell (i := 0) rfl
  go_simp
  clear x0
  have D1 := D0
  refine hKK.out _ _ (D1.out.bel) (fun hH1 => ?_)
  clear hKK KK
  try simp only [Act.put, lsA, ls0, ls1]
  refine mvR 6 rfl (fun KK hKK => ?_)
  go_simp
  (with_reducible refine (HG.out y0 D1.out.bel).mono ?_)
  rintro e0 y2 ⟨A2, c2, rfl, hs, ho, hb⟩
  have S2 := hid hs
  have D2 := hid (D1.out.call hb)
  clear hs ho hb
  refine hKK.out _ _ (D2.out.bel) (fun hH2 => ?_)
  clear hKK KK
  try simp only [Act.put, lsA, ls0, ls1]
  refine mvR 7 rfl (fun KK hKK => ?_)
  refine step_bytes rfl (.tmp 8) (.tmp 10) rfl rfl A2 c2 z rfl D2.out S2.out HLN.out zs2 HZ2.out ?_
  intro A3 c3 y3 hws
  have D3 := hid hws
  clear hws
  refine hKK.out _ _ (D3.out.bel) (fun hH3 => ?_)
  clear hKK KK
  try simp only [Act.put, lsA, ls0, ls1]
  refine mvA 8 (v := ?hv15) rfl ?hy15 ?hr15
  case hy15 => (intro w hSw; (try dsimp only at hSw); go_simp; (try with_reducible rfl))
  try simp only [Act.put, lsA, ls0, ls1]
  refine mvA 9 (v := ?hv16) rfl ?hy16 ?hr16
  case hy16 => (intro w hSw; (try dsimp only at hSw); go_simp; (try with_reducible rfl))
  try simp only [Act.put, lsA, ls0, ls1]
  refine mvR 10 rfl (fun KK hKK => ?_)
  have x0 := D3.out.blk.cell (i := 0) rfl
  have f0 := D3.out.blk.free 0
  go_simp
  have D4 := hid D3.out.store
  clear x0 f0
  generalize World.setCell y3 ⟨wb, 0, none⟩ _ = y4 at D4 ⊢
  refine hKK.out _ _ (D4.out.bel) (fun hH4 => ?_)
  clear hKK KK
  try simp only [Act.put, lsA, ls0, ls1]
  refine wpAnyH_done (by kernel_rfl) ?_ _
  (try go_wp2)
  go_end0
  exact ⟨rfl, ⟨A3, c3, D4.out.blk, D4.out.own⟩, D4.out.bel, D4.out.kt⟩
 refine AllReadyH.cons (o := ({ dst := some 10, op := Op.call { callee := Callee.value (Operand.func 114), args := #[Operand.const (Value.slice none 0 0), Operand.tmp 9], argTypes := #[56, 9] }, type := 56, pos := "bytes.go:14", after := #[{ on := 5, ground := Ground.data }], guard := none } : Oper)) rfl (fun KK hKK => ?_) AllReadyH.nil
 go_simp
 (with_reducible refine (HG.out y0 D0.out.bel).mono ?_)
 rintro e0 y1 ⟨A2, c2, rfl, hs, ho, hb⟩
 have S2 := hid hs
 have D1 := hid (D0.out.call hb)
 clear hs ho hb
 refine hKK.out _ _ (D1.out.bel) (fun hH1 => ?_)
 clear hKK KK
 try simp only [Act.put, lsA, ls0, ls1]
 refine mvR 4 rfl (fun KK hKK => ?_)
 have x0 := D1.out.blk.cell (i := 0) rfl
 go_simp
 clear x0
 have D2 := D1
 refine hKK.out _ _ (D2.out.bel) (fun hH2 => ?_)
 clear hKK KK
 try simp only [Act.put, lsA, ls0, ls1]
 refine mvR 7 rfl (fun KK hKK => ?_)
 refine step_bytes rfl (.tmp 8) (.tmp 10) rfl rfl A2 c2 z rfl D2.out S2.out HLN.out zs2 HZ2.out ?_
 intro A3 c3 y3 hws
 have D3 := hid hws
 clear hws
 refine hKK.out _ _ (D3.out.bel) (fun hH3 => ?_)
 clear hKK KK
 try simp only [Act.put, lsA, ls0, ls1]
 refine mvA 8 (v := ?hv17) rfl ?hy17 ?hr17
 case hy17 => (intro w hSw; (try dsimp only at hSw); go_simp; (try with_reducible rfl))
 try simp only [Act.put, lsA, ls0, ls1]
 refine mvA 9 (v := ?hv18) rfl ?hy18 ?hr18
 case hy18 => (intro w hSw; (try dsimp only at hSw); go_simp; (try with_reducible rfl))
 try simp only [Act.put, lsA, ls0, ls1]
 refine mvR 10 rfl (fun KK hKK => ?_)
 have x0 := D3.out.blk.cell (i := 0) rfl
 have f0 := D3.out.blk.free 0
 go_simp
 have D4 := hid D3.out.store
 clear x0 f0
 generalize World.setCell y3 ⟨wb, 0, none⟩ _ = y4 at D4 ⊢
 refine hKK.out _ _ (D4.out.bel) (fun hH4 => ?_)
 clear hKK KK
 try simp only [Act.put, lsA, ls0, ls1]
 refine wpAnyH_done (by kernel_rfl) ?_ _
 (try go_wp2)
 go_end0
 exact ⟨rfl, ⟨A3, c3, D4.out.blk, D4.out.own⟩, D4.out.bel, D4.out.kt⟩
set_option maxHeartbeats 8000000 in
theorem wflag (wb : Nat) (A : Option Addr) (c : Nat) (zs : List Int) (b : Bool) (w : World) (h : Wr wb A c zs w) (hl : zs.length ≤ 650000)  : Calls Tryz.prog 66 #[.pointer (some ⟨wb, 0, none⟩), .bool b] w (WrP wb (zs ++ [if b then (1 : Int) else 0]) w) := by
 obtain ⟨z, hz⟩ : ∃ z, [if b then (1 : Int) else 0] = z := ⟨_, rfl⟩
 have HW := hid (show WS w wb (.slice A zs.length c) (.slice A zs.length c) zs w from ⟨h.1, h.2, Below.refl _ _, KT.refl _ _⟩)
 have HG := hid (fun y (hbl : Below wb w y) => pB b y)
 rw [hz] at HG
 unfold SlP at HG
 have HLN := hid (show zs.length + z.length ≤ 2000000 by rw [← hz]; rw [List.length_singleton]; omega)
 rw [hz]
 obtain ⟨zs2, hz2⟩ : ∃ zs2, zs2 = zs ++ z := ⟨_, rfl⟩
 have HZ2 := hid hz2
 rw [← hz2]
 clear h hz hz2 hl 
 unfold WrP
 go_enter Tryz.func66, Tryz.ntmps66
 refine wp_region_held_drew (S := (fun y => Below wb w y)) (by kernel_rfl) ((Below.refl wb w).drew) (fun hH0 => ?_)
 have D0 := hid HW.out.drew
 generalize World.drew w = y0 at hH0 D0 ⊢
 refine mvA 0 (v := ?hv19) rfl ?hy19 ?hr19
 case hy19 => (intro w hSw; (try dsimp only at hSw); go_simp; (try with_reducible rfl))
 try simp only [Act.put, lsA, ls0, ls1]
 refine mvA 1 (v := ?hv20) rfl ?hy20 ?hr20
 case hy20 => (intro w hSw; (try dsimp only at hSw); go_simp; (try with_reducible rfl))
 try simp only [Act.put, lsA, ls0, ls1]
 refine mvA 2 (v := ?hv21) rfl ?hy21 ?hr21
 case hy21 => (intro w hSw; (try dsimp only at hSw); go_simp; (try with_reducible rfl))
 try simp only [Act.put, lsA, ls0, ls1]
 refine mvA 3 (v := ?hv22) rfl ?hy22 ?hr22
 case hy22 => (intro w hSw; (try dsimp only at hSw); go_simp; (try with_reducible rfl))
 try simp only [Act.put, lsA, ls0, ls1]
 refine mvA 5 (v := ?hv23) rfl ?hy23 ?hr23
 case hy23 => (intro w hSw; (try dsimp only at hSw); go_simp; (try with_reducible rfl))
 try simp only [Act.put, lsA, ls0, ls1]
 refine wpAnyH_ready (rs := [4, 6]) (by kernel_rfl) (by simp) ?_
 refine AllReadyH.cons (o := ({ dst := some 8, op := Op.load 56 (Operand.tmp 7), type := 56, pos := "bytes.go:15", after := #[{ on := 3, ground := Ground.data }], guard := none } : Oper)) rfl (fun KK hKK => ?_) ?_
 ·have x0 := D0.out.blk.cell (i := 0) rfl
  go_simp
  clear x0
  have D1 := D0
  refine hKK.out _ _ (D1.out.bel) (fun hH1 => ?_)
  clear hKK KK
  try simp only [Act.put, lsA, ls0, ls1]
  refine mvR 6 rfl (fun KK hKK => ?_)
  go_simp
  (with_reducible refine (HG.out y0 D1.out.bel).mono ?_)
  rintro e0 y2 ⟨A2, c2, rfl, hs, ho, hb⟩
  have S2 := hid hs
  have D2 := hid (D1.out.call hb)
  clear hs ho hb
  refine hKK.out _ _ (D2.out.bel) (fun hH2 => ?_)
  clear hKK KK
  try simp only [Act.put, lsA, ls0, ls1]
  refine mvR 7 rfl (fun KK hKK => ?_)
  refine step_bytes rfl (.tmp 8) (.tmp 10) rfl rfl A2 c2 z rfl D2.out S2.out HLN.out zs2 HZ2.out ?_
  intro A3 c3 y3 hws
  have D3 := hid hws
  clear hws
  refine hKK.out _ _ (D3.out.bel) (fun hH3 => ?_)
  clear hKK KK
  try simp only [Act.put, lsA, ls0, ls1]
  refine mvA 8 (v := ?hv24) rfl ?hy24 ?hr24
  case hy24 => (intro w hSw; (try dsimp only at hSw); go_simp; (try with_reducible rfl))
  try simp only [Act.put, lsA, ls0, ls1]
  refine mvA 9 (v := ?hv25) rfl ?hy25 ?hr25
  case hy25 => (intro w hSw; (try dsimp only at hSw); go_simp; (try with_reducible rfl))
  try simp only [Act.put, lsA, ls0, ls1]
  refine mvR 10 rfl (fun KK hKK => ?_)
  have x0 := D3.out.blk.cell (i := 0) rfl
  have f0 := D3.out.blk.free 0
  go_simp
  have D4 := hid D3.out.store
  clear x0 f0
  generalize World.setCell y3 ⟨wb, 0, none⟩ _ = y4 at D4 ⊢
  refine hKK.out _ _ (D4.out.bel) (fun hH4 => ?_)
  clear hKK KK
  try simp only [Act.put, lsA, ls0, ls1]
  refine wpAnyH_done (by kernel_rfl) ?_ _
  (try go_wp2)
  go_end0
  exact ⟨rfl, ⟨A3, c3, D4.out.blk, D4.out.own⟩, D4.out.bel, D4.out.kt⟩
 refine AllReadyH.cons (o := ({ dst := some 10, op := Op.call { callee := Callee.value (Operand.func 116), args := #[Operand.const (Value.slice none 0 0), Operand.tmp 9], argTypes := #[56, 4] }, type := 56, pos := "bytes.go:15", after := #[{ on := 5, ground := Ground.data }], guard := none } : Oper)) rfl (fun KK hKK => ?_) AllReadyH.nil
 go_simp
 (with_reducible refine (HG.out y0 D0.out.bel).mono ?_)
 rintro e0 y1 ⟨A2, c2, rfl, hs, ho, hb⟩
 have S2 := hid hs
 have D1 := hid (D0.out.call hb)
 clear hs ho hb
 refine hKK.out _ _ (D1.out.bel) (fun hH1 => ?_)
 clear hKK KK
 try simp only [Act.put, lsA, ls0, ls1]
 refine mvR 4 rfl (fun KK hKK => ?_)
 have x0 := D1.out.blk.cell (i := 0) rfl
 go_simp
 clear x0
 have D2 := D1
 refine hKK.out _ _ (D2.out.bel) (fun hH2 => ?_)
 clear hKK KK
 try simp only [Act.put, lsA, ls0, ls1]
 refine mvR 7 rfl (fun KK hKK => ?_)
 refine step_bytes rfl (.tmp 8) (.tmp 10) rfl rfl A2 c2 z rfl D2.out S2.out HLN.out zs2 HZ2.out ?_
 intro A3 c3 y3 hws
 have D3 := hid hws
 clear hws
 refine hKK.out _ _ (D3.out.bel) (fun hH3 => ?_)
 clear hKK KK
 try simp only [Act.put, lsA, ls0, ls1]
 refine mvA 8 (v := ?hv26) rfl ?hy26 ?hr26
 case hy26 => (intro w hSw; (try dsimp only at hSw); go_simp; (try with_reducible rfl))
 try simp only [Act.put, lsA, ls0, ls1]
 refine mvA 9 (v := ?hv27) rfl ?hy27 ?hr27
 case hy27 => (intro w hSw; (try dsimp only at hSw); go_simp; (try with_reducible rfl))
 try simp only [Act.put, lsA, ls0, ls1]
 refine mvR 10 rfl (fun KK hKK => ?_)
 have x0 := D3.out.blk.cell (i := 0) rfl
 have f0 := D3.out.blk.free 0
 go_simp
 have D4 := hid D3.out.store
 clear x0 f0
 generalize World.setCell y3 ⟨wb, 0, none⟩ _ = y4 at D4 ⊢
 refine hKK.out _ _ (D4.out.bel) (fun hH4 => ?_)
 clear hKK KK
 try simp only [Act.put, lsA, ls0, ls1]
 refine wpAnyH_done (by kernel_rfl) ?_ _
 (try go_wp2)
 go_end0
 exact ⟨rfl, ⟨A3, c3, D4.out.blk, D4.out.own⟩, D4.out.bel, D4.out.kt⟩
set_option maxHeartbeats 8000000 in
theorem wrefs (wb : Nat) (A : Option Addr) (c : Nat) (zs : List Int) (AL : Option Addr) (cL : Nat) (l : List Int) (w : World) (h : Wr wb A c zs w) (hl : zs.length ≤ 650000) (hi : ∀ y, Below wb w y → Ins y AL l.length cL l) (hn : l.length ≤ 100) : Calls Tryz.prog 68 #[.pointer (some ⟨wb, 0, none⟩), .slice AL l.length cL] w (WrP wb (zs ++ encJ l) w) := by
 obtain ⟨z, hz⟩ : ∃ z, encJ l = z := ⟨_, rfl⟩
 have HW := hid (show WS w wb (.slice A zs.length c) (.slice A zs.length c) zs w from ⟨h.1, h.2, Below.refl _ _, KT.refl _ _⟩)
 have HG := hid (fun y (hbl : Below wb w y) => pJ AL cL l y (hi y hbl) hn)
 rw [hz] at HG
 unfold SlP at HG
 have HLN := hid (show zs.length + z.length ≤ 2000000 by rw [← hz]; have h1 := (encJ_bd (hi w (Below.refl _ _)).fit hn).2; omega)
 rw [hz]
 obtain ⟨zs2, hz2⟩ : ∃ zs2, zs2 = zs ++ z := ⟨_, rfl⟩
 have HZ2 := hid hz2
 rw [← hz2]
 clear h hz hz2 hl hi hn
 unfold WrP
 go_enter Tryz.func68, Tryz.ntmps68
 refine wp_region_held_drew (S := (fun y => Below wb w y)) (by kernel_rfl) ((Below.refl wb w).drew) (fun hH0 => ?_)
 have D0 := hid HW.out.drew
 generalize World.drew w = y0 at hH0 D0 ⊢
 refine mvA 0 (v := ?hv28) rfl ?hy28 ?hr28
 case hy28 => (intro w hSw; (try dsimp only at hSw); go_simp; (try with_reducible rfl))
 try simp only [Act.put, lsA, ls0, ls1]
 refine mvA 1 (v := ?hv29) rfl ?hy29 ?hr29
 case hy29 => (intro w hSw; (try dsimp only at hSw); go_simp; (try with_reducible rfl))
 try simp only [Act.put, lsA, ls0, ls1]
 refine mvA 2 (v := ?hv30) rfl ?hy30 ?hr30
 case hy30 => (intro w hSw; (try dsimp only at hSw); go_simp; (try with_reducible rfl))
 try simp only [Act.put, lsA, ls0, ls1]
 refine mvA 3 (v := ?hv31) rfl ?hy31 ?hr31
 case hy31 => (intro w hSw; (try dsimp only at hSw); go_simp; (try with_reducible rfl))
 try simp only [Act.put, lsA, ls0, ls1]
 refine mvA 5 (v := ?hv32) rfl ?hy32 ?hr32
 case hy32 => (intro w hSw; (try dsimp only at hSw); go_simp; (try with_reducible rfl))
 try simp only [Act.put, lsA, ls0, ls1]
 refine wpAnyH_ready (rs := [4, 6]) (by kernel_rfl) (by simp) ?_
 refine AllReadyH.cons (o := ({ dst := some 8, op := Op.load 56 (Operand.tmp 7), type := 56, pos := "bytes.go:16", after := #[{ on := 3, ground := Ground.data }], guard := none } : Oper)) rfl (fun KK hKK => ?_) ?_
 ·have x0 := D0.out.blk.cell (i := 0) rfl
  go_simp
  clear x0
  have D1 := D0
  refine hKK.out _ _ (D1.out.bel) (fun hH1 => ?_)
  clear hKK KK
  try simp only [Act.put, lsA, ls0, ls1]
  refine mvR 6 rfl (fun KK hKK => ?_)
  go_simp
  (with_reducible refine (HG.out y0 D1.out.bel).mono ?_)
  rintro e0 y2 ⟨A2, c2, rfl, hs, ho, hb⟩
  have S2 := hid hs
  have D2 := hid (D1.out.call hb)
  clear hs ho hb
  refine hKK.out _ _ (D2.out.bel) (fun hH2 => ?_)
  clear hKK KK
  try simp only [Act.put, lsA, ls0, ls1]
  refine mvR 7 rfl (fun KK hKK => ?_)
  refine step_bytes rfl (.tmp 8) (.tmp 10) rfl rfl A2 c2 z rfl D2.out S2.out HLN.out zs2 HZ2.out ?_
  intro A3 c3 y3 hws
  have D3 := hid hws
  clear hws
  refine hKK.out _ _ (D3.out.bel) (fun hH3 => ?_)
  clear hKK KK
  try simp only [Act.put, lsA, ls0, ls1]
  refine mvA 8 (v := ?hv33) rfl ?hy33 ?hr33
  case hy33 => (intro w hSw; (try dsimp only at hSw); go_simp; (try with_reducible rfl))
  try simp only [Act.put, lsA, ls0, ls1]
  refine mvA 9 (v := ?hv34) rfl ?hy34 ?hr34
  case hy34 => (intro w hSw; (try dsimp only at hSw); go_simp; (try with_reducible rfl))
  try simp only [Act.put, lsA, ls0, ls1]
  refine mvR 10 rfl (fun KK hKK => ?_)
  have x0 := D3.out.blk.cell (i := 0) rfl
  have f0 := D3.out.blk.free 0
  go_simp
  have D4 := hid D3.out.store
  clear x0 f0
  generalize World.setCell y3 ⟨wb, 0, none⟩ _ = y4 at D4 ⊢
  refine hKK.out _ _ (D4.out.bel) (fun hH4 => ?_)
  clear hKK KK
  try simp only [Act.put, lsA, ls0, ls1]
  refine wpAnyH_done (by kernel_rfl) ?_ _
  (try go_wp2)
  go_end0
  exact ⟨rfl, ⟨A3, c3, D4.out.blk, D4.out.own⟩, D4.out.bel, D4.out.kt⟩
 refine AllReadyH.cons (o := ({ dst := some 10, op := Op.call { callee := Callee.value (Operand.func 128), args := #[Operand.const (Value.slice none 0 0), Operand.tmp 9], argTypes := #[56, 23] }, type := 56, pos := "bytes.go:16", after := #[{ on := 5, ground := Ground.data }], guard := none } : Oper)) rfl (fun KK hKK => ?_) AllReadyH.nil
 go_simp
 (with_reducible refine (HG.out y0 D0.out.bel).mono ?_)
 rintro e0 y1 ⟨A2, c2, rfl, hs, ho, hb⟩
 have S2 := hid hs
 have D1 := hid (D0.out.call hb)
 clear hs ho hb
 refine hKK.out _ _ (D1.out.bel) (fun hH1 => ?_)
 clear hKK KK
 try simp only [Act.put, lsA, ls0, ls1]
 refine mvR 4 rfl (fun KK hKK => ?_)
 have x0 := D1.out.blk.cell (i := 0) rfl
 go_simp
 clear x0
 have D2 := D1
 refine hKK.out _ _ (D2.out.bel) (fun hH2 => ?_)
 clear hKK KK
 try simp only [Act.put, lsA, ls0, ls1]
 refine mvR 7 rfl (fun KK hKK => ?_)
 refine step_bytes rfl (.tmp 8) (.tmp 10) rfl rfl A2 c2 z rfl D2.out S2.out HLN.out zs2 HZ2.out ?_
 intro A3 c3 y3 hws
 have D3 := hid hws
 clear hws
 refine hKK.out _ _ (D3.out.bel) (fun hH3 => ?_)
 clear hKK KK
 try simp only [Act.put, lsA, ls0, ls1]
 refine mvA 8 (v := ?hv35) rfl ?hy35 ?hr35
 case hy35 => (intro w hSw; (try dsimp only at hSw); go_simp; (try with_reducible rfl))
 try simp only [Act.put, lsA, ls0, ls1]
 refine mvA 9 (v := ?hv36) rfl ?hy36 ?hr36
 case hy36 => (intro w hSw; (try dsimp only at hSw); go_simp; (try with_reducible rfl))
 try simp only [Act.put, lsA, ls0, ls1]
 refine mvR 10 rfl (fun KK hKK => ?_)
 have x0 := D3.out.blk.cell (i := 0) rfl
 have f0 := D3.out.blk.free 0
 go_simp
 have D4 := hid D3.out.store
 clear x0 f0
 generalize World.setCell y3 ⟨wb, 0, none⟩ _ = y4 at D4 ⊢
 refine hKK.out _ _ (D4.out.bel) (fun hH4 => ?_)
 clear hKK KK
 try simp only [Act.put, lsA, ls0, ls1]
 refine wpAnyH_done (by kernel_rfl) ?_ _
 (try go_wp2)
 go_end0
 exact ⟨rfl, ⟨A3, c3, D4.out.blk, D4.out.own⟩, D4.out.bel, D4.out.kt⟩
end Go.Proofs.YtablocpcgknmaaaGreatDoor
namespace Go.Proofs.YtablocpcgknmaaaGreatDoor
open Go.Lib (hid)
open Go Go.RowKit
set_option linter.unusedVariables false
set_option linter.unusedSimpArgs false
set_option maxRecDepth 100000

/-- Encodings one behind the other. -/
def encA {α : Type} (one : α → List Int) (l : List α) : List Int := (l.map one).flatten
theorem encA_succ {α : Type} {one : α → List Int} {l : List α} {k : Nat} {x : α} (h : l[k]? = some x) : encA one (l.take (k + 1)) = encA one (l.take k) ++ one x := by
 obtain ⟨hk, e⟩ := List.getElem?_eq_some_iff.1 h
 unfold encA
 rw [List.take_succ_eq_append_getElem hk, List.map_append, List.flatten_append, e]
 simp
theorem encA_le {α : Type} (one : α → List Int) (l : List α) (k : Nat) : (encA one (l.take k)).length ≤ (encA one l).length := by
 conv => rhs; rw [← List.take_append_drop k l]
 unfold encA
 rw [List.map_append, List.flatten_append, List.length_append]
 omega
theorem encA_all {α : Type} (one : α → List Int) {l : List α} {k : Nat} (h : l.length ≤ k) : encA one (l.take k) = encA one l := by rw [List.take_of_length_le h]
set_option maxHeartbeats 4000000 in
theorem putN (wb g : Nat) (A : Option Addr) (c : Nat) (zs : List Int) (vals : List Int) (w : World) (h : Wr wb A c zs w) (hv : Blk w g (vals.map (Value.int .i64)) 3) (hg : wb < g) (hn : vals.length ≤ 2) (hb : ∀ z ∈ vals, i64B z) (hl : zs.length + (encA eI vals).length ≤ 650000) :
  Calls Tryz.prog 61 #[.func (.func 62) #[.pointer (some ⟨wb, 0, none⟩)] #[], .slice (some ⟨g, 0, none⟩) vals.length vals.length] w (WrP wb (zs ++ encA eI vals) w) := by
 obtain ⟨n, hnn⟩ : ∃ n, vals.length = n := ⟨_, rfl⟩
 have HNN := hid hnn
 rw [hnn]
 have hn2 : n ≤ 2 := by omega
 have HW := hid h
 have HV := hid hv
 have HLL := hid hl
 have HB := hid hb
 clear hb
 clear h hv hn hnn hl
 unfold WrP
 go_enter Tryz.func61, Tryz.ntmps61
 go_wp2
 go_loopw [8] (fun i wr => ∃ (k : Nat) (A' : Option Addr) (c' : Nat), k ≤ n ∧ i = .int .i64 k ∧ Hid (Wr wb A' c' (zs ++ encA eI (vals.take k)) wr) ∧ Hid (Below wb w wr) ∧ Hid (KT wb w wr)) (fun i _ => n - (intOf i).toNat)
 case atStart => exact ⟨0, A, c, Nat.zero_le _, rfl, hid (by rw [show encA eI (vals.take 0) = [] from rfl, List.append_nil]; exact HW.out), hid (Below.refl _ _), hid (KT.refl _ _)⟩
 case round =>
  obtain ⟨k, A', c', hk, rfl, HR, BW, KW⟩ := hrel
  by_cases hlt : k < n
  ·have hltz : (k : Int) < (n : Int) := by omega
   have hk0 : (0 : Int) ≤ (k : Int) := by omega
   obtain ⟨x, hx⟩ : ∃ x, vals[k]? = some x := ⟨_, List.getElem?_eq_getElem (by rw [HNN.out]; exact hlt)⟩
   have V1 := KW.out g _ _ (by decide) (by omega) HV.out
   have yk := V1.cell (i := k) (v := (Value.int .i64) x) (by rw [List.getElem?_map, hx]; rfl)
   have HM := hid (wnum wb A' c' (zs ++ encA eI (vals.take k)) x wr HR.out (by have h1 := encA_le eI vals k; have h2 := HLL.out; rw [List.length_append]; omega) (HB.out x (List.mem_of_getElem? hx)))
   have HX := hid (encA_succ (one := eI) hx)
   clear V1 hx
   unfold WrP at HM
   go_wp2_with (first
    | (go_at_call 62; (with_reducible refine HM.out.mono ?_); rintro e w2 ⟨rfl, ⟨A2, c2, hw⟩, hb, hk2⟩; have R2 := hid hw; have B2 := hid (BW.out.trans hb); have K2 := hid (KW.out.trans hk2); clear hw hb hk2)
    | fail)
   go_roundw
   case rel => exact ⟨k + 1, A2, c2, by omega, by go_num, hid (by rw [HX.out, ← List.append_assoc]; exact R2.out), B2, K2⟩
   case measure => simp [intOf]; omega
  ·have hltz : ¬ (k : Int) < (n : Int) := by omega
   have HE := hid (encA_all eI (show vals.length ≤ k by rw [HNN.out]; omega))
   go_wp2
   go_end0
   refine ⟨rfl, ⟨A', c', ?_⟩, BW.out, KW.out⟩
   have := HR.out
   rw [HE.out] at this
   exact this
set_option maxHeartbeats 4000000 in
theorem putT (wb g : Nat) (A : Option Addr) (c : Nat) (zs : List Int) (vals : List ByteArray) (w : World) (h : Wr wb A c zs w) (hv : Blk w g (vals.map Value.string) 9) (hg : wb < g) (hn : vals.length ≤ 2) (hb : ∀ z ∈ vals, z.size ≤ 640000) (hl : zs.length + (encA Cd.ent vals).length ≤ 650000) :
  Calls Tryz.prog 63 #[.func (.func 64) #[.pointer (some ⟨wb, 0, none⟩)] #[], .slice (some ⟨g, 0, none⟩) vals.length vals.length] w (WrP wb (zs ++ encA Cd.ent vals) w) := by
 obtain ⟨n, hnn⟩ : ∃ n, vals.length = n := ⟨_, rfl⟩
 have HNN := hid hnn
 rw [hnn]
 have hn2 : n ≤ 2 := by omega
 have HW := hid h
 have HV := hid hv
 have HLL := hid hl
 have HB := hid hb
 clear hb
 clear h hv hn hnn hl
 unfold WrP
 go_enter Tryz.func63, Tryz.ntmps63
 go_wp2
 go_loopw [8] (fun i wr => ∃ (k : Nat) (A' : Option Addr) (c' : Nat), k ≤ n ∧ i = .int .i64 k ∧ Hid (Wr wb A' c' (zs ++ encA Cd.ent (vals.take k)) wr) ∧ Hid (Below wb w wr) ∧ Hid (KT wb w wr)) (fun i _ => n - (intOf i).toNat)
 case atStart => exact ⟨0, A, c, Nat.zero_le _, rfl, hid (by rw [show encA Cd.ent (vals.take 0) = [] from rfl, List.append_nil]; exact HW.out), hid (Below.refl _ _), hid (KT.refl _ _)⟩
 case round =>
  obtain ⟨k, A', c', hk, rfl, HR, BW, KW⟩ := hrel
  by_cases hlt : k < n
  ·have hltz : (k : Int) < (n : Int) := by omega
   have hk0 : (0 : Int) ≤ (k : Int) := by omega
   obtain ⟨x, hx⟩ : ∃ x, vals[k]? = some x := ⟨_, List.getElem?_eq_getElem (by rw [HNN.out]; exact hlt)⟩
   have V1 := KW.out g _ _ (by decide) (by omega) HV.out
   have yk := V1.cell (i := k) (v := Value.string x) (by rw [List.getElem?_map, hx]; rfl)
   have HM := hid (wtext wb A' c' (zs ++ encA Cd.ent (vals.take k)) x wr HR.out (by have h1 := encA_le Cd.ent vals k; have h2 := HLL.out; rw [List.length_append]; omega) (HB.out x (List.mem_of_getElem? hx)))
   have HX := hid (encA_succ (one := Cd.ent) hx)
   clear V1 hx
   unfold WrP at HM
   go_wp2_with (first
    | (go_at_call 64; (with_reducible refine HM.out.mono ?_); rintro e w2 ⟨rfl, ⟨A2, c2, hw⟩, hb, hk2⟩; have R2 := hid hw; have B2 := hid (BW.out.trans hb); have K2 := hid (KW.out.trans hk2); clear hw hb hk2)
    | fail)
   go_roundw
   case rel => exact ⟨k + 1, A2, c2, by omega, by go_num, hid (by rw [HX.out, ← List.append_assoc]; exact R2.out), B2, K2⟩
   case measure => simp [intOf]; omega
  ·have hltz : ¬ (k : Int) < (n : Int) := by omega
   have HE := hid (encA_all Cd.ent (show vals.length ≤ k by rw [HNN.out]; omega))
   go_wp2
   go_end0
   refine ⟨rfl, ⟨A', c', ?_⟩, BW.out, KW.out⟩
   have := HR.out
   rw [HE.out] at this
   exact this
set_option maxHeartbeats 4000000 in
theorem putB (wb g : Nat) (A : Option Addr) (c : Nat) (zs : List Int) (vals : List Bool) (w : World) (h : Wr wb A c zs w) (hv : Blk w g (vals.map Value.bool) 4) (hg : wb < g) (hn : vals.length ≤ 2)  (hl : zs.length + (encA (fun b : Bool => [if b then (1 : Int) else 0]) vals).length ≤ 650000) :
  Calls Tryz.prog 65 #[.func (.func 66) #[.pointer (some ⟨wb, 0, none⟩)] #[], .slice (some ⟨g, 0, none⟩) vals.length vals.length] w (WrP wb (zs ++ encA (fun b : Bool => [if b then (1 : Int) else 0]) vals) w) := by
 obtain ⟨n, hnn⟩ : ∃ n, vals.length = n := ⟨_, rfl⟩
 have HNN := hid hnn
 rw [hnn]
 have hn2 : n ≤ 2 := by omega
 have HW := hid h
 have HV := hid hv
 have HLL := hid hl
 have HB := 0
 clear HB
 clear h hv hn hnn hl
 unfold WrP
 go_enter Tryz.func65, Tryz.ntmps65
 go_wp2
 go_loopw [8] (fun i wr => ∃ (k : Nat) (A' : Option Addr) (c' : Nat), k ≤ n ∧ i = .int .i64 k ∧ Hid (Wr wb A' c' (zs ++ encA (fun b : Bool => [if b then (1 : Int) else 0]) (vals.take k)) wr) ∧ Hid (Below wb w wr) ∧ Hid (KT wb w wr)) (fun i _ => n - (intOf i).toNat)
 case atStart => exact ⟨0, A, c, Nat.zero_le _, rfl, hid (by rw [show encA (fun b : Bool => [if b then (1 : Int) else 0]) (vals.take 0) = [] from rfl, List.append_nil]; exact HW.out), hid (Below.refl _ _), hid (KT.refl _ _)⟩
 case round =>
  obtain ⟨k, A', c', hk, rfl, HR, BW, KW⟩ := hrel
  by_cases hlt : k < n
  ·have hltz : (k : Int) < (n : Int) := by omega
   have hk0 : (0 : Int) ≤ (k : Int) := by omega
   obtain ⟨x, hx⟩ : ∃ x, vals[k]? = some x := ⟨_, List.getElem?_eq_getElem (by rw [HNN.out]; exact hlt)⟩
   have V1 := KW.out g _ _ (by decide) (by omega) HV.out
   have yk := V1.cell (i := k) (v := Value.bool x) (by rw [List.getElem?_map, hx]; rfl)
   have HM := hid (wflag wb A' c' (zs ++ encA (fun b : Bool => [if b then (1 : Int) else 0]) (vals.take k)) x wr HR.out (by have h1 := encA_le (fun b : Bool => [if b then (1 : Int) else 0]) vals k; have h2 := HLL.out; rw [List.length_append]; omega) )
   have HX := hid (encA_succ (one := (fun b : Bool => [if b then (1 : Int) else 0])) hx)
   clear V1 hx
   unfold WrP at HM
   go_wp2_with (first
    | (go_at_call 66; (with_reducible refine HM.out.mono ?_); rintro e w2 ⟨rfl, ⟨A2, c2, hw⟩, hb, hk2⟩; have R2 := hid hw; have B2 := hid (BW.out.trans hb); have K2 := hid (KW.out.trans hk2); clear hw hb hk2)
    | fail)
   go_roundw
   case rel => exact ⟨k + 1, A2, c2, by omega, by go_num, hid (by rw [HX.out, ← List.append_assoc]; exact R2.out), B2, K2⟩
   case measure => simp [intOf]; omega
  ·have hltz : ¬ (k : Int) < (n : Int) := by omega
   have HE := hid (encA_all (fun b : Bool => [if b then (1 : Int) else 0]) (show vals.length ≤ k by rw [HNN.out]; omega))
   go_wp2
   go_end0
   refine ⟨rfl, ⟨A', c', ?_⟩, BW.out, KW.out⟩
   have := HR.out
   rw [HE.out] at this
   exact this
set_option maxHeartbeats 4000000 in
theorem putJ (wb g : Nat) (A : Option Addr) (c : Nat) (zs : List Int) (vals : List (Option Addr × Nat × List Int)) (w : World) (h : Wr wb A c zs w) (hv : Blk w g (vals.map (fun p : Option Addr × Nat × List Int => Value.slice p.1 p.2.2.length p.2.1)) 23) (hg : wb < g) (hn : vals.length ≤ 2) (hb : ∀ p ∈ vals, (∀ y, Below wb w y → Ins y p.1 p.2.2.length p.2.1 p.2.2) ∧ p.2.2.length ≤ 100) (hl : zs.length + (encA (fun p : Option Addr × Nat × List Int => encJ p.2.2) vals).length ≤ 650000) :
  Calls Tryz.prog 67 #[.func (.func 68) #[.pointer (some ⟨wb, 0, none⟩)] #[], .slice (some ⟨g, 0, none⟩) vals.length vals.length] w (WrP wb (zs ++ encA (fun p : Option Addr × Nat × List Int => encJ p.2.2) vals) w) := by
 obtain ⟨n, hnn⟩ : ∃ n, vals.length = n := ⟨_, rfl⟩
 have HNN := hid hnn
 rw [hnn]
 have hn2 : n ≤ 2 := by omega
 have HW := hid h
 have HV := hid hv
 have HLL := hid hl
 have HB := hid hb
 clear hb
 clear h hv hn hnn hl
 unfold WrP
 go_enter Tryz.func67, Tryz.ntmps67
 go_wp2
 go_loopw [8] (fun i wr => ∃ (k : Nat) (A' : Option Addr) (c' : Nat), k ≤ n ∧ i = .int .i64 k ∧ Hid (Wr wb A' c' (zs ++ encA (fun p : Option Addr × Nat × List Int => encJ p.2.2) (vals.take k)) wr) ∧ Hid (Below wb w wr) ∧ Hid (KT wb w wr)) (fun i _ => n - (intOf i).toNat)
 case atStart => exact ⟨0, A, c, Nat.zero_le _, rfl, hid (by rw [show encA (fun p : Option Addr × Nat × List Int => encJ p.2.2) (vals.take 0) = [] from rfl, List.append_nil]; exact HW.out), hid (Below.refl _ _), hid (KT.refl _ _)⟩
 case round =>
  obtain ⟨k, A', c', hk, rfl, HR, BW, KW⟩ := hrel
  by_cases hlt : k < n
  ·have hltz : (k : Int) < (n : Int) := by omega
   have hk0 : (0 : Int) ≤ (k : Int) := by omega
   obtain ⟨x, hx⟩ : ∃ x, vals[k]? = some x := ⟨_, List.getElem?_eq_getElem (by rw [HNN.out]; exact hlt)⟩
   have V1 := KW.out g _ _ (by decide) (by omega) HV.out
   have yk := V1.cell (i := k) (v := (fun p : Option Addr × Nat × List Int => Value.slice p.1 p.2.2.length p.2.1) x) (by rw [List.getElem?_map, hx]; rfl)
   have HM := hid (wrefs wb A' c' (zs ++ encA (fun p : Option Addr × Nat × List Int => encJ p.2.2) (vals.take k)) x.1 x.2.1 x.2.2 wr HR.out (by have h1 := encA_le (fun p : Option Addr × Nat × List Int => encJ p.2.2) vals k; have h2 := HLL.out; rw [List.length_append]; omega) (fun y hb => (HB.out x (List.mem_of_getElem? hx)).1 y (BW.out.trans hb)) (HB.out x (List.mem_of_getElem? hx)).2)
   have HX := hid (encA_succ (one := (fun p : Option Addr × Nat × List Int => encJ p.2.2)) hx)
   clear V1 hx
   unfold WrP at HM
   dsimp only at yk
   go_wp2_with (first
    | (go_at_call 68; (with_reducible refine HM.out.mono ?_); rintro e w2 ⟨rfl, ⟨A2, c2, hw⟩, hb, hk2⟩; have R2 := hid hw; have B2 := hid (BW.out.trans hb); have K2 := hid (KW.out.trans hk2); clear hw hb hk2)
    | fail)
   go_roundw
   case rel => exact ⟨k + 1, A2, c2, by omega, by go_num, hid (by rw [HX.out, ← List.append_assoc]; exact R2.out), B2, K2⟩
   case measure => simp [intOf]; omega
  ·have hltz : ¬ (k : Int) < (n : Int) := by omega
   have HE := hid (encA_all (fun p : Option Addr × Nat × List Int => encJ p.2.2) (show vals.length ≤ k by rw [HNN.out]; omega))
   go_wp2
   go_end0
   refine ⟨rfl, ⟨A', c', ?_⟩, BW.out, KW.out⟩
   have := HR.out
   rw [HE.out] at this
   exact this
end Go.Proofs.YtablocpcgknmaaaGreatDoor
