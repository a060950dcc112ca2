/- The writer of encodings. No condition. -/
import Derived.Test.YtablocpcgknmaaaGreatDoorPV8
namespace Go.Proofs.YtablocpcgknmaaaGreatDoor
open Go Go.RowKit
set_option linter.unusedVariables false
set_option linter.unusedSimpArgs false
set_option maxRecDepth 100000

theorem row_ne {w : World} {B : Nat} {e : TypeId} {s n : Nat} {v : Value} {xs : List Value} (h : w.ownsRow B e s v n xs) {g : Nat} {cs : List Value} {T : TypeId} (hb : Blk w g cs T) (hne : e ≠ T) : ∀ q, v.ownBlock = some q → q ≠ g := by
  intro q hq he
  subst he
  rcases h.2 with ⟨rfl, _⟩ | ⟨g', cap, cur, rfl, _, hg, _⟩
  · cases hq
  obtain rfl : g' = q := by simpa [Value.ownBlock] using hq
  rw [hb.heap] at hg
  injection hg with hg
  injection hg with _ h2 _
  exact hne h2.symm
/-- What no byte lies in stands, but for one block. -/
def KT (wb : Nat) (w w' : World) : Prop := ∀ g cs T, (5 : TypeId) ≠ T → g ≠ wb → Blk w g cs T → Blk w' g cs T
theorem KT.refl (wb : Nat) (w : World) : KT wb w w := fun _ _ _ _ _ h => h
theorem KT.trans {wb : Nat} {w w1 w2 : World} (h : KT wb w w1) (h2 : KT wb w1 w2) : KT wb w w2 := fun g cs T hT hg hb => h2 g cs T hT hg (h g cs T hT hg hb)
theorem KT.below {wb : Nat} {w w1 : World} (h : Below w.heap.size w w1) : KT wb w w1 := fun _ _ _ _ _ hb => hb.below h
/-- The writer and its bytes. -/
structure WS (w : World) (wb : Nat) (u v : Value) (zs : List Int) (y : World) : Prop where
  blk : Blk y wb [u] 78
  own : Cd.Own y (wb + 1) v zs
  bel : Below wb w y
  kt : KT wb w y
section
variable {w : World} {wb : Nat} {u v : Value} {zs : List Int} {y : World}
theorem WS.call (h : WS w wb u v zs y) {y' : World} (hb : Below y.heap.size y y') : WS w wb u v zs y' :=
  ⟨h.blk.below hb, Cd.own_below h.own hb, h.bel.trans (hb.mono (Nat.le_of_lt h.blk.lt)), h.kt.trans (KT.below hb)⟩
theorem WS.app (h : WS w wb u v zs y) {y' : World} {v' : Value} {n' : Nat} {xs' : List Value} (hg : Grew y y' (wb + 1) 5 1 v v' n' xs') {zs2 : List Int} (ho : Cd.Own y' (wb + 1) v' zs2) : WS w wb u v' zs2 y' :=
  have lo : ∀ q, v.ownBlock = some q → wb + 1 ≤ q := fun q hq => (h.own.lt q hq).1
  ⟨⟨(hg.grow.block wb h.blk.lt (fun e => by have := lo _ e.symm; omega)).trans h.blk.heap⟩, ho, h.bel.trans ((Below.refl wb y).grown hg.grow (Nat.le_of_lt h.blk.lt) (fun q hq => by have := lo q hq; omega)),
    h.kt.trans fun g cs T hT hgn hb => ⟨(hg.grow.block g hb.lt (fun e => row_ne h.own hb hT g e.symm rfl)).trans hb.heap⟩⟩
theorem WS.store (h : WS w wb u v zs y) : WS w wb v v zs (y.setCell ⟨wb, 0, none⟩ v) :=
  have hk : ∀ k, k ≠ wb → (y.setCell ⟨wb, 0, none⟩ v).heap[k]? = y.heap[k]? := fun k hk => heap_setCell_other y ⟨wb, 0, none⟩ k v hk
  ⟨h.blk.set 0 v, by
    refine ⟨h.own.1, h.own.2.imp id ?_⟩
    rintro ⟨g', cap, cur, hv, hbg, hg, r⟩
    exact ⟨g', cap, cur, hv, hbg, (hk g' (by omega)).trans hg, r⟩, h.bel.setCell (p := ⟨wb, 0, none⟩) (Nat.le_refl _) v, h.kt.trans fun g cs T hT hgn hb => ⟨(hk g hgn).trans hb.heap⟩⟩
theorem WS.drew (h : WS w wb u v zs y) : WS w wb u v zs y.drew := h.call ((Below.refl _ y).drew)
end
theorem step_bytes {w : World} {wb : Nat} {u v : Value} {zs : List Int} {y : World}
    {ops : Array Oper} {o : Oper} {a : Act} {K : Act → World → Prop} {Q : Exit → Act → World → Prop} {E : Prop} (hgd : o.guard = none) (s x : Operand)
    (ho : o.op = .call { callee := .builtin .append, args := #[s, x], argTypes := #[56, 56] }) (hs : a.eval s = v) (A2 : Option Addr) (c2 : Nat) (z : List Int) (hx : a.eval x = .slice A2 z.length c2)
    (h : WS w wb u v zs y) (hS : Cd.Sl y A2 z.length c2 z) (hl : zs.length + z.length ≤ 2000000) (zs2 : List Int) (hz : zs2 = zs ++ z)
    (hK : ∀ A c y', WS w wb u (.slice A zs2.length c) zs2 y' → K (a.put o.dst (.slice A zs2.length c)) y') : if Region.wanted o (yielded ops a.tmps) = true then Oper.wp Tryz.prog o a y K Q else E := by
  obtain ⟨i0, hi0, hz0, hz1, hz2⟩ := info_parts Cd.info5
  refine step_append_any y hgd s x 56 ho (wb + 1) 5 i0 _ 1 1 Tryz.underlying56 hi0 hz0 hz1 hz2 rfl (by decide) v _ _ hs h.own A2 z.length c2 (z.map (Value.int .u8)) hx ?_ (by unfold maxLen; omega) (by omega) (by have := h.blk.lt; omega) ?_
  · refine ⟨by simp, fun e => ?_, ?_, Cd.one8 _⟩
    · have h1 := hS.nl e
      have h2 := hS.le
      exact ⟨by omega, h1⟩
    · rcases Nat.eq_zero_or_pos z.length with h0 | h0
      · exact .inl h0
      · obtain ⟨b, off, e, hlt, hc⟩ := hS.cell h0
        refine .inr ⟨b, off, e, hlt, fun j t ht => ?_⟩
        rw [List.getElem?_map] at ht
        have hj : j < z.length := by
          rcases Nat.lt_or_ge j z.length with h | h
          · exact h
          · rw [List.getElem?_eq_none h] at ht; cases ht
        rw [hc j hj, ← ht, List.getD_eq_getElem?_getD, List.getElem?_eq_getElem hj]
        rfl
  · intro v' y' hg
    have ho2 : Cd.Own y' (wb + 1) v' zs2 := by
      have := hg.own
      subst hz
      show y'.ownsRow (wb + 1) 5 1 v' (zs ++ z).length ((zs ++ z).map (Value.int .u8))
      rw [List.map_append, List.length_append]
      exact this
    obtain ⟨A, c, rfl⟩ := Cd.own_shape ho2
    exact hK A c y' (h.app hg ho2)
def Wr (wb : Nat) (A : Option Addr) (c : Nat) (zs : List Int) (w : World) : Prop := Blk w wb [.slice A zs.length c] 78 ∧ Cd.Own w (wb + 1) (.slice A zs.length c) zs
def WrP (wb : Nat) (zs : List Int) (w : World) (e : Ending) (w' : World) : Prop := e = .returned (.tuple #[]) ∧ (∃ A c, Wr wb A c zs w') ∧ Below wb w w' ∧ KT wb w w'
theorem is_ins {w : World} {A : Option Addr} {n c : Nat} {l : List Int} (h : Ins w A n c l) : Cd.Is w A n c l := by
  refine ⟨h.len, fun z hz => (Cd.C.in64_iff z).2 (h.fit z hz), h.cap, fun e => (h.rws.nil e).2, fun h0 => ?_⟩
  obtain ⟨b, off, e, hb, hc⟩ := h.rws.at_.resolve_left (by omega)
  refine ⟨b, off, e, hb, fun i hi => ?_⟩
  have := hc i hi 0 _ rfl
  rwa [Nat.mul_one, Nat.add_zero] at this
/-- The bytes of a list of numbers. -/
def encJ (l : List Int) : List Int := eI l.length ++ Cd.encs l
theorem encJ_bd {l : List Int} (h : ∀ z ∈ l, i64B z) (hl : l.length ≤ 100) : (∀ z ∈ encJ l, 0 ≤ z ∧ z ≤ 255) ∧ (encJ l).length ≤ 1111 := by
  have h1 := Cd.encs_len l (fun z hz => (Cd.C.in64_iff z).2 (h z hz))
  have h2 := eI_bd (len64 (show l.length ≤ 1000000 by omega))
  refine ⟨fun z hz => (List.mem_append.1 hz).elim (h2.1 z) (h1.2 z), ?_⟩
  unfold encJ
  rw [List.length_append]
  omega
theorem pJ (A : Option Addr) (c : Nat) (l : List Int) (w : World) (h : Ins w A l.length c l) (hl : l.length ≤ 100) : Calls Tryz.prog 128 #[.slice none 0 0, .slice A l.length c] w (SlP w (encJ l)) := by
  refine (Cd.putInts_any none 0 0 [] A l.length c l (by decide) (by omega) w (Cd.Sl.empty w none 0 (fun _ => rfl)) (is_ins h)).mono ?_
  rintro e w' ⟨B, d, rfl, ho, hb⟩
  rw [show ([] ++ Cd.C.enc (Cd.C.zig (l.length : Int)) ++ Cd.encs l : List Int) = encJ l from rfl] at ho
  exact ⟨B, d, rfl, own_sl ho (encJ_bd h.fit hl).1 rfl, ho, hb⟩
theorem pX (s : ByteArray) (hs : s.size ≤ 640000) (w : World) : Calls Tryz.prog 114 #[.slice none 0 0, .string s] w (SlP w (Cd.ent s)) := by
  refine (Cd.putText_any none 0 0 [] s (show Cd.Small s by unfold Cd.Small; omega) (by omega) w (Cd.Sl.empty w none 0 (fun _ => rfl))).mono ?_
  rintro e w' ⟨A, c, rfl, ho, hb⟩
  exact ⟨A, c, rfl, own_sl ho (Cd.ent_bd (show Cd.Small s by unfold Cd.Small; omega)).1 rfl, ho, hb⟩
set_option maxHeartbeats 8000000 in
theorem wnum (wb : Nat) (A : Option Addr) (c : Nat) (zs : List Int) (n : Int) (w : World) (h : Wr wb A c zs w) (hl : zs.length ≤ 650000) (hn : i64B n) : Calls Tryz.prog 62 #[.pointer (some ⟨wb, 0, none⟩), .int .i64 n] w (WrP wb (zs ++ eI n) w) := by
  obtain ⟨z, hz⟩ : ∃ z, eI n = z := ⟨_, rfl⟩
  have HW := Lib.hid (show WS w wb (.slice A zs.length c) (.slice A zs.length c) zs w from ⟨h.1, h.2, Below.refl _ _, KT.refl _ _⟩)
  have HG := Lib.hid (fun y (hbl : Below wb w y) => pI n hn y)
  rw [hz] at HG
  unfold SlP at HG
  have HLN := Lib.hid (show zs.length + z.length ≤ 2000000 by rw [← hz]; have := (eI_bd hn).2; omega)
  rw [hz]
  obtain ⟨zs2, hz2⟩ : ∃ zs2, zs2 = zs ++ z := ⟨_, rfl⟩
  have HZ2 := Lib.hid hz2
  rw [← hz2]
  clear h hz hz2 hl hn
  unfold WrP
  go_enter Tryz.func62, Tryz.ntmps62
  refine wp_region_held_drew (S := (fun y => Below wb w y)) (by kernel_rfl) ((Below.refl wb w).drew) (fun hH0 => ?_)
  have D0 := Lib.hid HW.out.drew
  generalize World.drew w = y0 at hH0 D0 ⊢
  refine wpAnyH_take (i := 0) (oi := ({ dst := some 4, op := Op.move (Operand.tmp 0), type := 76, pos := "bytes.go:13", after := #[], guard := none } : Oper)) (v := ?hv1) rfl (by kernel_rfl) (by kernel_rfl) (by kernel_rfl) (fun _ _ _ h => h) (Or.inl ⟨by rfl, ?hy1⟩) (by assumption) ?hr1
  case hy1 => (intro w hSw; (try dsimp only at hSw); go_simp; (try with_reducible rfl))
  try simp only [Act.put, List.setIfInBounds_toArray, List.set_cons_zero, List.set_cons_succ]
  refine wpAnyH_take (i := 1) (oi := ({ dst := some 5, op := Op.move (Operand.tmp 0), type := 76, pos := "bytes.go:13", after := #[], guard := none } : Oper)) (v := ?hv2) rfl (by kernel_rfl) (by kernel_rfl) (by kernel_rfl) (fun _ _ _ h => h) (Or.inl ⟨by rfl, ?hy2⟩) (by assumption) ?hr2
  case hy2 => (intro w hSw; (try dsimp only at hSw); go_simp; (try with_reducible rfl))
  try simp only [Act.put, List.setIfInBounds_toArray, List.set_cons_zero, List.set_cons_succ]
  refine wpAnyH_take (i := 2) (oi := ({ dst := some 6, op := Op.nilCheck (Operand.tmp 5), type := 0, pos := "bytes.go:13", after := #[{ on := 1, ground := Ground.data }], guard := none } : Oper)) (v := ?hv3) rfl (by kernel_rfl) (by kernel_rfl) (by kernel_rfl) (fun _ _ _ h => h) (Or.inl ⟨by rfl, ?hy3⟩) (by assumption) ?hr3
  case hy3 => (intro w hSw; (try dsimp only at hSw); go_simp; (try with_reducible rfl))
  try simp only [Act.put, List.setIfInBounds_toArray, List.set_cons_zero, List.set_cons_succ]
  refine wpAnyH_take (i := 3) (oi := ({ dst := some 7, op := Op.fieldAddr 78 (Operand.tmp 6) 0, type := 0, pos := "bytes.go:13", after := #[{ on := 2, ground := Ground.data }], guard := none } : Oper)) (v := ?hv4) rfl (by kernel_rfl) (by kernel_rfl) (by kernel_rfl) (fun _ _ _ h => h) (Or.inl ⟨by rfl, ?hy4⟩) (by assumption) ?hr4
  case hy4 => (intro w hSw; (try dsimp only at hSw); go_simp; (try with_reducible rfl))
  try simp only [Act.put, List.setIfInBounds_toArray, List.set_cons_zero, List.set_cons_succ]
  refine wpAnyH_take (i := 5) (oi := ({ dst := some 9, op := Op.move (Operand.tmp 1), type := 3, pos := "bytes.go:13", after := #[], guard := none } : Oper)) (v := ?hv5) rfl (by kernel_rfl) (by kernel_rfl) (by kernel_rfl) (fun _ _ _ h => h) (Or.inl ⟨by rfl, ?hy5⟩) (by assumption) ?hr5
  case hy5 => (intro w hSw; (try dsimp only at hSw); go_simp; (try with_reducible rfl))
  try simp only [Act.put, List.setIfInBounds_toArray, List.set_cons_zero, List.set_cons_succ]
  refine wpAnyH_ready (rs := [4, 6]) (by kernel_rfl) (by simp) ?_
  refine AllReadyH.cons (o := ({ dst := some 8, op := Op.load 56 (Operand.tmp 7), type := 56, pos := "bytes.go:13", after := #[{ on := 3, ground := Ground.data }], guard := none } : Oper)) rfl (fun KK hKK => ?_) ?_
  · have x0 := D0.out.blk.cell (i := 0) rfl
    go_simp
    clear x0
    have D1 := D0
    refine hKK.out _ _ (D1.out.bel) (fun hH1 => ?_)
    clear hKK KK
    try simp only [Act.put, List.setIfInBounds_toArray, List.set_cons_zero, List.set_cons_succ]
    refine wpAnyH_ready (rs := [6]) (by kernel_rfl) (by simp) ?_
    refine AllReadyH.cons (o := ({ dst := some 10, op := Op.call { callee := Callee.value (Operand.func 115), args := #[Operand.const (Value.slice none 0 0), Operand.tmp 9], argTypes := #[56, 3] }, type := 56, pos := "bytes.go:13", after := #[{ on := 5, ground := Ground.data }], guard := none } : Oper)) rfl (fun KK hKK => ?_) AllReadyH.nil
    go_simp
    (with_reducible refine (HG.out y0 D1.out.bel).mono ?_)
    rintro e0 y2 ⟨A2, c2, rfl, hs, ho, hb⟩
    have S2 := Lib.hid hs
    have D2 := Lib.hid (D1.out.call hb)
    clear hs ho hb
    refine hKK.out _ _ (D2.out.bel) (fun hH2 => ?_)
    clear hKK KK
    try simp only [Act.put, List.setIfInBounds_toArray, List.set_cons_zero, List.set_cons_succ]
    refine wpAnyH_ready (rs := [7]) (by kernel_rfl) (by simp) ?_
    refine AllReadyH.cons (o := ({ dst := some 11, op := Op.call { callee := Callee.builtin Builtin.append, args := #[Operand.tmp 8, Operand.tmp 10], argTypes := #[56, 56] }, type := 56, pos := "bytes.go:13", after := #[{ on := 4, ground := Ground.data }, { on := 6, ground := Ground.data }, { on := 6, ground := Ground.chain }], guard := none } : Oper)) rfl (fun KK hKK => ?_) AllReadyH.nil
    refine step_bytes rfl (.tmp 8) (.tmp 10) rfl rfl A2 c2 z rfl D2.out S2.out HLN.out zs2 HZ2.out ?_
    intro A3 c3 y3 hws
    have D3 := Lib.hid hws
    clear hws
    refine hKK.out _ _ (D3.out.bel) (fun hH3 => ?_)
    clear hKK KK
    try simp only [Act.put, List.setIfInBounds_toArray, List.set_cons_zero, List.set_cons_succ]
    refine wpAnyH_take (i := 8) (oi := ({ dst := some 12, op := Op.nilCheck (Operand.tmp 4), type := 0, pos := "bytes.go:13", after := #[{ on := 0, ground := Ground.data }, { on := 0, ground := Ground.phase }, { on := 1, ground := Ground.phase }, { on := 2, ground := Ground.phase }, { on := 3, ground := Ground.phase }, { on := 4, ground := Ground.phase }, { on := 5, ground := Ground.phase }, { on := 6, ground := Ground.phase }, { on := 7, ground := Ground.phase }], guard := none } : Oper)) (v := ?hv6) rfl (by kernel_rfl) (by kernel_rfl) (by kernel_rfl) (fun _ _ _ h => h) (Or.inl ⟨by rfl, ?hy6⟩) (by assumption) ?hr6
    case hy6 => (intro w hSw; (try dsimp only at hSw); go_simp; (try with_reducible rfl))
    try simp only [Act.put, List.setIfInBounds_toArray, List.set_cons_zero, List.set_cons_succ]
    refine wpAnyH_take (i := 9) (oi := ({ dst := some 13, op := Op.fieldAddr 78 (Operand.tmp 12) 0, type := 0, pos := "bytes.go:13", after := #[{ on := 8, ground := Ground.data }, { on := 0, ground := Ground.phase }, { on := 1, ground := Ground.phase }, { on := 2, ground := Ground.phase }, { on := 3, ground := Ground.phase }, { on := 4, ground := Ground.phase }, { on := 5, ground := Ground.phase }, { on := 6, ground := Ground.phase }, { on := 7, ground := Ground.phase }], guard := none } : Oper)) (v := ?hv7) rfl (by kernel_rfl) (by kernel_rfl) (by kernel_rfl) (fun _ _ _ h => h) (Or.inl ⟨by rfl, ?hy7⟩) (by assumption) ?hr7
    case hy7 => (intro w hSw; (try dsimp only at hSw); go_simp; (try with_reducible rfl))
    try simp only [Act.put, List.setIfInBounds_toArray, List.set_cons_zero, List.set_cons_succ]
    refine wpAnyH_ready (rs := [10]) (by kernel_rfl) (by simp) ?_
    refine AllReadyH.cons (o := ({ dst := none, op := Op.store 56 (Operand.tmp 13) (Operand.tmp 11), type := 0, pos := "bytes.go:13", after := #[{ on := 9, ground := Ground.data }, { on := 7, ground := Ground.data }, { on := 7, ground := Ground.chain }, { on := 0, ground := Ground.phase }, { on := 1, ground := Ground.phase }, { on := 2, ground := Ground.phase }, { on := 3, ground := Ground.phase }, { on := 4, ground := Ground.phase }, { on := 5, ground := Ground.phase }, { on := 6, ground := Ground.phase }, { on := 7, ground := Ground.phase }], guard := none } : Oper)) rfl (fun KK hKK => ?_) AllReadyH.nil
    have x0 := D3.out.blk.cell (i := 0) rfl
    have f0 := D3.out.blk.free 0
    go_simp
    have D4 := Lib.hid D3.out.store
    clear x0 f0
    generalize World.setCell y3 ⟨wb, 0, none⟩ _ = y4 at D4 ⊢
    refine hKK.out _ _ (D4.out.bel) (fun hH4 => ?_)
    clear hKK KK
    try simp only [Act.put, List.setIfInBounds_toArray, List.set_cons_zero, List.set_cons_succ]
    refine wpAnyH_done (by kernel_rfl) ?_ _
    (try go_wp2)
    go_end0
    exact ⟨rfl, ⟨A3, c3, D4.out.blk, D4.out.own⟩, D4.out.bel, D4.out.kt⟩
  refine AllReadyH.cons (o := ({ dst := some 10, op := Op.call { callee := Callee.value (Operand.func 115), args := #[Operand.const (Value.slice none 0 0), Operand.tmp 9], argTypes := #[56, 3] }, type := 56, pos := "bytes.go:13", after := #[{ on := 5, ground := Ground.data }], guard := none } : Oper)) rfl (fun KK hKK => ?_) AllReadyH.nil
  go_simp
  (with_reducible refine (HG.out y0 D0.out.bel).mono ?_)
  rintro e0 y1 ⟨A2, c2, rfl, hs, ho, hb⟩
  have S2 := Lib.hid hs
  have D1 := Lib.hid (D0.out.call hb)
  clear hs ho hb
  refine hKK.out _ _ (D1.out.bel) (fun hH1 => ?_)
  clear hKK KK
  try simp only [Act.put, List.setIfInBounds_toArray, List.set_cons_zero, List.set_cons_succ]
  refine wpAnyH_ready (rs := [4]) (by kernel_rfl) (by simp) ?_
  refine AllReadyH.cons (o := ({ dst := some 8, op := Op.load 56 (Operand.tmp 7), type := 56, pos := "bytes.go:13", after := #[{ on := 3, ground := Ground.data }], guard := none } : Oper)) rfl (fun KK hKK => ?_) AllReadyH.nil
  have x0 := D1.out.blk.cell (i := 0) rfl
  go_simp
  clear x0
  have D2 := D1
  refine hKK.out _ _ (D2.out.bel) (fun hH2 => ?_)
  clear hKK KK
  try simp only [Act.put, List.setIfInBounds_toArray, List.set_cons_zero, List.set_cons_succ]
  refine wpAnyH_ready (rs := [7]) (by kernel_rfl) (by simp) ?_
  refine AllReadyH.cons (o := ({ dst := some 11, op := Op.call { callee := Callee.builtin Builtin.append, args := #[Operand.tmp 8, Operand.tmp 10], argTypes := #[56, 56] }, type := 56, pos := "bytes.go:13", after := #[{ on := 4, ground := Ground.data }, { on := 6, ground := Ground.data }, { on := 6, ground := Ground.chain }], guard := none } : Oper)) rfl (fun KK hKK => ?_) AllReadyH.nil
  refine step_bytes rfl (.tmp 8) (.tmp 10) rfl rfl A2 c2 z rfl D2.out S2.out HLN.out zs2 HZ2.out ?_
  intro A3 c3 y3 hws
  have D3 := Lib.hid hws
  clear hws
  refine hKK.out _ _ (D3.out.bel) (fun hH3 => ?_)
  clear hKK KK
  try simp only [Act.put, List.setIfInBounds_toArray, List.set_cons_zero, List.set_cons_succ]
  refine wpAnyH_take (i := 8) (oi := ({ dst := some 12, op := Op.nilCheck (Operand.tmp 4), type := 0, pos := "bytes.go:13", after := #[{ on := 0, ground := Ground.data }, { on := 0, ground := Ground.phase }, { on := 1, ground := Ground.phase }, { on := 2, ground := Ground.phase }, { on := 3, ground := Ground.phase }, { on := 4, ground := Ground.phase }, { on := 5, ground := Ground.phase }, { on := 6, ground := Ground.phase }, { on := 7, ground := Ground.phase }], guard := none } : Oper)) (v := ?hv8) rfl (by kernel_rfl) (by kernel_rfl) (by kernel_rfl) (fun _ _ _ h => h) (Or.inl ⟨by rfl, ?hy8⟩) (by assumption) ?hr8
  case hy8 => (intro w hSw; (try dsimp only at hSw); go_simp; (try with_reducible rfl))
  try simp only [Act.put, List.setIfInBounds_toArray, List.set_cons_zero, List.set_cons_succ]
  refine wpAnyH_take (i := 9) (oi := ({ dst := some 13, op := Op.fieldAddr 78 (Operand.tmp 12) 0, type := 0, pos := "bytes.go:13", after := #[{ on := 8, ground := Ground.data }, { on := 0, ground := Ground.phase }, { on := 1, ground := Ground.phase }, { on := 2, ground := Ground.phase }, { on := 3, ground := Ground.phase }, { on := 4, ground := Ground.phase }, { on := 5, ground := Ground.phase }, { on := 6, ground := Ground.phase }, { on := 7, ground := Ground.phase }], guard := none } : Oper)) (v := ?hv9) rfl (by kernel_rfl) (by kernel_rfl) (by kernel_rfl) (fun _ _ _ h => h) (Or.inl ⟨by rfl, ?hy9⟩) (by assumption) ?hr9
  case hy9 => (intro w hSw; (try dsimp only at hSw); go_simp; (try with_reducible rfl))
  try simp only [Act.put, List.setIfInBounds_toArray, List.set_cons_zero, List.set_cons_succ]
  refine wpAnyH_ready (rs := [10]) (by kernel_rfl) (by simp) ?_
  refine AllReadyH.cons (o := ({ dst := none, op := Op.store 56 (Operand.tmp 13) (Operand.tmp 11), type := 0, pos := "bytes.go:13", after := #[{ on := 9, ground := Ground.data }, { on := 7, ground := Ground.data }, { on := 7, ground := Ground.chain }, { on := 0, ground := Ground.phase }, { on := 1, ground := Ground.phase }, { on := 2, ground := Ground.phase }, { on := 3, ground := Ground.phase }, { on := 4, ground := Ground.phase }, { on := 5, ground := Ground.phase }, { on := 6, ground := Ground.phase }, { on := 7, ground := Ground.phase }], guard := none } : Oper)) rfl (fun KK hKK => ?_) AllReadyH.nil
  have x0 := D3.out.blk.cell (i := 0) rfl
  have f0 := D3.out.blk.free 0
  go_simp
  have D4 := Lib.hid D3.out.store
  clear x0 f0
  generalize World.setCell y3 ⟨wb, 0, none⟩ _ = y4 at D4 ⊢
  refine hKK.out _ _ (D4.out.bel) (fun hH4 => ?_)
  clear hKK KK
  try simp only [Act.put, List.setIfInBounds_toArray, List.set_cons_zero, List.set_cons_succ]
  refine wpAnyH_done (by kernel_rfl) ?_ _
  (try go_wp2)
  go_end0
  exact ⟨rfl, ⟨A3, c3, D4.out.blk, D4.out.own⟩, D4.out.bel, D4.out.kt⟩
set_option maxHeartbeats 8000000 in
theorem wtext (wb : Nat) (A : Option Addr) (c : Nat) (zs : List Int) (s : ByteArray) (w : World) (h : Wr wb A c zs w) (hl : zs.length ≤ 650000) (hs : s.size ≤ 640000) : Calls Tryz.prog 64 #[.pointer (some ⟨wb, 0, none⟩), .string s] w (WrP wb (zs ++ Cd.ent s) w) := by
  obtain ⟨z, hz⟩ : ∃ z, Cd.ent s = z := ⟨_, rfl⟩
  have HW := Lib.hid (show WS w wb (.slice A zs.length c) (.slice A zs.length c) zs w from ⟨h.1, h.2, Below.refl _ _, KT.refl _ _⟩)
  have HG := Lib.hid (fun y (hbl : Below wb w y) => pX s hs y)
  rw [hz] at HG
  unfold SlP at HG
  have HLN := Lib.hid (show zs.length + z.length ≤ 2000000 by rw [← hz]; have h1 := (Cd.ent_bd (show Cd.Small s by unfold Cd.Small; omega)).2; have h2 := (eI_bd (len64 (show s.size ≤ 1000000 by omega))).2; unfold eI at h2; omega)
  rw [hz]
  obtain ⟨zs2, hz2⟩ : ∃ zs2, zs2 = zs ++ z := ⟨_, rfl⟩
  have HZ2 := Lib.hid hz2
  rw [← hz2]
  clear h hz hz2 hl hs
  unfold WrP
  go_enter Tryz.func64, Tryz.ntmps64
  refine wp_region_held_drew (S := (fun y => Below wb w y)) (by kernel_rfl) ((Below.refl wb w).drew) (fun hH0 => ?_)
  have D0 := Lib.hid HW.out.drew
  generalize World.drew w = y0 at hH0 D0 ⊢
  refine wpAnyH_take (i := 0) (oi := ({ dst := some 4, op := Op.move (Operand.tmp 0), type := 76, pos := "bytes.go:14", after := #[], guard := none } : Oper)) (v := ?hv10) rfl (by kernel_rfl) (by kernel_rfl) (by kernel_rfl) (fun _ _ _ h => h) (Or.inl ⟨by rfl, ?hy10⟩) (by assumption) ?hr10
  case hy10 => (intro w hSw; (try dsimp only at hSw); go_simp; (try with_reducible rfl))
  try simp only [Act.put, List.setIfInBounds_toArray, List.set_cons_zero, List.set_cons_succ]
  refine wpAnyH_take (i := 1) (oi := ({ dst := some 5, op := Op.move (Operand.tmp 0), type := 76, pos := "bytes.go:14", after := #[], guard := none } : Oper)) (v := ?hv11) rfl (by kernel_rfl) (by kernel_rfl) (by kernel_rfl) (fun _ _ _ h => h) (Or.inl ⟨by rfl, ?hy11⟩) (by assumption) ?hr11
  case hy11 => (intro w hSw; (try dsimp only at hSw); go_simp; (try with_reducible rfl))
  try simp only [Act.put, List.setIfInBounds_toArray, List.set_cons_zero, List.set_cons_succ]
  refine wpAnyH_take (i := 2) (oi := ({ dst := some 6, op := Op.nilCheck (Operand.tmp 5), type := 0, pos := "bytes.go:14", after := #[{ on := 1, ground := Ground.data }], guard := none } : Oper)) (v := ?hv12) rfl (by kernel_rfl) (by kernel_rfl) (by kernel_rfl) (fun _ _ _ h => h) (Or.inl ⟨by rfl, ?hy12⟩) (by assumption) ?hr12
  case hy12 => (intro w hSw; (try dsimp only at hSw); go_simp; (try with_reducible rfl))
  try simp only [Act.put, List.setIfInBounds_toArray, List.set_cons_zero, List.set_cons_succ]
  refine wpAnyH_take (i := 3) (oi := ({ dst := some 7, op := Op.fieldAddr 78 (Operand.tmp 6) 0, type := 0, pos := "bytes.go:14", after := #[{ on := 2, ground := Ground.data }], guard := none } : Oper)) (v := ?hv13) rfl (by kernel_rfl) (by kernel_rfl) (by kernel_rfl) (fun _ _ _ h => h) (Or.inl ⟨by rfl, ?hy13⟩) (by assumption) ?hr13
  case hy13 => (intro w hSw; (try dsimp only at hSw); go_simp; (try with_reducible rfl))
  try simp only [Act.put, List.setIfInBounds_toArray, List.set_cons_zero, List.set_cons_succ]
  refine wpAnyH_take (i := 5) (oi := ({ dst := some 9, op := Op.move (Operand.tmp 1), type := 9, pos := "bytes.go:14", after := #[], guard := none } : Oper)) (v := ?hv14) rfl (by kernel_rfl) (by kernel_rfl) (by kernel_rfl) (fun _ _ _ h => h) (Or.inl ⟨by rfl, ?hy14⟩) (by assumption) ?hr14
  case hy14 => (intro w hSw; (try dsimp only at hSw); go_simp; (try with_reducible rfl))
  try simp only [Act.put, List.setIfInBounds_toArray, List.set_cons_zero, List.set_cons_succ]
  refine wpAnyH_ready (rs := [4, 6]) (by kernel_rfl) (by simp) ?_
  refine AllReadyH.cons (o := ({ dst := some 8, op := Op.load 56 (Operand.tmp 7), type := 56, pos := "bytes.go:14", after := #[{ on := 3, ground := Ground.data }], guard := none } : Oper)) rfl (fun KK hKK => ?_) ?_
  · have x0 := D0.out.blk.cell (i := 0) rfl
    go_simp
    clear x0
    have D1 := D0
    refine hKK.out _ _ (D1.out.bel) (fun hH1 => ?_)
    clear hKK KK
    try simp only [Act.put, List.setIfInBounds_toArray, List.set_cons_zero, List.set_cons_succ]
    refine wpAnyH_ready (rs := [6]) (by kernel_rfl) (by simp) ?_
    refine AllReadyH.cons (o := ({ dst := some 10, op := Op.call { callee := Callee.value (Operand.func 114), args := #[Operand.const (Value.slice none 0 0), Operand.tmp 9], argTypes := #[56, 9] }, type := 56, pos := "bytes.go:14", after := #[{ on := 5, ground := Ground.data }], guard := none } : Oper)) rfl (fun KK hKK => ?_) AllReadyH.nil
    go_simp
    (with_reducible refine (HG.out y0 D1.out.bel).mono ?_)
    rintro e0 y2 ⟨A2, c2, rfl, hs, ho, hb⟩
    have S2 := Lib.hid hs
    have D2 := Lib.hid (D1.out.call hb)
    clear hs ho hb
    refine hKK.out _ _ (D2.out.bel) (fun hH2 => ?_)
    clear hKK KK
    try simp only [Act.put, List.setIfInBounds_toArray, List.set_cons_zero, List.set_cons_succ]
    refine wpAnyH_ready (rs := [7]) (by kernel_rfl) (by simp) ?_
    refine AllReadyH.cons (o := ({ dst := some 11, op := Op.call { callee := Callee.builtin Builtin.append, args := #[Operand.tmp 8, Operand.tmp 10], argTypes := #[56, 56] }, type := 56, pos := "bytes.go:14", after := #[{ on := 4, ground := Ground.data }, { on := 6, ground := Ground.data }, { on := 6, ground := Ground.chain }], guard := none } : Oper)) rfl (fun KK hKK => ?_) AllReadyH.nil
    refine step_bytes rfl (.tmp 8) (.tmp 10) rfl rfl A2 c2 z rfl D2.out S2.out HLN.out zs2 HZ2.out ?_
    intro A3 c3 y3 hws
    have D3 := Lib.hid hws
    clear hws
    refine hKK.out _ _ (D3.out.bel) (fun hH3 => ?_)
    clear hKK KK
    try simp only [Act.put, List.setIfInBounds_toArray, List.set_cons_zero, List.set_cons_succ]
    refine wpAnyH_take (i := 8) (oi := ({ dst := some 12, op := Op.nilCheck (Operand.tmp 4), type := 0, pos := "bytes.go:14", after := #[{ on := 0, ground := Ground.data }, { on := 0, ground := Ground.phase }, { on := 1, ground := Ground.phase }, { on := 2, ground := Ground.phase }, { on := 3, ground := Ground.phase }, { on := 4, ground := Ground.phase }, { on := 5, ground := Ground.phase }, { on := 6, ground := Ground.phase }, { on := 7, ground := Ground.phase }], guard := none } : Oper)) (v := ?hv15) rfl (by kernel_rfl) (by kernel_rfl) (by kernel_rfl) (fun _ _ _ h => h) (Or.inl ⟨by rfl, ?hy15⟩) (by assumption) ?hr15
    case hy15 => (intro w hSw; (try dsimp only at hSw); go_simp; (try with_reducible rfl))
    try simp only [Act.put, List.setIfInBounds_toArray, List.set_cons_zero, List.set_cons_succ]
    refine wpAnyH_take (i := 9) (oi := ({ dst := some 13, op := Op.fieldAddr 78 (Operand.tmp 12) 0, type := 0, pos := "bytes.go:14", after := #[{ on := 8, ground := Ground.data }, { on := 0, ground := Ground.phase }, { on := 1, ground := Ground.phase }, { on := 2, ground := Ground.phase }, { on := 3, ground := Ground.phase }, { on := 4, ground := Ground.phase }, { on := 5, ground := Ground.phase }, { on := 6, ground := Ground.phase }, { on := 7, ground := Ground.phase }], guard := none } : Oper)) (v := ?hv16) rfl (by kernel_rfl) (by kernel_rfl) (by kernel_rfl) (fun _ _ _ h => h) (Or.inl ⟨by rfl, ?hy16⟩) (by assumption) ?hr16
    case hy16 => (intro w hSw; (try dsimp only at hSw); go_simp; (try with_reducible rfl))
    try simp only [Act.put, List.setIfInBounds_toArray, List.set_cons_zero, List.set_cons_succ]
    refine wpAnyH_ready (rs := [10]) (by kernel_rfl) (by simp) ?_
    refine AllReadyH.cons (o := ({ dst := none, op := Op.store 56 (Operand.tmp 13) (Operand.tmp 11), type := 0, pos := "bytes.go:14", after := #[{ on := 9, ground := Ground.data }, { on := 7, ground := Ground.data }, { on := 7, ground := Ground.chain }, { on := 0, ground := Ground.phase }, { on := 1, ground := Ground.phase }, { on := 2, ground := Ground.phase }, { on := 3, ground := Ground.phase }, { on := 4, ground := Ground.phase }, { on := 5, ground := Ground.phase }, { on := 6, ground := Ground.phase }, { on := 7, ground := Ground.phase }], guard := none } : Oper)) rfl (fun KK hKK => ?_) AllReadyH.nil
    have x0 := D3.out.blk.cell (i := 0) rfl
    have f0 := D3.out.blk.free 0
    go_simp
    have D4 := Lib.hid D3.out.store
    clear x0 f0
    generalize World.setCell y3 ⟨wb, 0, none⟩ _ = y4 at D4 ⊢
    refine hKK.out _ _ (D4.out.bel) (fun hH4 => ?_)
    clear hKK KK
    try simp only [Act.put, List.setIfInBounds_toArray, List.set_cons_zero, List.set_cons_succ]
    refine wpAnyH_done (by kernel_rfl) ?_ _
    (try go_wp2)
    go_end0
    exact ⟨rfl, ⟨A3, c3, D4.out.blk, D4.out.own⟩, D4.out.bel, D4.out.kt⟩
  refine AllReadyH.cons (o := ({ dst := some 10, op := Op.call { callee := Callee.value (Operand.func 114), args := #[Operand.const (Value.slice none 0 0), Operand.tmp 9], argTypes := #[56, 9] }, type := 56, pos := "bytes.go:14", after := #[{ on := 5, ground := Ground.data }], guard := none } : Oper)) rfl (fun KK hKK => ?_) AllReadyH.nil
  go_simp
  (with_reducible refine (HG.out y0 D0.out.bel).mono ?_)
  rintro e0 y1 ⟨A2, c2, rfl, hs, ho, hb⟩
  have S2 := Lib.hid hs
  have D1 := Lib.hid (D0.out.call hb)
  clear hs ho hb
  refine hKK.out _ _ (D1.out.bel) (fun hH1 => ?_)
  clear hKK KK
  try simp only [Act.put, List.setIfInBounds_toArray, List.set_cons_zero, List.set_cons_succ]
  refine wpAnyH_ready (rs := [4]) (by kernel_rfl) (by simp) ?_
  refine AllReadyH.cons (o := ({ dst := some 8, op := Op.load 56 (Operand.tmp 7), type := 56, pos := "bytes.go:14", after := #[{ on := 3, ground := Ground.data }], guard := none } : Oper)) rfl (fun KK hKK => ?_) AllReadyH.nil
  have x0 := D1.out.blk.cell (i := 0) rfl
  go_simp
  clear x0
  have D2 := D1
  refine hKK.out _ _ (D2.out.bel) (fun hH2 => ?_)
  clear hKK KK
  try simp only [Act.put, List.setIfInBounds_toArray, List.set_cons_zero, List.set_cons_succ]
  refine wpAnyH_ready (rs := [7]) (by kernel_rfl) (by simp) ?_
  refine AllReadyH.cons (o := ({ dst := some 11, op := Op.call { callee := Callee.builtin Builtin.append, args := #[Operand.tmp 8, Operand.tmp 10], argTypes := #[56, 56] }, type := 56, pos := "bytes.go:14", after := #[{ on := 4, ground := Ground.data }, { on := 6, ground := Ground.data }, { on := 6, ground := Ground.chain }], guard := none } : Oper)) rfl (fun KK hKK => ?_) AllReadyH.nil
  refine step_bytes rfl (.tmp 8) (.tmp 10) rfl rfl A2 c2 z rfl D2.out S2.out HLN.out zs2 HZ2.out ?_
  intro A3 c3 y3 hws
  have D3 := Lib.hid hws
  clear hws
  refine hKK.out _ _ (D3.out.bel) (fun hH3 => ?_)
  clear hKK KK
  try simp only [Act.put, List.setIfInBounds_toArray, List.set_cons_zero, List.set_cons_succ]
  refine wpAnyH_take (i := 8) (oi := ({ dst := some 12, op := Op.nilCheck (Operand.tmp 4), type := 0, pos := "bytes.go:14", after := #[{ on := 0, ground := Ground.data }, { on := 0, ground := Ground.phase }, { on := 1, ground := Ground.phase }, { on := 2, ground := Ground.phase }, { on := 3, ground := Ground.phase }, { on := 4, ground := Ground.phase }, { on := 5, ground := Ground.phase }, { on := 6, ground := Ground.phase }, { on := 7, ground := Ground.phase }], guard := none } : Oper)) (v := ?hv17) rfl (by kernel_rfl) (by kernel_rfl) (by kernel_rfl) (fun _ _ _ h => h) (Or.inl ⟨by rfl, ?hy17⟩) (by assumption) ?hr17
  case hy17 => (intro w hSw; (try dsimp only at hSw); go_simp; (try with_reducible rfl))
  try simp only [Act.put, List.setIfInBounds_toArray, List.set_cons_zero, List.set_cons_succ]
  refine wpAnyH_take (i := 9) (oi := ({ dst := some 13, op := Op.fieldAddr 78 (Operand.tmp 12) 0, type := 0, pos := "bytes.go:14", after := #[{ on := 8, ground := Ground.data }, { on := 0, ground := Ground.phase }, { on := 1, ground := Ground.phase }, { on := 2, ground := Ground.phase }, { on := 3, ground := Ground.phase }, { on := 4, ground := Ground.phase }, { on := 5, ground := Ground.phase }, { on := 6, ground := Ground.phase }, { on := 7, ground := Ground.phase }], guard := none } : Oper)) (v := ?hv18) rfl (by kernel_rfl) (by kernel_rfl) (by kernel_rfl) (fun _ _ _ h => h) (Or.inl ⟨by rfl, ?hy18⟩) (by assumption) ?hr18
  case hy18 => (intro w hSw; (try dsimp only at hSw); go_simp; (try with_reducible rfl))
  try simp only [Act.put, List.setIfInBounds_toArray, List.set_cons_zero, List.set_cons_succ]
  refine wpAnyH_ready (rs := [10]) (by kernel_rfl) (by simp) ?_
  refine AllReadyH.cons (o := ({ dst := none, op := Op.store 56 (Operand.tmp 13) (Operand.tmp 11), type := 0, pos := "bytes.go:14", after := #[{ on := 9, ground := Ground.data }, { on := 7, ground := Ground.data }, { on := 7, ground := Ground.chain }, { on := 0, ground := Ground.phase }, { on := 1, ground := Ground.phase }, { on := 2, ground := Ground.phase }, { on := 3, ground := Ground.phase }, { on := 4, ground := Ground.phase }, { on := 5, ground := Ground.phase }, { on := 6, ground := Ground.phase }, { on := 7, ground := Ground.phase }], guard := none } : Oper)) rfl (fun KK hKK => ?_) AllReadyH.nil
  have x0 := D3.out.blk.cell (i := 0) rfl
  have f0 := D3.out.blk.free 0
  go_simp
  have D4 := Lib.hid D3.out.store
  clear x0 f0
  generalize World.setCell y3 ⟨wb, 0, none⟩ _ = y4 at D4 ⊢
  refine hKK.out _ _ (D4.out.bel) (fun hH4 => ?_)
  clear hKK KK
  try simp only [Act.put, List.setIfInBounds_toArray, List.set_cons_zero, List.set_cons_succ]
  refine wpAnyH_done (by kernel_rfl) ?_ _
  (try go_wp2)
  go_end0
  exact ⟨rfl, ⟨A3, c3, D4.out.blk, D4.out.own⟩, D4.out.bel, D4.out.kt⟩
set_option maxHeartbeats 8000000 in
theorem wflag (wb : Nat) (A : Option Addr) (c : Nat) (zs : List Int) (b : Bool) (w : World) (h : Wr wb A c zs w) (hl : zs.length ≤ 650000)  : Calls Tryz.prog 66 #[.pointer (some ⟨wb, 0, none⟩), .bool b] w (WrP wb (zs ++ [if b then (1 : Int) else 0]) w) := by
  obtain ⟨z, hz⟩ : ∃ z, [if b then (1 : Int) else 0] = z := ⟨_, rfl⟩
  have HW := Lib.hid (show WS w wb (.slice A zs.length c) (.slice A zs.length c) zs w from ⟨h.1, h.2, Below.refl _ _, KT.refl _ _⟩)
  have HG := Lib.hid (fun y (hbl : Below wb w y) => pB b y)
  rw [hz] at HG
  unfold SlP at HG
  have HLN := Lib.hid (show zs.length + z.length ≤ 2000000 by rw [← hz]; rw [List.length_singleton]; omega)
  rw [hz]
  obtain ⟨zs2, hz2⟩ : ∃ zs2, zs2 = zs ++ z := ⟨_, rfl⟩
  have HZ2 := Lib.hid hz2
  rw [← hz2]
  clear h hz hz2 hl 
  unfold WrP
  go_enter Tryz.func66, Tryz.ntmps66
  refine wp_region_held_drew (S := (fun y => Below wb w y)) (by kernel_rfl) ((Below.refl wb w).drew) (fun hH0 => ?_)
  have D0 := Lib.hid HW.out.drew
  generalize World.drew w = y0 at hH0 D0 ⊢
  refine wpAnyH_take (i := 0) (oi := ({ dst := some 4, op := Op.move (Operand.tmp 0), type := 76, pos := "bytes.go:15", after := #[], guard := none } : Oper)) (v := ?hv19) rfl (by kernel_rfl) (by kernel_rfl) (by kernel_rfl) (fun _ _ _ h => h) (Or.inl ⟨by rfl, ?hy19⟩) (by assumption) ?hr19
  case hy19 => (intro w hSw; (try dsimp only at hSw); go_simp; (try with_reducible rfl))
  try simp only [Act.put, List.setIfInBounds_toArray, List.set_cons_zero, List.set_cons_succ]
  refine wpAnyH_take (i := 1) (oi := ({ dst := some 5, op := Op.move (Operand.tmp 0), type := 76, pos := "bytes.go:15", after := #[], guard := none } : Oper)) (v := ?hv20) rfl (by kernel_rfl) (by kernel_rfl) (by kernel_rfl) (fun _ _ _ h => h) (Or.inl ⟨by rfl, ?hy20⟩) (by assumption) ?hr20
  case hy20 => (intro w hSw; (try dsimp only at hSw); go_simp; (try with_reducible rfl))
  try simp only [Act.put, List.setIfInBounds_toArray, List.set_cons_zero, List.set_cons_succ]
  refine wpAnyH_take (i := 2) (oi := ({ dst := some 6, op := Op.nilCheck (Operand.tmp 5), type := 0, pos := "bytes.go:15", after := #[{ on := 1, ground := Ground.data }], guard := none } : Oper)) (v := ?hv21) rfl (by kernel_rfl) (by kernel_rfl) (by kernel_rfl) (fun _ _ _ h => h) (Or.inl ⟨by rfl, ?hy21⟩) (by assumption) ?hr21
  case hy21 => (intro w hSw; (try dsimp only at hSw); go_simp; (try with_reducible rfl))
  try simp only [Act.put, List.setIfInBounds_toArray, List.set_cons_zero, List.set_cons_succ]
  refine wpAnyH_take (i := 3) (oi := ({ dst := some 7, op := Op.fieldAddr 78 (Operand.tmp 6) 0, type := 0, pos := "bytes.go:15", after := #[{ on := 2, ground := Ground.data }], guard := none } : Oper)) (v := ?hv22) rfl (by kernel_rfl) (by kernel_rfl) (by kernel_rfl) (fun _ _ _ h => h) (Or.inl ⟨by rfl, ?hy22⟩) (by assumption) ?hr22
  case hy22 => (intro w hSw; (try dsimp only at hSw); go_simp; (try with_reducible rfl))
  try simp only [Act.put, List.setIfInBounds_toArray, List.set_cons_zero, List.set_cons_succ]
  refine wpAnyH_take (i := 5) (oi := ({ dst := some 9, op := Op.move (Operand.tmp 1), type := 4, pos := "bytes.go:15", after := #[], guard := none } : Oper)) (v := ?hv23) rfl (by kernel_rfl) (by kernel_rfl) (by kernel_rfl) (fun _ _ _ h => h) (Or.inl ⟨by rfl, ?hy23⟩) (by assumption) ?hr23
  case hy23 => (intro w hSw; (try dsimp only at hSw); go_simp; (try with_reducible rfl))
  try simp only [Act.put, List.setIfInBounds_toArray, List.set_cons_zero, List.set_cons_succ]
  refine wpAnyH_ready (rs := [4, 6]) (by kernel_rfl) (by simp) ?_
  refine AllReadyH.cons (o := ({ dst := some 8, op := Op.load 56 (Operand.tmp 7), type := 56, pos := "bytes.go:15", after := #[{ on := 3, ground := Ground.data }], guard := none } : Oper)) rfl (fun KK hKK => ?_) ?_
  · have x0 := D0.out.blk.cell (i := 0) rfl
    go_simp
    clear x0
    have D1 := D0
    refine hKK.out _ _ (D1.out.bel) (fun hH1 => ?_)
    clear hKK KK
    try simp only [Act.put, List.setIfInBounds_toArray, List.set_cons_zero, List.set_cons_succ]
    refine wpAnyH_ready (rs := [6]) (by kernel_rfl) (by simp) ?_
    refine AllReadyH.cons (o := ({ dst := some 10, op := Op.call { callee := Callee.value (Operand.func 116), args := #[Operand.const (Value.slice none 0 0), Operand.tmp 9], argTypes := #[56, 4] }, type := 56, pos := "bytes.go:15", after := #[{ on := 5, ground := Ground.data }], guard := none } : Oper)) rfl (fun KK hKK => ?_) AllReadyH.nil
    go_simp
    (with_reducible refine (HG.out y0 D1.out.bel).mono ?_)
    rintro e0 y2 ⟨A2, c2, rfl, hs, ho, hb⟩
    have S2 := Lib.hid hs
    have D2 := Lib.hid (D1.out.call hb)
    clear hs ho hb
    refine hKK.out _ _ (D2.out.bel) (fun hH2 => ?_)
    clear hKK KK
    try simp only [Act.put, List.setIfInBounds_toArray, List.set_cons_zero, List.set_cons_succ]
    refine wpAnyH_ready (rs := [7]) (by kernel_rfl) (by simp) ?_
    refine AllReadyH.cons (o := ({ dst := some 11, op := Op.call { callee := Callee.builtin Builtin.append, args := #[Operand.tmp 8, Operand.tmp 10], argTypes := #[56, 56] }, type := 56, pos := "bytes.go:15", after := #[{ on := 4, ground := Ground.data }, { on := 6, ground := Ground.data }, { on := 6, ground := Ground.chain }], guard := none } : Oper)) rfl (fun KK hKK => ?_) AllReadyH.nil
    refine step_bytes rfl (.tmp 8) (.tmp 10) rfl rfl A2 c2 z rfl D2.out S2.out HLN.out zs2 HZ2.out ?_
    intro A3 c3 y3 hws
    have D3 := Lib.hid hws
    clear hws
    refine hKK.out _ _ (D3.out.bel) (fun hH3 => ?_)
    clear hKK KK
    try simp only [Act.put, List.setIfInBounds_toArray, List.set_cons_zero, List.set_cons_succ]
    refine wpAnyH_take (i := 8) (oi := ({ dst := some 12, op := Op.nilCheck (Operand.tmp 4), type := 0, pos := "bytes.go:15", after := #[{ on := 0, ground := Ground.data }, { on := 0, ground := Ground.phase }, { on := 1, ground := Ground.phase }, { on := 2, ground := Ground.phase }, { on := 3, ground := Ground.phase }, { on := 4, ground := Ground.phase }, { on := 5, ground := Ground.phase }, { on := 6, ground := Ground.phase }, { on := 7, ground := Ground.phase }], guard := none } : Oper)) (v := ?hv24) rfl (by kernel_rfl) (by kernel_rfl) (by kernel_rfl) (fun _ _ _ h => h) (Or.inl ⟨by rfl, ?hy24⟩) (by assumption) ?hr24
    case hy24 => (intro w hSw; (try dsimp only at hSw); go_simp; (try with_reducible rfl))
    try simp only [Act.put, List.setIfInBounds_toArray, List.set_cons_zero, List.set_cons_succ]
    refine wpAnyH_take (i := 9) (oi := ({ dst := some 13, op := Op.fieldAddr 78 (Operand.tmp 12) 0, type := 0, pos := "bytes.go:15", after := #[{ on := 8, ground := Ground.data }, { on := 0, ground := Ground.phase }, { on := 1, ground := Ground.phase }, { on := 2, ground := Ground.phase }, { on := 3, ground := Ground.phase }, { on := 4, ground := Ground.phase }, { on := 5, ground := Ground.phase }, { on := 6, ground := Ground.phase }, { on := 7, ground := Ground.phase }], guard := none } : Oper)) (v := ?hv25) rfl (by kernel_rfl) (by kernel_rfl) (by kernel_rfl) (fun _ _ _ h => h) (Or.inl ⟨by rfl, ?hy25⟩) (by assumption) ?hr25
    case hy25 => (intro w hSw; (try dsimp only at hSw); go_simp; (try with_reducible rfl))
    try simp only [Act.put, List.setIfInBounds_toArray, List.set_cons_zero, List.set_cons_succ]
    refine wpAnyH_ready (rs := [10]) (by kernel_rfl) (by simp) ?_
    refine AllReadyH.cons (o := ({ dst := none, op := Op.store 56 (Operand.tmp 13) (Operand.tmp 11), type := 0, pos := "bytes.go:15", after := #[{ on := 9, ground := Ground.data }, { on := 7, ground := Ground.data }, { on := 7, ground := Ground.chain }, { on := 0, ground := Ground.phase }, { on := 1, ground := Ground.phase }, { on := 2, ground := Ground.phase }, { on := 3, ground := Ground.phase }, { on := 4, ground := Ground.phase }, { on := 5, ground := Ground.phase }, { on := 6, ground := Ground.phase }, { on := 7, ground := Ground.phase }], guard := none } : Oper)) rfl (fun KK hKK => ?_) AllReadyH.nil
    have x0 := D3.out.blk.cell (i := 0) rfl
    have f0 := D3.out.blk.free 0
    go_simp
    have D4 := Lib.hid D3.out.store
    clear x0 f0
    generalize World.setCell y3 ⟨wb, 0, none⟩ _ = y4 at D4 ⊢
    refine hKK.out _ _ (D4.out.bel) (fun hH4 => ?_)
    clear hKK KK
    try simp only [Act.put, List.setIfInBounds_toArray, List.set_cons_zero, List.set_cons_succ]
    refine wpAnyH_done (by kernel_rfl) ?_ _
    (try go_wp2)
    go_end0
    exact ⟨rfl, ⟨A3, c3, D4.out.blk, D4.out.own⟩, D4.out.bel, D4.out.kt⟩
  refine AllReadyH.cons (o := ({ dst := some 10, op := Op.call { callee := Callee.value (Operand.func 116), args := #[Operand.const (Value.slice none 0 0), Operand.tmp 9], argTypes := #[56, 4] }, type := 56, pos := "bytes.go:15", after := #[{ on := 5, ground := Ground.data }], guard := none } : Oper)) rfl (fun KK hKK => ?_) AllReadyH.nil
  go_simp
  (with_reducible refine (HG.out y0 D0.out.bel).mono ?_)
  rintro e0 y1 ⟨A2, c2, rfl, hs, ho, hb⟩
  have S2 := Lib.hid hs
  have D1 := Lib.hid (D0.out.call hb)
  clear hs ho hb
  refine hKK.out _ _ (D1.out.bel) (fun hH1 => ?_)
  clear hKK KK
  try simp only [Act.put, List.setIfInBounds_toArray, List.set_cons_zero, List.set_cons_succ]
  refine wpAnyH_ready (rs := [4]) (by kernel_rfl) (by simp) ?_
  refine AllReadyH.cons (o := ({ dst := some 8, op := Op.load 56 (Operand.tmp 7), type := 56, pos := "bytes.go:15", after := #[{ on := 3, ground := Ground.data }], guard := none } : Oper)) rfl (fun KK hKK => ?_) AllReadyH.nil
  have x0 := D1.out.blk.cell (i := 0) rfl
  go_simp
  clear x0
  have D2 := D1
  refine hKK.out _ _ (D2.out.bel) (fun hH2 => ?_)
  clear hKK KK
  try simp only [Act.put, List.setIfInBounds_toArray, List.set_cons_zero, List.set_cons_succ]
  refine wpAnyH_ready (rs := [7]) (by kernel_rfl) (by simp) ?_
  refine AllReadyH.cons (o := ({ dst := some 11, op := Op.call { callee := Callee.builtin Builtin.append, args := #[Operand.tmp 8, Operand.tmp 10], argTypes := #[56, 56] }, type := 56, pos := "bytes.go:15", after := #[{ on := 4, ground := Ground.data }, { on := 6, ground := Ground.data }, { on := 6, ground := Ground.chain }], guard := none } : Oper)) rfl (fun KK hKK => ?_) AllReadyH.nil
  refine step_bytes rfl (.tmp 8) (.tmp 10) rfl rfl A2 c2 z rfl D2.out S2.out HLN.out zs2 HZ2.out ?_
  intro A3 c3 y3 hws
  have D3 := Lib.hid hws
  clear hws
  refine hKK.out _ _ (D3.out.bel) (fun hH3 => ?_)
  clear hKK KK
  try simp only [Act.put, List.setIfInBounds_toArray, List.set_cons_zero, List.set_cons_succ]
  refine wpAnyH_take (i := 8) (oi := ({ dst := some 12, op := Op.nilCheck (Operand.tmp 4), type := 0, pos := "bytes.go:15", after := #[{ on := 0, ground := Ground.data }, { on := 0, ground := Ground.phase }, { on := 1, ground := Ground.phase }, { on := 2, ground := Ground.phase }, { on := 3, ground := Ground.phase }, { on := 4, ground := Ground.phase }, { on := 5, ground := Ground.phase }, { on := 6, ground := Ground.phase }, { on := 7, ground := Ground.phase }], guard := none } : Oper)) (v := ?hv26) rfl (by kernel_rfl) (by kernel_rfl) (by kernel_rfl) (fun _ _ _ h => h) (Or.inl ⟨by rfl, ?hy26⟩) (by assumption) ?hr26
  case hy26 => (intro w hSw; (try dsimp only at hSw); go_simp; (try with_reducible rfl))
  try simp only [Act.put, List.setIfInBounds_toArray, List.set_cons_zero, List.set_cons_succ]
  refine wpAnyH_take (i := 9) (oi := ({ dst := some 13, op := Op.fieldAddr 78 (Operand.tmp 12) 0, type := 0, pos := "bytes.go:15", after := #[{ on := 8, ground := Ground.data }, { on := 0, ground := Ground.phase }, { on := 1, ground := Ground.phase }, { on := 2, ground := Ground.phase }, { on := 3, ground := Ground.phase }, { on := 4, ground := Ground.phase }, { on := 5, ground := Ground.phase }, { on := 6, ground := Ground.phase }, { on := 7, ground := Ground.phase }], guard := none } : Oper)) (v := ?hv27) rfl (by kernel_rfl) (by kernel_rfl) (by kernel_rfl) (fun _ _ _ h => h) (Or.inl ⟨by rfl, ?hy27⟩) (by assumption) ?hr27
  case hy27 => (intro w hSw; (try dsimp only at hSw); go_simp; (try with_reducible rfl))
  try simp only [Act.put, List.setIfInBounds_toArray, List.set_cons_zero, List.set_cons_succ]
  refine wpAnyH_ready (rs := [10]) (by kernel_rfl) (by simp) ?_
  refine AllReadyH.cons (o := ({ dst := none, op := Op.store 56 (Operand.tmp 13) (Operand.tmp 11), type := 0, pos := "bytes.go:15", after := #[{ on := 9, ground := Ground.data }, { on := 7, ground := Ground.data }, { on := 7, ground := Ground.chain }, { on := 0, ground := Ground.phase }, { on := 1, ground := Ground.phase }, { on := 2, ground := Ground.phase }, { on := 3, ground := Ground.phase }, { on := 4, ground := Ground.phase }, { on := 5, ground := Ground.phase }, { on := 6, ground := Ground.phase }, { on := 7, ground := Ground.phase }], guard := none } : Oper)) rfl (fun KK hKK => ?_) AllReadyH.nil
  have x0 := D3.out.blk.cell (i := 0) rfl
  have f0 := D3.out.blk.free 0
  go_simp
  have D4 := Lib.hid D3.out.store
  clear x0 f0
  generalize World.setCell y3 ⟨wb, 0, none⟩ _ = y4 at D4 ⊢
  refine hKK.out _ _ (D4.out.bel) (fun hH4 => ?_)
  clear hKK KK
  try simp only [Act.put, List.setIfInBounds_toArray, List.set_cons_zero, List.set_cons_succ]
  refine wpAnyH_done (by kernel_rfl) ?_ _
  (try go_wp2)
  go_end0
  exact ⟨rfl, ⟨A3, c3, D4.out.blk, D4.out.own⟩, D4.out.bel, D4.out.kt⟩
set_option maxHeartbeats 8000000 in
theorem wrefs (wb : Nat) (A : Option Addr) (c : Nat) (zs : List Int) (AL : Option Addr) (cL : Nat) (l : List Int) (w : World) (h : Wr wb A c zs w) (hl : zs.length ≤ 650000) (hi : ∀ y, Below wb w y → Ins y AL l.length cL l) (hn : l.length ≤ 100) : Calls Tryz.prog 68 #[.pointer (some ⟨wb, 0, none⟩), .slice AL l.length cL] w (WrP wb (zs ++ encJ l) w) := by
  obtain ⟨z, hz⟩ : ∃ z, encJ l = z := ⟨_, rfl⟩
  have HW := Lib.hid (show WS w wb (.slice A zs.length c) (.slice A zs.length c) zs w from ⟨h.1, h.2, Below.refl _ _, KT.refl _ _⟩)
  have HG := Lib.hid (fun y (hbl : Below wb w y) => pJ AL cL l y (hi y hbl) hn)
  rw [hz] at HG
  unfold SlP at HG
  have HLN := Lib.hid (show zs.length + z.length ≤ 2000000 by rw [← hz]; have h1 := (encJ_bd (hi w (Below.refl _ _)).fit hn).2; omega)
  rw [hz]
  obtain ⟨zs2, hz2⟩ : ∃ zs2, zs2 = zs ++ z := ⟨_, rfl⟩
  have HZ2 := Lib.hid hz2
  rw [← hz2]
  clear h hz hz2 hl hi hn
  unfold WrP
  go_enter Tryz.func68, Tryz.ntmps68
  refine wp_region_held_drew (S := (fun y => Below wb w y)) (by kernel_rfl) ((Below.refl wb w).drew) (fun hH0 => ?_)
  have D0 := Lib.hid HW.out.drew
  generalize World.drew w = y0 at hH0 D0 ⊢
  refine wpAnyH_take (i := 0) (oi := ({ dst := some 4, op := Op.move (Operand.tmp 0), type := 76, pos := "bytes.go:16", after := #[], guard := none } : Oper)) (v := ?hv28) rfl (by kernel_rfl) (by kernel_rfl) (by kernel_rfl) (fun _ _ _ h => h) (Or.inl ⟨by rfl, ?hy28⟩) (by assumption) ?hr28
  case hy28 => (intro w hSw; (try dsimp only at hSw); go_simp; (try with_reducible rfl))
  try simp only [Act.put, List.setIfInBounds_toArray, List.set_cons_zero, List.set_cons_succ]
  refine wpAnyH_take (i := 1) (oi := ({ dst := some 5, op := Op.move (Operand.tmp 0), type := 76, pos := "bytes.go:16", after := #[], guard := none } : Oper)) (v := ?hv29) rfl (by kernel_rfl) (by kernel_rfl) (by kernel_rfl) (fun _ _ _ h => h) (Or.inl ⟨by rfl, ?hy29⟩) (by assumption) ?hr29
  case hy29 => (intro w hSw; (try dsimp only at hSw); go_simp; (try with_reducible rfl))
  try simp only [Act.put, List.setIfInBounds_toArray, List.set_cons_zero, List.set_cons_succ]
  refine wpAnyH_take (i := 2) (oi := ({ dst := some 6, op := Op.nilCheck (Operand.tmp 5), type := 0, pos := "bytes.go:16", after := #[{ on := 1, ground := Ground.data }], guard := none } : Oper)) (v := ?hv30) rfl (by kernel_rfl) (by kernel_rfl) (by kernel_rfl) (fun _ _ _ h => h) (Or.inl ⟨by rfl, ?hy30⟩) (by assumption) ?hr30
  case hy30 => (intro w hSw; (try dsimp only at hSw); go_simp; (try with_reducible rfl))
  try simp only [Act.put, List.setIfInBounds_toArray, List.set_cons_zero, List.set_cons_succ]
  refine wpAnyH_take (i := 3) (oi := ({ dst := some 7, op := Op.fieldAddr 78 (Operand.tmp 6) 0, type := 0, pos := "bytes.go:16", after := #[{ on := 2, ground := Ground.data }], guard := none } : Oper)) (v := ?hv31) rfl (by kernel_rfl) (by kernel_rfl) (by kernel_rfl) (fun _ _ _ h => h) (Or.inl ⟨by rfl, ?hy31⟩) (by assumption) ?hr31
  case hy31 => (intro w hSw; (try dsimp only at hSw); go_simp; (try with_reducible rfl))
  try simp only [Act.put, List.setIfInBounds_toArray, List.set_cons_zero, List.set_cons_succ]
  refine wpAnyH_take (i := 5) (oi := ({ dst := some 9, op := Op.move (Operand.tmp 1), type := 23, pos := "bytes.go:16", after := #[], guard := none } : Oper)) (v := ?hv32) rfl (by kernel_rfl) (by kernel_rfl) (by kernel_rfl) (fun _ _ _ h => h) (Or.inl ⟨by rfl, ?hy32⟩) (by assumption) ?hr32
  case hy32 => (intro w hSw; (try dsimp only at hSw); go_simp; (try with_reducible rfl))
  try simp only [Act.put, List.setIfInBounds_toArray, List.set_cons_zero, List.set_cons_succ]
  refine wpAnyH_ready (rs := [4, 6]) (by kernel_rfl) (by simp) ?_
  refine AllReadyH.cons (o := ({ dst := some 8, op := Op.load 56 (Operand.tmp 7), type := 56, pos := "bytes.go:16", after := #[{ on := 3, ground := Ground.data }], guard := none } : Oper)) rfl (fun KK hKK => ?_) ?_
  · have x0 := D0.out.blk.cell (i := 0) rfl
    go_simp
    clear x0
    have D1 := D0
    refine hKK.out _ _ (D1.out.bel) (fun hH1 => ?_)
    clear hKK KK
    try simp only [Act.put, List.setIfInBounds_toArray, List.set_cons_zero, List.set_cons_succ]
    refine wpAnyH_ready (rs := [6]) (by kernel_rfl) (by simp) ?_
    refine AllReadyH.cons (o := ({ dst := some 10, op := Op.call { callee := Callee.value (Operand.func 128), args := #[Operand.const (Value.slice none 0 0), Operand.tmp 9], argTypes := #[56, 23] }, type := 56, pos := "bytes.go:16", after := #[{ on := 5, ground := Ground.data }], guard := none } : Oper)) rfl (fun KK hKK => ?_) AllReadyH.nil
    go_simp
    (with_reducible refine (HG.out y0 D1.out.bel).mono ?_)
    rintro e0 y2 ⟨A2, c2, rfl, hs, ho, hb⟩
    have S2 := Lib.hid hs
    have D2 := Lib.hid (D1.out.call hb)
    clear hs ho hb
    refine hKK.out _ _ (D2.out.bel) (fun hH2 => ?_)
    clear hKK KK
    try simp only [Act.put, List.setIfInBounds_toArray, List.set_cons_zero, List.set_cons_succ]
    refine wpAnyH_ready (rs := [7]) (by kernel_rfl) (by simp) ?_
    refine AllReadyH.cons (o := ({ dst := some 11, op := Op.call { callee := Callee.builtin Builtin.append, args := #[Operand.tmp 8, Operand.tmp 10], argTypes := #[56, 56] }, type := 56, pos := "bytes.go:16", after := #[{ on := 4, ground := Ground.data }, { on := 6, ground := Ground.data }, { on := 6, ground := Ground.chain }], guard := none } : Oper)) rfl (fun KK hKK => ?_) AllReadyH.nil
    refine step_bytes rfl (.tmp 8) (.tmp 10) rfl rfl A2 c2 z rfl D2.out S2.out HLN.out zs2 HZ2.out ?_
    intro A3 c3 y3 hws
    have D3 := Lib.hid hws
    clear hws
    refine hKK.out _ _ (D3.out.bel) (fun hH3 => ?_)
    clear hKK KK
    try simp only [Act.put, List.setIfInBounds_toArray, List.set_cons_zero, List.set_cons_succ]
    refine wpAnyH_take (i := 8) (oi := ({ dst := some 12, op := Op.nilCheck (Operand.tmp 4), type := 0, pos := "bytes.go:16", after := #[{ on := 0, ground := Ground.data }, { on := 0, ground := Ground.phase }, { on := 1, ground := Ground.phase }, { on := 2, ground := Ground.phase }, { on := 3, ground := Ground.phase }, { on := 4, ground := Ground.phase }, { on := 5, ground := Ground.phase }, { on := 6, ground := Ground.phase }, { on := 7, ground := Ground.phase }], guard := none } : Oper)) (v := ?hv33) rfl (by kernel_rfl) (by kernel_rfl) (by kernel_rfl) (fun _ _ _ h => h) (Or.inl ⟨by rfl, ?hy33⟩) (by assumption) ?hr33
    case hy33 => (intro w hSw; (try dsimp only at hSw); go_simp; (try with_reducible rfl))
    try simp only [Act.put, List.setIfInBounds_toArray, List.set_cons_zero, List.set_cons_succ]
    refine wpAnyH_take (i := 9) (oi := ({ dst := some 13, op := Op.fieldAddr 78 (Operand.tmp 12) 0, type := 0, pos := "bytes.go:16", after := #[{ on := 8, ground := Ground.data }, { on := 0, ground := Ground.phase }, { on := 1, ground := Ground.phase }, { on := 2, ground := Ground.phase }, { on := 3, ground := Ground.phase }, { on := 4, ground := Ground.phase }, { on := 5, ground := Ground.phase }, { on := 6, ground := Ground.phase }, { on := 7, ground := Ground.phase }], guard := none } : Oper)) (v := ?hv34) rfl (by kernel_rfl) (by kernel_rfl) (by kernel_rfl) (fun _ _ _ h => h) (Or.inl ⟨by rfl, ?hy34⟩) (by assumption) ?hr34
    case hy34 => (intro w hSw; (try dsimp only at hSw); go_simp; (try with_reducible rfl))
    try simp only [Act.put, List.setIfInBounds_toArray, List.set_cons_zero, List.set_cons_succ]
    refine wpAnyH_ready (rs := [10]) (by kernel_rfl) (by simp) ?_
    refine AllReadyH.cons (o := ({ dst := none, op := Op.store 56 (Operand.tmp 13) (Operand.tmp 11), type := 0, pos := "bytes.go:16", after := #[{ on := 9, ground := Ground.data }, { on := 7, ground := Ground.data }, { on := 7, ground := Ground.chain }, { on := 0, ground := Ground.phase }, { on := 1, ground := Ground.phase }, { on := 2, ground := Ground.phase }, { on := 3, ground := Ground.phase }, { on := 4, ground := Ground.phase }, { on := 5, ground := Ground.phase }, { on := 6, ground := Ground.phase }, { on := 7, ground := Ground.phase }], guard := none } : Oper)) rfl (fun KK hKK => ?_) AllReadyH.nil
    have x0 := D3.out.blk.cell (i := 0) rfl
    have f0 := D3.out.blk.free 0
    go_simp
    have D4 := Lib.hid D3.out.store
    clear x0 f0
    generalize World.setCell y3 ⟨wb, 0, none⟩ _ = y4 at D4 ⊢
    refine hKK.out _ _ (D4.out.bel) (fun hH4 => ?_)
    clear hKK KK
    try simp only [Act.put, List.setIfInBounds_toArray, List.set_cons_zero, List.set_cons_succ]
    refine wpAnyH_done (by kernel_rfl) ?_ _
    (try go_wp2)
    go_end0
    exact ⟨rfl, ⟨A3, c3, D4.out.blk, D4.out.own⟩, D4.out.bel, D4.out.kt⟩
  refine AllReadyH.cons (o := ({ dst := some 10, op := Op.call { callee := Callee.value (Operand.func 128), args := #[Operand.const (Value.slice none 0 0), Operand.tmp 9], argTypes := #[56, 23] }, type := 56, pos := "bytes.go:16", after := #[{ on := 5, ground := Ground.data }], guard := none } : Oper)) rfl (fun KK hKK => ?_) AllReadyH.nil
  go_simp
  (with_reducible refine (HG.out y0 D0.out.bel).mono ?_)
  rintro e0 y1 ⟨A2, c2, rfl, hs, ho, hb⟩
  have S2 := Lib.hid hs
  have D1 := Lib.hid (D0.out.call hb)
  clear hs ho hb
  refine hKK.out _ _ (D1.out.bel) (fun hH1 => ?_)
  clear hKK KK
  try simp only [Act.put, List.setIfInBounds_toArray, List.set_cons_zero, List.set_cons_succ]
  refine wpAnyH_ready (rs := [4]) (by kernel_rfl) (by simp) ?_
  refine AllReadyH.cons (o := ({ dst := some 8, op := Op.load 56 (Operand.tmp 7), type := 56, pos := "bytes.go:16", after := #[{ on := 3, ground := Ground.data }], guard := none } : Oper)) rfl (fun KK hKK => ?_) AllReadyH.nil
  have x0 := D1.out.blk.cell (i := 0) rfl
  go_simp
  clear x0
  have D2 := D1
  refine hKK.out _ _ (D2.out.bel) (fun hH2 => ?_)
  clear hKK KK
  try simp only [Act.put, List.setIfInBounds_toArray, List.set_cons_zero, List.set_cons_succ]
  refine wpAnyH_ready (rs := [7]) (by kernel_rfl) (by simp) ?_
  refine AllReadyH.cons (o := ({ dst := some 11, op := Op.call { callee := Callee.builtin Builtin.append, args := #[Operand.tmp 8, Operand.tmp 10], argTypes := #[56, 56] }, type := 56, pos := "bytes.go:16", after := #[{ on := 4, ground := Ground.data }, { on := 6, ground := Ground.data }, { on := 6, ground := Ground.chain }], guard := none } : Oper)) rfl (fun KK hKK => ?_) AllReadyH.nil
  refine step_bytes rfl (.tmp 8) (.tmp 10) rfl rfl A2 c2 z rfl D2.out S2.out HLN.out zs2 HZ2.out ?_
  intro A3 c3 y3 hws
  have D3 := Lib.hid hws
  clear hws
  refine hKK.out _ _ (D3.out.bel) (fun hH3 => ?_)
  clear hKK KK
  try simp only [Act.put, List.setIfInBounds_toArray, List.set_cons_zero, List.set_cons_succ]
  refine wpAnyH_take (i := 8) (oi := ({ dst := some 12, op := Op.nilCheck (Operand.tmp 4), type := 0, pos := "bytes.go:16", after := #[{ on := 0, ground := Ground.data }, { on := 0, ground := Ground.phase }, { on := 1, ground := Ground.phase }, { on := 2, ground := Ground.phase }, { on := 3, ground := Ground.phase }, { on := 4, ground := Ground.phase }, { on := 5, ground := Ground.phase }, { on := 6, ground := Ground.phase }, { on := 7, ground := Ground.phase }], guard := none } : Oper)) (v := ?hv35) rfl (by kernel_rfl) (by kernel_rfl) (by kernel_rfl) (fun _ _ _ h => h) (Or.inl ⟨by rfl, ?hy35⟩) (by assumption) ?hr35
  case hy35 => (intro w hSw; (try dsimp only at hSw); go_simp; (try with_reducible rfl))
  try simp only [Act.put, List.setIfInBounds_toArray, List.set_cons_zero, List.set_cons_succ]
  refine wpAnyH_take (i := 9) (oi := ({ dst := some 13, op := Op.fieldAddr 78 (Operand.tmp 12) 0, type := 0, pos := "bytes.go:16", after := #[{ on := 8, ground := Ground.data }, { on := 0, ground := Ground.phase }, { on := 1, ground := Ground.phase }, { on := 2, ground := Ground.phase }, { on := 3, ground := Ground.phase }, { on := 4, ground := Ground.phase }, { on := 5, ground := Ground.phase }, { on := 6, ground := Ground.phase }, { on := 7, ground := Ground.phase }], guard := none } : Oper)) (v := ?hv36) rfl (by kernel_rfl) (by kernel_rfl) (by kernel_rfl) (fun _ _ _ h => h) (Or.inl ⟨by rfl, ?hy36⟩) (by assumption) ?hr36
  case hy36 => (intro w hSw; (try dsimp only at hSw); go_simp; (try with_reducible rfl))
  try simp only [Act.put, List.setIfInBounds_toArray, List.set_cons_zero, List.set_cons_succ]
  refine wpAnyH_ready (rs := [10]) (by kernel_rfl) (by simp) ?_
  refine AllReadyH.cons (o := ({ dst := none, op := Op.store 56 (Operand.tmp 13) (Operand.tmp 11), type := 0, pos := "bytes.go:16", after := #[{ on := 9, ground := Ground.data }, { on := 7, ground := Ground.data }, { on := 7, ground := Ground.chain }, { on := 0, ground := Ground.phase }, { on := 1, ground := Ground.phase }, { on := 2, ground := Ground.phase }, { on := 3, ground := Ground.phase }, { on := 4, ground := Ground.phase }, { on := 5, ground := Ground.phase }, { on := 6, ground := Ground.phase }, { on := 7, ground := Ground.phase }], guard := none } : Oper)) rfl (fun KK hKK => ?_) AllReadyH.nil
  have x0 := D3.out.blk.cell (i := 0) rfl
  have f0 := D3.out.blk.free 0
  go_simp
  have D4 := Lib.hid D3.out.store
  clear x0 f0
  generalize World.setCell y3 ⟨wb, 0, none⟩ _ = y4 at D4 ⊢
  refine hKK.out _ _ (D4.out.bel) (fun hH4 => ?_)
  clear hKK KK
  try simp only [Act.put, List.setIfInBounds_toArray, List.set_cons_zero, List.set_cons_succ]
  refine wpAnyH_done (by kernel_rfl) ?_ _
  (try go_wp2)
  go_end0
  exact ⟨rfl, ⟨A3, c3, D4.out.blk, D4.out.own⟩, D4.out.bel, D4.out.kt⟩
end Go.Proofs.YtablocpcgknmaaaGreatDoor
