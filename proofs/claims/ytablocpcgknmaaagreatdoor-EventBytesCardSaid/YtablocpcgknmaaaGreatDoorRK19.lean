/- The copying of a content's fields. No condition. -/
import Derived.Test.YtablocpcgknmaaaGreatDoorRK4
import Derived.Test.YtablocpcgknmaaaGreatDoorRPm
namespace Go.Proofs.YtablocpcgknmaaaGreatDoor
open Go.Lib (hid)
open Go Go.RowKit
set_option linter.unusedVariables false
set_option linter.unusedSimpArgs false
set_option maxRecDepth 100000

/-- Its lists are not in the block g. -/
structure ApC (g : Nat) (C : Cn) (a : Ads) : Prop where
 al : 0 < C.al.length → ∀ b off, a.aA = some ⟨b, off, none⟩ → b ≠ g
 dn : 0 < C.dn.length → ∀ b off, a.dA = some ⟨b, off, none⟩ → b ≠ g
 us : 0 < C.us.length → ∀ b off, a.uA = some ⟨b, off, none⟩ → b ≠ g
 ks : 0 < C.ks.length → ∀ b off, a.kA = some ⟨b, off, none⟩ → b ≠ g
/-- Its lists are in blocks past g. -/
structure GtC (g : Nat) (C : Cn) (a : Ads) : Prop where
 al : 0 < C.al.length → ∀ b off, a.aA = some ⟨b, off, none⟩ → g < b
 dn : 0 < C.dn.length → ∀ b off, a.dA = some ⟨b, off, none⟩ → g < b
 us : 0 < C.us.length → ∀ b off, a.uA = some ⟨b, off, none⟩ → g < b
 ks : 0 < C.ks.length → ∀ b off, a.kA = some ⟨b, off, none⟩ → g < b
theorem GtC.ap {g g' : Nat} {C : Cn} {a : Ads} (h : GtC g C a) (hg : g' ≤ g) : ApC g' C a :=
 ⟨fun h0 b off e => Nat.ne_of_gt (Nat.lt_of_le_of_lt hg (h.al h0 b off e)), fun h0 b off e => Nat.ne_of_gt (Nat.lt_of_le_of_lt hg (h.dn h0 b off e)), fun h0 b off e => Nat.ne_of_gt (Nat.lt_of_le_of_lt hg (h.us h0 b off e)), fun h0 b off e => Nat.ne_of_gt (Nat.lt_of_le_of_lt hg (h.ks h0 b off e))⟩
theorem New.gt {w : World} {n : Nat} {A : Option Addr} (h : New w n A) {t : Nat} (ht : t < w.heap.size) : 0 < n → ∀ b off, A = some ⟨b, off, none⟩ → t < b := fun h0 b off e => Nat.lt_of_lt_of_le ht (h h0 b off e)
/-- A content in a block of its own. -/
structure Lf (w : World) (b : Nat) (L : Cn) (aL : Ads) : Prop where
 blk : Blk w b (ccs L aL) 30
 is : IsC w L aL
 gt : GtC b L aL
theorem Lf.below {w w1 : World} {b : Nat} {L : Cn} {aL : Ads} (h : Lf w b L aL) (hb : Below w.heap.size w w1) : Lf w1 b L aL := ⟨h.blk.below hb, h.is.below hb, h.gt⟩
theorem IsC.set_tx {w : World} {L : Cn} {aL : Ads} (h : IsC w L aL) (p : Addr) (v : Value) (ha : ApC p.block L aL) {t : ByteArray} (ht : t.size ≤ 9223372036854775807) : IsC (w.setCell p v) { L with tx := t } aL :=
 ⟨h.al.other p v ha.al, h.dn.other p v ha.dn, ⟨h.lv.us.other p v ha.us, h.lv.ks.other p v ha.ks, h.lv.fu, h.lv.fk, h.lv.nm⟩, ht, h.via, h.n, h.tg⟩
theorem IsC.set_via {w : World} {L : Cn} {aL : Ads} (h : IsC w L aL) (p : Addr) (v : Value) (ha : ApC p.block L aL) {t : ByteArray} (ht : t.size ≤ 9223372036854775807) : IsC (w.setCell p v) { L with via := t } aL :=
 ⟨h.al.other p v ha.al, h.dn.other p v ha.dn, ⟨h.lv.us.other p v ha.us, h.lv.ks.other p v ha.ks, h.lv.fu, h.lv.fk, h.lv.nm⟩, h.tx, ht, h.n, h.tg⟩
theorem IsC.set_n {w : World} {L : Cn} {aL : Ads} (h : IsC w L aL) (p : Addr) (v : Value) (ha : ApC p.block L aL) {t : Int} (ht : i64B t) : IsC (w.setCell p v) { L with n := t } aL :=
 ⟨h.al.other p v ha.al, h.dn.other p v ha.dn, ⟨h.lv.us.other p v ha.us, h.lv.ks.other p v ha.ks, h.lv.fu, h.lv.fk, h.lv.nm⟩, h.tx, h.via, ht, h.tg⟩
theorem IsC.set_tg {w : World} {L : Cn} {aL : Ads} (h : IsC w L aL) (p : Addr) (v : Value) (ha : ApC p.block L aL) {t : Int} (ht : i64B t) : IsC (w.setCell p v) { L with tg := t } aL :=
 ⟨h.al.other p v ha.al, h.dn.other p v ha.dn, ⟨h.lv.us.other p v ha.us, h.lv.ks.other p v ha.ks, h.lv.fu, h.lv.fk, h.lv.nm⟩, h.tx, h.via, h.n, ht⟩
theorem IsC.set_th {w : World} {L : Cn} {aL : Ads} (h : IsC w L aL) (p : Addr) (v : Value) (ha : ApC p.block L aL) {t : Bool} : IsC (w.setCell p v) { L with th := t } aL :=
 ⟨h.al.other p v ha.al, h.dn.other p v ha.dn, ⟨h.lv.us.other p v ha.us, h.lv.ks.other p v ha.ks, h.lv.fu, h.lv.fk, h.lv.nm⟩, h.tx, h.via, h.n, h.tg⟩
theorem IsC.set_al {w : World} {L : Cn} {aL : Ads} (h : IsC w L aL) (p : Addr) (v : Value) (ha : ApC p.block L aL) {zs : List ByteArray} {A : Option Addr} {c : Nat} (ht : Txs w A zs.length c zs) (hn : 0 < zs.length → ∀ b off, A = some ⟨b, off, none⟩ → b ≠ p.block) : IsC (w.setCell p v) { L with al := zs } { aL with aA := A, aC := c } :=
 ⟨ht.other p v hn, h.dn.other p v ha.dn, ⟨h.lv.us.other p v ha.us, h.lv.ks.other p v ha.ks, h.lv.fu, h.lv.fk, h.lv.nm⟩, h.tx, h.via, h.n, h.tg⟩
theorem IsC.set_dn {w : World} {L : Cn} {aL : Ads} (h : IsC w L aL) (p : Addr) (v : Value) (ha : ApC p.block L aL) {zs : List ByteArray} {A : Option Addr} {c : Nat} (ht : Txs w A zs.length c zs) (hn : 0 < zs.length → ∀ b off, A = some ⟨b, off, none⟩ → b ≠ p.block) : IsC (w.setCell p v) { L with dn := zs } { aL with dA := A, dC := c } :=
 ⟨h.al.other p v ha.al, ht.other p v hn, ⟨h.lv.us.other p v ha.us, h.lv.ks.other p v ha.ks, h.lv.fu, h.lv.fk, h.lv.nm⟩, h.tx, h.via, h.n, h.tg⟩
theorem GtC.f_tx {g : Nat} {L : Cn} {aL : Ads} (h : GtC g L aL) {t : ByteArray} : GtC g { L with tx := t } aL := ⟨h.al, h.dn, h.us, h.ks⟩
theorem GtC.f_via {g : Nat} {L : Cn} {aL : Ads} (h : GtC g L aL) {t : ByteArray} : GtC g { L with via := t } aL := ⟨h.al, h.dn, h.us, h.ks⟩
theorem GtC.f_n {g : Nat} {L : Cn} {aL : Ads} (h : GtC g L aL) {t : Int} : GtC g { L with n := t } aL := ⟨h.al, h.dn, h.us, h.ks⟩
theorem GtC.f_tg {g : Nat} {L : Cn} {aL : Ads} (h : GtC g L aL) {t : Int} : GtC g { L with tg := t } aL := ⟨h.al, h.dn, h.us, h.ks⟩
theorem GtC.f_th {g : Nat} {L : Cn} {aL : Ads} (h : GtC g L aL) {t : Bool} : GtC g { L with th := t } aL := ⟨h.al, h.dn, h.us, h.ks⟩
theorem GtC.f_al {g : Nat} {L : Cn} {aL : Ads} (h : GtC g L aL) {zs : List ByteArray} {A : Option Addr} {c : Nat} (hn : 0 < zs.length → ∀ b off, A = some ⟨b, off, none⟩ → g < b) : GtC g { L with al := zs } { aL with aA := A, aC := c } := ⟨hn, h.dn, h.us, h.ks⟩
theorem GtC.f_dn {g : Nat} {L : Cn} {aL : Ads} (h : GtC g L aL) {zs : List ByteArray} {A : Option Addr} {c : Nat} (hn : 0 < zs.length → ∀ b off, A = some ⟨b, off, none⟩ → g < b) : GtC g { L with dn := zs } { aL with dA := A, dC := c } := ⟨h.al, hn, h.us, h.ks⟩
/-- What copying a field gives. -/
def CpP (b : Nat) (w : World) (L : Cn) (e : Ending) (w' : World) : Prop := e = .returned (.tuple #[]) ∧ (∃ aL, Lf w' b L aL) ∧ Below b w w'
set_option maxHeartbeats 4000000 in
theorem cp0 (C : Cn) (a : Ads) (L : Cn) (aL : Ads) (b : Nat) (w : World) (h : Lf w b L aL) (hc : IsC w C a) : Calls Tryz.prog 149 #[.pointer (some ⟨b, 0, none⟩), .agg (ccs C a).toArray] w (CpP b w { L with tx := C.tx }) := by
 unfold CpP
 obtain ⟨tx, n, tg, th, via, al, dn, us, ks, d, x3, x4, x5, x6, x7, x8⟩ := C
 obtain ⟨aA, aC, dA, dC, uA, uC, kA, kC⟩ := a
 have hlt := h.blk.lt
 have BA := hid ((Below.refl w.heap.size w).alloc (Nat.le_refl _) (.cells #[.string tx, .int .i64 n, .int .i64 tg, .bool th, .string via, .slice aA al.length aC, .slice dA dn.length dC, .slice uA us.length uC, .slice kA ks.length kC, .int .i64 d, .int .i64 x3, .int .i64 x4, .int .i64 x5, .int .i64 x6, .int .i64 x7, .int .i64 x8] 30))
 have X0 := hid (blk_new w [.string tx, .int .i64 n, .int .i64 tg, .bool th, .string via, .slice aA al.length aC, .slice dA dn.length dC, .slice uA us.length uC, .slice kA ks.length kC, .int .i64 d, .int .i64 x3, .int .i64 x4, .int .i64 x5, .int .i64 x6, .int .i64 x7, .int .i64 x8] 30)
 have L0 := hid (h.blk.alloc (.cells #[.string tx, .int .i64 n, .int .i64 tg, .bool th, .string via, .slice aA al.length aC, .slice dA dn.length dC, .slice uA us.length uC, .slice kA ks.length kC, .int .i64 d, .int .i64 x3, .int .i64 x4, .int .i64 x5, .int .i64 x6, .int .i64 x7, .int .i64 x8] 30))
 have I0 := hid (h.is.below BA.out)
 have HA := hid (h.gt.ap (Nat.le_refl b))
 have HG := hid h.gt
 have HC := hid hc
 have ht := hc.tx
 clear h hc
 generalize hW : w.alloc (.cells #[.string tx, .int .i64 n, .int .i64 tg, .bool th, .string via, .slice aA al.length aC, .slice dA dn.length dC, .slice uA us.length uC, .slice kA ks.length kC, .int .i64 d, .int .i64 x3, .int .i64 x4, .int .i64 x5, .int .i64 x6, .int .i64 x7, .int .i64 x8] 30) = W0 at BA X0 L0 I0
 have y := X0.out.cell (i := 0) rfl
 have l := L0.out.cell (i := 0) rfl
 have z := L0.out.free 0
 show Calls Tryz.prog 149 #[.pointer (some ⟨b, 0, none⟩), .agg #[.string tx, .int .i64 n, .int .i64 tg, .bool th, .string via, .slice aA al.length aC, .slice dA dn.length dC, .slice uA us.length uC, .slice kA ks.length kC, .int .i64 d, .int .i64 x3, .int .i64 x4, .int .i64 x5, .int .i64 x6, .int .i64 x7, .int .i64 x8]] w _
 go_enter Tryz.func149, Tryz.ntmps149
 go_wp2
 go_end0
 exact ⟨rfl, ⟨aL, L0.out.set 0 (.string tx), I0.out.set_tx ⟨b, 0, none⟩ (.string tx) HA.out ht, HG.out.f_tx⟩, (BA.out.mono (Nat.le_of_lt hlt)).setCell (p := ⟨b, 0, none⟩) (Nat.le_refl _) _⟩
set_option maxHeartbeats 4000000 in
theorem cp1 (C : Cn) (a : Ads) (L : Cn) (aL : Ads) (b : Nat) (w : World) (h : Lf w b L aL) (hc : IsC w C a) : Calls Tryz.prog 152 #[.pointer (some ⟨b, 0, none⟩), .agg (ccs C a).toArray] w (CpP b w { L with n := C.n }) := by
 unfold CpP
 obtain ⟨tx, n, tg, th, via, al, dn, us, ks, d, x3, x4, x5, x6, x7, x8⟩ := C
 obtain ⟨aA, aC, dA, dC, uA, uC, kA, kC⟩ := a
 have hlt := h.blk.lt
 have BA := hid ((Below.refl w.heap.size w).alloc (Nat.le_refl _) (.cells #[.string tx, .int .i64 n, .int .i64 tg, .bool th, .string via, .slice aA al.length aC, .slice dA dn.length dC, .slice uA us.length uC, .slice kA ks.length kC, .int .i64 d, .int .i64 x3, .int .i64 x4, .int .i64 x5, .int .i64 x6, .int .i64 x7, .int .i64 x8] 30))
 have X0 := hid (blk_new w [.string tx, .int .i64 n, .int .i64 tg, .bool th, .string via, .slice aA al.length aC, .slice dA dn.length dC, .slice uA us.length uC, .slice kA ks.length kC, .int .i64 d, .int .i64 x3, .int .i64 x4, .int .i64 x5, .int .i64 x6, .int .i64 x7, .int .i64 x8] 30)
 have L0 := hid (h.blk.alloc (.cells #[.string tx, .int .i64 n, .int .i64 tg, .bool th, .string via, .slice aA al.length aC, .slice dA dn.length dC, .slice uA us.length uC, .slice kA ks.length kC, .int .i64 d, .int .i64 x3, .int .i64 x4, .int .i64 x5, .int .i64 x6, .int .i64 x7, .int .i64 x8] 30))
 have I0 := hid (h.is.below BA.out)
 have HA := hid (h.gt.ap (Nat.le_refl b))
 have HG := hid h.gt
 have HC := hid hc
 have ht := hc.n
 clear h hc
 generalize hW : w.alloc (.cells #[.string tx, .int .i64 n, .int .i64 tg, .bool th, .string via, .slice aA al.length aC, .slice dA dn.length dC, .slice uA us.length uC, .slice kA ks.length kC, .int .i64 d, .int .i64 x3, .int .i64 x4, .int .i64 x5, .int .i64 x6, .int .i64 x7, .int .i64 x8] 30) = W0 at BA X0 L0 I0
 have y := X0.out.cell (i := 1) rfl
 have l := L0.out.cell (i := 1) rfl
 have z := L0.out.free 1
 show Calls Tryz.prog 152 #[.pointer (some ⟨b, 0, none⟩), .agg #[.string tx, .int .i64 n, .int .i64 tg, .bool th, .string via, .slice aA al.length aC, .slice dA dn.length dC, .slice uA us.length uC, .slice kA ks.length kC, .int .i64 d, .int .i64 x3, .int .i64 x4, .int .i64 x5, .int .i64 x6, .int .i64 x7, .int .i64 x8]] w _
 go_enter Tryz.func152, Tryz.ntmps152
 go_wp2
 go_end0
 exact ⟨rfl, ⟨aL, L0.out.set 1 (.int .i64 n), I0.out.set_n ⟨b, 1, none⟩ (.int .i64 n) HA.out ht, HG.out.f_n⟩, (BA.out.mono (Nat.le_of_lt hlt)).setCell (p := ⟨b, 1, none⟩) (Nat.le_refl _) _⟩
set_option maxHeartbeats 4000000 in
theorem cp2 (C : Cn) (a : Ads) (L : Cn) (aL : Ads) (b : Nat) (w : World) (h : Lf w b L aL) (hc : IsC w C a) : Calls Tryz.prog 155 #[.pointer (some ⟨b, 0, none⟩), .agg (ccs C a).toArray] w (CpP b w { L with tg := C.tg }) := by
 unfold CpP
 obtain ⟨tx, n, tg, th, via, al, dn, us, ks, d, x3, x4, x5, x6, x7, x8⟩ := C
 obtain ⟨aA, aC, dA, dC, uA, uC, kA, kC⟩ := a
 have hlt := h.blk.lt
 have BA := hid ((Below.refl w.heap.size w).alloc (Nat.le_refl _) (.cells #[.string tx, .int .i64 n, .int .i64 tg, .bool th, .string via, .slice aA al.length aC, .slice dA dn.length dC, .slice uA us.length uC, .slice kA ks.length kC, .int .i64 d, .int .i64 x3, .int .i64 x4, .int .i64 x5, .int .i64 x6, .int .i64 x7, .int .i64 x8] 30))
 have X0 := hid (blk_new w [.string tx, .int .i64 n, .int .i64 tg, .bool th, .string via, .slice aA al.length aC, .slice dA dn.length dC, .slice uA us.length uC, .slice kA ks.length kC, .int .i64 d, .int .i64 x3, .int .i64 x4, .int .i64 x5, .int .i64 x6, .int .i64 x7, .int .i64 x8] 30)
 have L0 := hid (h.blk.alloc (.cells #[.string tx, .int .i64 n, .int .i64 tg, .bool th, .string via, .slice aA al.length aC, .slice dA dn.length dC, .slice uA us.length uC, .slice kA ks.length kC, .int .i64 d, .int .i64 x3, .int .i64 x4, .int .i64 x5, .int .i64 x6, .int .i64 x7, .int .i64 x8] 30))
 have I0 := hid (h.is.below BA.out)
 have HA := hid (h.gt.ap (Nat.le_refl b))
 have HG := hid h.gt
 have HC := hid hc
 have ht := hc.tg
 clear h hc
 generalize hW : w.alloc (.cells #[.string tx, .int .i64 n, .int .i64 tg, .bool th, .string via, .slice aA al.length aC, .slice dA dn.length dC, .slice uA us.length uC, .slice kA ks.length kC, .int .i64 d, .int .i64 x3, .int .i64 x4, .int .i64 x5, .int .i64 x6, .int .i64 x7, .int .i64 x8] 30) = W0 at BA X0 L0 I0
 have y := X0.out.cell (i := 2) rfl
 have l := L0.out.cell (i := 2) rfl
 have z := L0.out.free 2
 show Calls Tryz.prog 155 #[.pointer (some ⟨b, 0, none⟩), .agg #[.string tx, .int .i64 n, .int .i64 tg, .bool th, .string via, .slice aA al.length aC, .slice dA dn.length dC, .slice uA us.length uC, .slice kA ks.length kC, .int .i64 d, .int .i64 x3, .int .i64 x4, .int .i64 x5, .int .i64 x6, .int .i64 x7, .int .i64 x8]] w _
 go_enter Tryz.func155, Tryz.ntmps155
 go_wp2
 go_end0
 exact ⟨rfl, ⟨aL, L0.out.set 2 (.int .i64 tg), I0.out.set_tg ⟨b, 2, none⟩ (.int .i64 tg) HA.out ht, HG.out.f_tg⟩, (BA.out.mono (Nat.le_of_lt hlt)).setCell (p := ⟨b, 2, none⟩) (Nat.le_refl _) _⟩
set_option maxHeartbeats 4000000 in
theorem cp3 (C : Cn) (a : Ads) (L : Cn) (aL : Ads) (b : Nat) (w : World) (h : Lf w b L aL) (hc : IsC w C a) : Calls Tryz.prog 158 #[.pointer (some ⟨b, 0, none⟩), .agg (ccs C a).toArray] w (CpP b w { L with th := C.th }) := by
 unfold CpP
 obtain ⟨tx, n, tg, th, via, al, dn, us, ks, d, x3, x4, x5, x6, x7, x8⟩ := C
 obtain ⟨aA, aC, dA, dC, uA, uC, kA, kC⟩ := a
 have hlt := h.blk.lt
 have BA := hid ((Below.refl w.heap.size w).alloc (Nat.le_refl _) (.cells #[.string tx, .int .i64 n, .int .i64 tg, .bool th, .string via, .slice aA al.length aC, .slice dA dn.length dC, .slice uA us.length uC, .slice kA ks.length kC, .int .i64 d, .int .i64 x3, .int .i64 x4, .int .i64 x5, .int .i64 x6, .int .i64 x7, .int .i64 x8] 30))
 have X0 := hid (blk_new w [.string tx, .int .i64 n, .int .i64 tg, .bool th, .string via, .slice aA al.length aC, .slice dA dn.length dC, .slice uA us.length uC, .slice kA ks.length kC, .int .i64 d, .int .i64 x3, .int .i64 x4, .int .i64 x5, .int .i64 x6, .int .i64 x7, .int .i64 x8] 30)
 have L0 := hid (h.blk.alloc (.cells #[.string tx, .int .i64 n, .int .i64 tg, .bool th, .string via, .slice aA al.length aC, .slice dA dn.length dC, .slice uA us.length uC, .slice kA ks.length kC, .int .i64 d, .int .i64 x3, .int .i64 x4, .int .i64 x5, .int .i64 x6, .int .i64 x7, .int .i64 x8] 30))
 have I0 := hid (h.is.below BA.out)
 have HA := hid (h.gt.ap (Nat.le_refl b))
 have HG := hid h.gt
 have HC := hid hc
 have ht := hc.n
 clear h hc
 generalize hW : w.alloc (.cells #[.string tx, .int .i64 n, .int .i64 tg, .bool th, .string via, .slice aA al.length aC, .slice dA dn.length dC, .slice uA us.length uC, .slice kA ks.length kC, .int .i64 d, .int .i64 x3, .int .i64 x4, .int .i64 x5, .int .i64 x6, .int .i64 x7, .int .i64 x8] 30) = W0 at BA X0 L0 I0
 have y := X0.out.cell (i := 3) rfl
 have l := L0.out.cell (i := 3) rfl
 have z := L0.out.free 3
 show Calls Tryz.prog 158 #[.pointer (some ⟨b, 0, none⟩), .agg #[.string tx, .int .i64 n, .int .i64 tg, .bool th, .string via, .slice aA al.length aC, .slice dA dn.length dC, .slice uA us.length uC, .slice kA ks.length kC, .int .i64 d, .int .i64 x3, .int .i64 x4, .int .i64 x5, .int .i64 x6, .int .i64 x7, .int .i64 x8]] w _
 go_enter Tryz.func158, Tryz.ntmps158
 go_wp2
 go_end0
 exact ⟨rfl, ⟨aL, L0.out.set 3 (.bool th), I0.out.set_th ⟨b, 3, none⟩ (.bool th) HA.out, HG.out.f_th⟩, (BA.out.mono (Nat.le_of_lt hlt)).setCell (p := ⟨b, 3, none⟩) (Nat.le_refl _) _⟩
set_option maxHeartbeats 4000000 in
theorem cp4 (C : Cn) (a : Ads) (L : Cn) (aL : Ads) (b : Nat) (w : World) (h : Lf w b L aL) (hc : IsC w C a) : Calls Tryz.prog 161 #[.pointer (some ⟨b, 0, none⟩), .agg (ccs C a).toArray] w (CpP b w { L with via := C.via }) := by
 unfold CpP
 obtain ⟨tx, n, tg, th, via, al, dn, us, ks, d, x3, x4, x5, x6, x7, x8⟩ := C
 obtain ⟨aA, aC, dA, dC, uA, uC, kA, kC⟩ := a
 have hlt := h.blk.lt
 have BA := hid ((Below.refl w.heap.size w).alloc (Nat.le_refl _) (.cells #[.string tx, .int .i64 n, .int .i64 tg, .bool th, .string via, .slice aA al.length aC, .slice dA dn.length dC, .slice uA us.length uC, .slice kA ks.length kC, .int .i64 d, .int .i64 x3, .int .i64 x4, .int .i64 x5, .int .i64 x6, .int .i64 x7, .int .i64 x8] 30))
 have X0 := hid (blk_new w [.string tx, .int .i64 n, .int .i64 tg, .bool th, .string via, .slice aA al.length aC, .slice dA dn.length dC, .slice uA us.length uC, .slice kA ks.length kC, .int .i64 d, .int .i64 x3, .int .i64 x4, .int .i64 x5, .int .i64 x6, .int .i64 x7, .int .i64 x8] 30)
 have L0 := hid (h.blk.alloc (.cells #[.string tx, .int .i64 n, .int .i64 tg, .bool th, .string via, .slice aA al.length aC, .slice dA dn.length dC, .slice uA us.length uC, .slice kA ks.length kC, .int .i64 d, .int .i64 x3, .int .i64 x4, .int .i64 x5, .int .i64 x6, .int .i64 x7, .int .i64 x8] 30))
 have I0 := hid (h.is.below BA.out)
 have HA := hid (h.gt.ap (Nat.le_refl b))
 have HG := hid h.gt
 have HC := hid hc
 have ht := hc.via
 clear h hc
 generalize hW : w.alloc (.cells #[.string tx, .int .i64 n, .int .i64 tg, .bool th, .string via, .slice aA al.length aC, .slice dA dn.length dC, .slice uA us.length uC, .slice kA ks.length kC, .int .i64 d, .int .i64 x3, .int .i64 x4, .int .i64 x5, .int .i64 x6, .int .i64 x7, .int .i64 x8] 30) = W0 at BA X0 L0 I0
 have y := X0.out.cell (i := 4) rfl
 have l := L0.out.cell (i := 4) rfl
 have z := L0.out.free 4
 show Calls Tryz.prog 161 #[.pointer (some ⟨b, 0, none⟩), .agg #[.string tx, .int .i64 n, .int .i64 tg, .bool th, .string via, .slice aA al.length aC, .slice dA dn.length dC, .slice uA us.length uC, .slice kA ks.length kC, .int .i64 d, .int .i64 x3, .int .i64 x4, .int .i64 x5, .int .i64 x6, .int .i64 x7, .int .i64 x8]] w _
 go_enter Tryz.func161, Tryz.ntmps161
 go_wp2
 go_end0
 exact ⟨rfl, ⟨aL, L0.out.set 4 (.string via), I0.out.set_via ⟨b, 4, none⟩ (.string via) HA.out ht, HG.out.f_via⟩, (BA.out.mono (Nat.le_of_lt hlt)).setCell (p := ⟨b, 4, none⟩) (Nat.le_refl _) _⟩
set_option maxHeartbeats 4000000 in
theorem cp5 (C : Cn) (a : Ads) (L : Cn) (aL : Ads) (b : Nat) (w : World) (h : Lf w b L aL) (hc : IsC w C a) (hs : C.al.length ≤ 100000) : Calls Tryz.prog 164 #[.pointer (some ⟨b, 0, none⟩), .agg (ccs C a).toArray] w (CpP b w { L with al := C.al }) := by
 unfold CpP
 obtain ⟨tx, n, tg, th, via, al, dn, us, ks, d, x3, x4, x5, x6, x7, x8⟩ := C
 obtain ⟨aA, aC, dA, dC, uA, uC, kA, kC⟩ := a
 have hlt := h.blk.lt
 have BA := hid ((Below.refl w.heap.size w).alloc (Nat.le_refl _) (.cells #[.string tx, .int .i64 n, .int .i64 tg, .bool th, .string via, .slice aA al.length aC, .slice dA dn.length dC, .slice uA us.length uC, .slice kA ks.length kC, .int .i64 d, .int .i64 x3, .int .i64 x4, .int .i64 x5, .int .i64 x6, .int .i64 x7, .int .i64 x8] 30))
 have X0 := hid (blk_new w [.string tx, .int .i64 n, .int .i64 tg, .bool th, .string via, .slice aA al.length aC, .slice dA dn.length dC, .slice uA us.length uC, .slice kA ks.length kC, .int .i64 d, .int .i64 x3, .int .i64 x4, .int .i64 x5, .int .i64 x6, .int .i64 x7, .int .i64 x8] 30)
 have L0 := hid (h.blk.alloc (.cells #[.string tx, .int .i64 n, .int .i64 tg, .bool th, .string via, .slice aA al.length aC, .slice dA dn.length dC, .slice uA us.length uC, .slice kA ks.length kC, .int .i64 d, .int .i64 x3, .int .i64 x4, .int .i64 x5, .int .i64 x6, .int .i64 x7, .int .i64 x8] 30))
 have I0 := hid (h.is.below BA.out)
 have HA := hid (h.gt.ap (Nat.le_refl b))
 have HG := hid h.gt
 have HC := hid hc
 have HT := hid (hc.al.below BA.out)
 have ht := hc.al
 dsimp only at hs HT ht
 clear h hc
 generalize hW : w.alloc (.cells #[.string tx, .int .i64 n, .int .i64 tg, .bool th, .string via, .slice aA al.length aC, .slice dA dn.length dC, .slice uA us.length uC, .slice kA ks.length kC, .int .i64 d, .int .i64 x3, .int .i64 x4, .int .i64 x5, .int .i64 x6, .int .i64 x7, .int .i64 x8] 30) = W0 at BA X0 L0 I0 HT
 have y := X0.out.cell (i := 5) rfl
 show Calls Tryz.prog 164 #[.pointer (some ⟨b, 0, none⟩), .agg #[.string tx, .int .i64 n, .int .i64 tg, .bool th, .string via, .slice aA al.length aC, .slice dA dn.length dC, .slice uA us.length uC, .slice kA ks.length kC, .int .i64 d, .int .i64 x3, .int .i64 x4, .int .i64 x5, .int .i64 x6, .int .i64 x7, .int .i64 x8]] w _
 go_enter Tryz.func164, Tryz.ntmps164
 go_wp2_with (first
  | (go_at_call 165; (with_reducible refine (clone27 aA al.length aC (rowS al) _ HT.out.rws (by omega)).mono ?_); rintro e w1 ⟨A', c', rfl, k1⟩; have K1 := hid k1; have L1 := hid (L0.out.below k1.bel); have I1 := hid (I0.out.below k1.bel); have B1 := hid (BA.out.trans (k1.bel.mono BA.out.size)); clear k1 y; have l1 := L1.out.cell (i := 5) rfl; have z1 := L1.out.free 5)
  | fail)
 go_end0
 have hN := K1.out.new.ne (t := b) (Nat.lt_of_lt_of_le hlt BA.out.size)
 exact ⟨rfl, ⟨{ aL with aA := A', aC := c' }, L1.out.set 5 (.slice A' al.length c'), I1.out.set_al ⟨b, 5, none⟩ _ HA.out (K1.out.txs HT.out) hN, HG.out.f_al (K1.out.new.gt (Nat.lt_of_lt_of_le hlt BA.out.size))⟩, (B1.out.mono (Nat.le_of_lt hlt)).setCell (p := ⟨b, 5, none⟩) (Nat.le_refl _) _⟩
set_option maxHeartbeats 4000000 in
theorem cp6 (C : Cn) (a : Ads) (L : Cn) (aL : Ads) (b : Nat) (w : World) (h : Lf w b L aL) (hc : IsC w C a) (hs : C.dn.length ≤ 100000) : Calls Tryz.prog 168 #[.pointer (some ⟨b, 0, none⟩), .agg (ccs C a).toArray] w (CpP b w { L with dn := C.dn }) := by
 unfold CpP
 obtain ⟨tx, n, tg, th, via, al, dn, us, ks, d, x3, x4, x5, x6, x7, x8⟩ := C
 obtain ⟨aA, aC, dA, dC, uA, uC, kA, kC⟩ := a
 have hlt := h.blk.lt
 have BA := hid ((Below.refl w.heap.size w).alloc (Nat.le_refl _) (.cells #[.string tx, .int .i64 n, .int .i64 tg, .bool th, .string via, .slice aA al.length aC, .slice dA dn.length dC, .slice uA us.length uC, .slice kA ks.length kC, .int .i64 d, .int .i64 x3, .int .i64 x4, .int .i64 x5, .int .i64 x6, .int .i64 x7, .int .i64 x8] 30))
 have X0 := hid (blk_new w [.string tx, .int .i64 n, .int .i64 tg, .bool th, .string via, .slice aA al.length aC, .slice dA dn.length dC, .slice uA us.length uC, .slice kA ks.length kC, .int .i64 d, .int .i64 x3, .int .i64 x4, .int .i64 x5, .int .i64 x6, .int .i64 x7, .int .i64 x8] 30)
 have L0 := hid (h.blk.alloc (.cells #[.string tx, .int .i64 n, .int .i64 tg, .bool th, .string via, .slice aA al.length aC, .slice dA dn.length dC, .slice uA us.length uC, .slice kA ks.length kC, .int .i64 d, .int .i64 x3, .int .i64 x4, .int .i64 x5, .int .i64 x6, .int .i64 x7, .int .i64 x8] 30))
 have I0 := hid (h.is.below BA.out)
 have HA := hid (h.gt.ap (Nat.le_refl b))
 have HG := hid h.gt
 have HC := hid hc
 have HT := hid (hc.dn.below BA.out)
 have ht := hc.dn
 dsimp only at hs HT ht
 clear h hc
 generalize hW : w.alloc (.cells #[.string tx, .int .i64 n, .int .i64 tg, .bool th, .string via, .slice aA al.length aC, .slice dA dn.length dC, .slice uA us.length uC, .slice kA ks.length kC, .int .i64 d, .int .i64 x3, .int .i64 x4, .int .i64 x5, .int .i64 x6, .int .i64 x7, .int .i64 x8] 30) = W0 at BA X0 L0 I0 HT
 have y := X0.out.cell (i := 6) rfl
 show Calls Tryz.prog 168 #[.pointer (some ⟨b, 0, none⟩), .agg #[.string tx, .int .i64 n, .int .i64 tg, .bool th, .string via, .slice aA al.length aC, .slice dA dn.length dC, .slice uA us.length uC, .slice kA ks.length kC, .int .i64 d, .int .i64 x3, .int .i64 x4, .int .i64 x5, .int .i64 x6, .int .i64 x7, .int .i64 x8]] w _
 go_enter Tryz.func168, Tryz.ntmps168
 go_wp2_with (first
  | (go_at_call 165; (with_reducible refine (clone27 dA dn.length dC (rowS dn) _ HT.out.rws (by omega)).mono ?_); rintro e w1 ⟨A', c', rfl, k1⟩; have K1 := hid k1; have L1 := hid (L0.out.below k1.bel); have I1 := hid (I0.out.below k1.bel); have B1 := hid (BA.out.trans (k1.bel.mono BA.out.size)); clear k1 y; have l1 := L1.out.cell (i := 6) rfl; have z1 := L1.out.free 6)
  | fail)
 go_end0
 have hN := K1.out.new.ne (t := b) (Nat.lt_of_lt_of_le hlt BA.out.size)
 exact ⟨rfl, ⟨{ aL with dA := A', dC := c' }, L1.out.set 6 (.slice A' dn.length c'), I1.out.set_dn ⟨b, 6, none⟩ _ HA.out (K1.out.txs HT.out) hN, HG.out.f_dn (K1.out.new.gt (Nat.lt_of_lt_of_le hlt BA.out.size))⟩, (B1.out.mono (Nat.le_of_lt hlt)).setCell (p := ⟨b, 6, none⟩) (Nat.le_refl _) _⟩
set_option maxHeartbeats 4000000 in
theorem cp7 (C : Cn) (a : Ads) (L : Cn) (aL : Ads) (b : Nat) (w : World) (h : Lf w b L aL) (hc : IsC w C a) (hu : C.us.length ≤ 100000) (hk : C.ks.length ≤ 100000) : Calls Tryz.prog 171 #[.pointer (some ⟨b, 0, none⟩), .agg (ccs C a).toArray] w (CpP b w { L with us := C.us, ks := C.ks, d := C.d, x3 := C.x3, x4 := C.x4, x5 := C.x5, x6 := C.x6, x7 := C.x7, x8 := C.x8 }) := by
 unfold CpP
 obtain ⟨tx, n, tg, th, via, al, dn, us, ks, d, x3, x4, x5, x6, x7, x8⟩ := C
 obtain ⟨aA, aC, dA, dC, uA, uC, kA, kC⟩ := a
 have hlt := h.blk.lt
 have BA := hid ((Below.refl w.heap.size w).alloc (Nat.le_refl _) (.cells #[.string tx, .int .i64 n, .int .i64 tg, .bool th, .string via, .slice aA al.length aC, .slice dA dn.length dC, .slice uA us.length uC, .slice kA ks.length kC, .int .i64 d, .int .i64 x3, .int .i64 x4, .int .i64 x5, .int .i64 x6, .int .i64 x7, .int .i64 x8] 30))
 have X0 := hid (blk_new w [.string tx, .int .i64 n, .int .i64 tg, .bool th, .string via, .slice aA al.length aC, .slice dA dn.length dC, .slice uA us.length uC, .slice kA ks.length kC, .int .i64 d, .int .i64 x3, .int .i64 x4, .int .i64 x5, .int .i64 x6, .int .i64 x7, .int .i64 x8] 30)
 have L0 := hid (h.blk.alloc (.cells #[.string tx, .int .i64 n, .int .i64 tg, .bool th, .string via, .slice aA al.length aC, .slice dA dn.length dC, .slice uA us.length uC, .slice kA ks.length kC, .int .i64 d, .int .i64 x3, .int .i64 x4, .int .i64 x5, .int .i64 x6, .int .i64 x7, .int .i64 x8] 30))
 have I0 := hid (h.is.below BA.out)
 have HA := hid (h.gt.ap (Nat.le_refl b))
 have HG := hid h.gt
 have HC := hid hc
 have HV := hid (hc.lv.below BA.out)
 dsimp only at hu hk HV
 clear h hc
 generalize hW : w.alloc (.cells #[.string tx, .int .i64 n, .int .i64 tg, .bool th, .string via, .slice aA al.length aC, .slice dA dn.length dC, .slice uA us.length uC, .slice kA ks.length kC, .int .i64 d, .int .i64 x3, .int .i64 x4, .int .i64 x5, .int .i64 x6, .int .i64 x7, .int .i64 x8] 30) = W0 at BA X0 L0 I0 HV
 have y := X0.out
 show Calls Tryz.prog 171 #[.pointer (some ⟨b, 0, none⟩), .agg #[.string tx, .int .i64 n, .int .i64 tg, .bool th, .string via, .slice aA al.length aC, .slice dA dn.length dC, .slice uA us.length uC, .slice kA ks.length kC, .int .i64 d, .int .i64 x3, .int .i64 x4, .int .i64 x5, .int .i64 x6, .int .i64 x7, .int .i64 x8]] w _
 go_enter Tryz.func171, Tryz.ntmps171
 go_wp2_with (first
  | (refine wpList_load_mid rfl 28 _ rfl w.heap.size 7 rfl [.slice uA us.length uC, .slice kA ks.length kC, .int .i64 d, .int .i64 x3, .int .i64 x4, .int .i64 x5, .int .i64 x6, .int .i64 x7, .int .i64 x8] _ (X0.out.mid 7 9) Tryz.underlying28 rfl size27 ?_)
  | (go_at_call 172; (with_reducible refine (clone26 uA us.length uC kA ks.length kC (fU us) (fK ks) d x3 x4 x5 x6 x7 x8 _ HV.out.us HV.out.ks (by omega) (by omega)).mono ?_); rintro e w1 ⟨uA2, uC2, kA2, kC2, rfl, k1, k2, kb, n1, n2⟩; have K1 := hid k1; have K2 := hid k2; have N1 := hid n1; have N2 := hid n2; have L1 := hid (L0.out.below kb); have I1 := hid (I0.out.below kb); have B1 := hid (BA.out.trans (kb.mono BA.out.size)); clear k1 k2 kb n1 n2)
  | (refine store_mid_as rfl 28 _ _ rfl b 7 (#[.slice uA2 us.length uC2, .slice kA2 ks.length kC2, .int .i64 d, .int .i64 x3, .int .i64 x4, .int .i64 x5, .int .i64 x6, .int .i64 x7, .int .i64 x8] : Array Value) rfl rfl (L1.out.thereAt 7 9 (show 7 + 9 ≤ 16 from Nat.le_refl _)) size27 (by simp [Value.oneCell']) ?_; intro w2 e2; have E2 := hid e2; clear e2)
  | fail)
 go_end0
 have hN1 := N1.out.ne (t := b) (Nat.lt_of_lt_of_le hlt BA.out.size)
 have hN2 := N2.out.ne (t := b) (Nat.lt_of_lt_of_le hlt BA.out.size)
 refine ⟨rfl, ⟨{ aL with uA := uA2, uC := uC2, kA := kA2, kC := kC2 }, ?_, ?_, ⟨HG.out.al, HG.out.dn, N1.out.gt (Nat.lt_of_lt_of_le hlt BA.out.size), N2.out.gt (Nat.lt_of_lt_of_le hlt BA.out.size)⟩⟩, ?_⟩
 ·rw [E2.out]; exact X3e (a := .string L.tx) (p := [.slice aL.uA L.us.length aL.uC, .slice aL.kA L.ks.length aL.kC, .int .i64 L.d, .int .i64 L.x3, .int .i64 L.x4, .int .i64 L.x5, .int .i64 L.x6, .int .i64 L.x7, .int .i64 L.x8]) (vs := [.slice uA2 us.length uC2, .slice kA2 ks.length kC2, .int .i64 d, .int .i64 x3, .int .i64 x4, .int .i64 x5, .int .i64 x6, .int .i64 x7, .int .i64 x8]) L1.out rfl
 ·rw [E2.out]
  exact ⟨I1.out.al.otherAll _ _ _ HA.out.al, I1.out.dn.otherAll _ _ _ HA.out.dn, ⟨K1.out.otherAll _ _ _ hN1, K2.out.otherAll _ _ _ hN2, HV.out.fu, HV.out.fk, HV.out.nm⟩, I1.out.tx, I1.out.via, I1.out.n, I1.out.tg⟩
 ·rw [E2.out]; exact below_setAll (Nat.le_refl _) _ _ _ (B1.out.mono (Nat.le_of_lt hlt))
end Go.Proofs.YtablocpcgknmaaaGreatDoor
