/- Devices and texts: where they are found. No condition. -/
import Derived.Test.YtaaaeeljjfblnaaDoorT1
import Derived.Test.YtaaaeeljjfblnaaDoorB0
import Derived.Test.YtaaaeeljjfblnaaDoorG7
import Derived.Deep.LoopGhost
import Derived.Deep.MidRow
import Derived.Laws.EntriesVeiled
namespace Go.Proofs.YtaaaeeljjfblnaaDoor
open Go.RowKit
set_option linter.unusedVariables false
set_option linter.unusedSimpArgs false

theorem load_mid_g {P : Program} {ops : Array Oper} {rest : List Oper} {op : Oper} {a : Act} {w : World} {Q : Exit → Act → World → Prop} (hw : Region.wanted op (yielded ops a.tmps) = true) (ty : TypeId) (x : Operand) (ho : op.op = .load ty x)
    (b o : Nat) (hx : a.eval x = .pointer (some ⟨b, o, none⟩)) (cs : List Value) (d : TypeDesc) (hc : w.rangeAt b o cs)
    (hu : P.underlying ty = some d) (hd : d.isRow = true) (hi : (P.info? ty).map (·.size) = some cs.length)
    (h : wpList P ops Q rest (a.put op.dst (.agg cs.toArray)) w) : wpList P ops Q (op :: rest) a w :=
  wpList_step fun K hK => by
    rw [if_pos hw]
    exact wp_load_mid ty x ho b o hx cs d hc hu hd hi (hK _ _ h)
/-- A device. -/
structure Dv where
  id : ByteArray
  key : Int
  sg : Bool
abbrev encD (d : Dv) : List Value := [.string d.id, .int .i64 d.key, .bool d.sg]
def rowD (D : Nat → Dv) (j : Nat) : List Value := encD (D j)
structure Dvs (w : World) (A : Option Addr) (n c : Nat) (D : Nat → Dv) : Prop where
  rws : Rws w A n c 3 (rowD D)
  fit : ∀ j, j < n → (D j).id.size ≤ 9223372036854775807
theorem Dvs.below {w w1 : World} {A : Option Addr} {n c : Nat} {D : Nat → Dv} (h : Dvs w A n c D) (hb : Below w.heap.size w w1) : Dvs w1 A n c D := ⟨h.rws.below hb, h.fit⟩
theorem Dvs.get {w : World} {A : Option Addr} {n c : Nat} {D : Nat → Dv} (h : Dvs w A n c D) {j : Nat} (hj : j < n) : ∃ b off, A = some ⟨b, off, none⟩ ∧ b < w.heap.size ∧ Hid (w.rangeAt b (off + j * 3) (encD (D j))) ∧ w.cell? ⟨b, off + j * 3, none⟩ = some (.string (D j).id) ∧ w.cell? ⟨b, off + j * 3 + 2, none⟩ = some (.bool (D j).sg) := by
  obtain ⟨b, off, e, hlt, r⟩ := h.rws.get hj
  exact ⟨b, off, e, hlt, Lib.hid r, r 0 _ rfl, r 2 _ rfl⟩
def eqB (a b : ByteArray) : Bool := a.toList == b.toList
theorem eqB_comm (a b : ByteArray) : eqB a b = eqB b a := by unfold eqB; exact Bool.beq_comm
/-- Where the first device with a name is. -/
def plD (D : Nat → Dv) (x : ByteArray) : Nat → Option Nat
  | 0 => none
  | n + 1 => (plD D x n).or (if eqB (D n).id x = true then some n else none)
def oI (o : Option Nat) : Int := match o with | some k => (k : Int) | none => -1
theorem plD_succ (D : Nat → Dv) (x : ByteArray) (n : Nat) : plD D x (n + 1) = (plD D x n).or (if eqB (D n).id x = true then some n else none) := rfl
theorem plD_lt {D : Nat → Dv} {x : ByteArray} {k : Nat} : ∀ {n : Nat}, plD D x n = some k → k < n := by
  intro n
  induction n with
  | zero => intro h; cases h
  | succ n ih =>
    intro h
    rw [plD_succ] at h
    cases e : plD D x n with
    | some j => rw [e] at h; cases h; have := ih e; omega
    | none =>
      rw [e] at h
      simp only [Option.none_or] at h
      split at h
      · cases h; omega
      · cases h
theorem plD_mono {D : Nat → Dv} {x : ByteArray} {j k : Nat} (h : plD D x k = some j) : ∀ n, k ≤ n → plD D x n = some j := by
  intro n
  induction n with
  | zero =>
    intro hk
    obtain rfl : k = 0 := by omega
    exact h
  | succ n ih =>
    intro hk
    by_cases e : k = n + 1
    · subst e; exact h
    · rw [plD_succ, ih (by omega)]; rfl
theorem plD_hit {D : Nat → Dv} {x : ByteArray} {k n : Nat} (h : plD D x k = none) (hk : k < n) (e : eqB (D k).id x = true) : plD D x n = some k := by
  refine plD_mono (k := k + 1) ?_ n hk
  rw [plD_succ, h, if_pos e]; rfl
theorem plD_miss {D : Nat → Dv} {x : ByteArray} {k : Nat} (h : plD D x k = none) (e : eqB (D k).id x = false) : plD D x (k + 1) = none := by
  rw [plD_succ, h, e]; rfl
theorem size43 : (Tryd.prog.info? 43).map (·.size) = some 3 := by kernel_rfl
set_option maxRecDepth 100000 in
set_option maxHeartbeats 2000000 in
theorem place18 (A : Option Addr) (n c : Nat) (x : ByteArray) (D : Nat → Dv) (w : World) (h : Dvs w A n c D) : Calls Tryd.prog 18 #[.slice A n c, .string x] w fun e w' => e = .returned (.int .i64 (oI (plD D x n))) ∧ w = w' := by
  have H := Lib.hid h
  have hbig := h.rws.big
  unfold maxLen at hbig
  have HHit := Lib.hid (fun (k : Nat) (h1 : plD D x k = none) (h2 : k < n) (h3 : eqB (D k).id x = true) => plD_hit h1 h2 h3)
  generalize hr : plD D x n = r at HHit ⊢
  have HR := Lib.hid hr
  clear h hr
  go_enter Tryd.func18, Tryd.ntmps18
  go_wp2
  go_loopg [5] n (fun gg s5 wr => ∃ kk : Nat, kk ≤ n ∧ n - kk ≤ gg ∧ s5 = .int .i64 kk ∧ Hid (plD D x kk = none) ∧ w = wr)
  case atStart => exact ⟨0, Nat.zero_le _, by omega, rfl, Lib.hid rfl, rfl⟩
  case round =>
    obtain ⟨kk, hkk, hg, rfl, HN, rfl⟩ := hrel
    by_cases hlt : kk < n
    · have hltz : (kk : Int) < (n : Int) := by omega
      obtain ⟨b, off, rfl, _, _, k0, _⟩ := H.out.get hlt
      cases q1 : eqB (D kk).id x
      · have HN3 := Lib.hid (plD_miss HN.out q1)
        unfold eqB at q1
        generalize (D kk).id = p at k0 q1
        go_wp2
        go_roundg (n - (kk + 1))
        case measure => omega
        case rel => exact ⟨kk + 1, by omega, by omega, by go_num, HN3, rfl⟩
      · have HE := Lib.hid (HHit.out kk HN.out hlt q1)
        unfold eqB at q1
        generalize (D kk).id = p at k0 q1
        go_wp2
        go_ret
        exact ⟨ret_i64 (by rw [HE.out]; rfl), rfl⟩
    · have hltz : ¬ (kk : Int) < (n : Int) := by omega
      have HE : Hid (r = none) := Lib.hid (by rw [← HR.out, show n = kk by omega]; exact HN.out)
      go_wp2
      go_ret
      exact ⟨ret_i64 (by rw [HE.out]; rfl), rfl⟩
/-- The closure of ruleFor: whether a device has the name in a block. -/
theorem named35 (d : Dv) (g : Nat) (x : ByteArray) (u : World) (h : u.cell? ⟨g, 0, none⟩ = some (.string x)) (hg : g < u.heap.size) : Calls Tryd.prog 35 #[.agg (encD d).toArray, .pointer (some ⟨g, 0, none⟩)] u fun e w' => e = .returned (.bool (eqB d.id x)) ∧ Below u.heap.size u w' := by
  have X0 := Lib.hid (blk_new u (encD d) 43)
  have B0 := Lib.hid ((Below.refl u.heap.size u).alloc (Nat.le_refl _) (.cells (encD d).toArray 43))
  have f0 := X0.out.cell (i := 0) rfl
  have fx := (B0.out.cell (p := ⟨g, 0, none⟩) hg).trans h
  show Calls Tryd.prog 35 #[.agg #[.string d.id, .int .i64 d.key, .bool d.sg], .pointer (some ⟨g, 0, none⟩)] u _
  unfold eqB
  clear h hg X0
  go_enter Tryd.func35, Tryd.ntmps35
  go_wp2
  go_ret
  exact ⟨rfl, B0.out⟩
set_option maxRecDepth 100000 in
set_option maxHeartbeats 2000000 in
theorem index34 (A : Option Addr) (n c g : Nat) (x : ByteArray) (D : Nat → Dv) (w : World) (h : Dvs w A n c D) (hx : w.cell? ⟨g, 0, none⟩ = some (.string x)) (hg : g < w.heap.size) : Calls Tryd.prog 34 #[.slice A n c, .func (.func 35) #[] #[.pointer (some ⟨g, 0, none⟩)]] w fun e w' => e = .returned (.int .i64 (oI (plD D x n))) ∧ Below w.heap.size w w' := by
  have H := Lib.hid h
  have hbig := h.rws.big
  unfold maxLen at hbig
  have C35 := Lib.hid (fun d u (hb : Below w.heap.size w u) => named35 d g x u ((hb.cell (p := ⟨g, 0, none⟩) hg).trans hx) (Nat.lt_of_lt_of_le hg hb.size))
  have HHit := Lib.hid (fun (k : Nat) (h1 : plD D x k = none) (h2 : k < n) (h3 : eqB (D k).id x = true) => plD_hit h1 h2 h3)
  generalize hr : plD D x n = r at HHit ⊢
  have HR := Lib.hid hr
  clear h hr hx hg
  go_enter Tryd.func34, Tryd.ntmps34
  go_wp2
  go_loopg [5, 8] n (fun gg _ s8 wr => ∃ kk : Nat, kk ≤ n ∧ n - kk ≤ gg ∧ s8 = .int .i64 kk ∧ Hid (plD D x kk = none) ∧ Hid (Below w.heap.size w wr))
  case atStart => exact ⟨0, Nat.zero_le _, by omega, rfl, Lib.hid rfl, Lib.hid (Below.refl _ _)⟩
  case round =>
    obtain ⟨kk, hkk, hg, rfl, HN, BW⟩ := hrel
    by_cases hlt : kk < n
    · have hltz : (kk : Int) < (n : Int) := by omega
      obtain ⟨b, off, rfl, _, R, _, _⟩ := (H.out.below BW.out).get hlt
      have CQ := Lib.hid (C35.out (D kk) wr BW.out)
      cases q1 : eqB (D kk).id x
      · have HN3 := Lib.hid (plD_miss HN.out q1)
        rw [q1] at CQ
        generalize D kk = p at R CQ
        clear q1
        go_wp2_with (first
          | (refine load_mid_g (by rfl) 43 _ rfl b (off + kk * 3) rfl (encD p) _ R.out Tryd.underlying43 rfl size43 ?_)
          | (go_at_call 35; (with_reducible refine CQ.out.mono ?_); rintro e w3 ⟨rfl, hb3⟩; have B3 := Lib.hid (BW.out.trans (hb3.mono BW.out.size)); clear hb3))
        go_roundg (n - (kk + 1))
        case measure => omega
        case rel => exact ⟨kk + 1, by omega, by omega, by go_num, HN3, B3⟩
      · have HE := Lib.hid (HHit.out kk HN.out hlt q1)
        rw [q1] at CQ
        generalize D kk = p at R CQ
        clear q1
        go_wp2_with (first
          | (refine load_mid_g (by rfl) 43 _ rfl b (off + kk * 3) rfl (encD p) _ R.out Tryd.underlying43 rfl size43 ?_)
          | (go_at_call 35; (with_reducible refine CQ.out.mono ?_); rintro e w3 ⟨rfl, hb3⟩; have B3 := Lib.hid (BW.out.trans (hb3.mono BW.out.size)); clear hb3))
        go_ret
        exact ⟨ret_i64 (by rw [HE.out]; rfl), B3.out⟩
    · have hltz : ¬ (kk : Int) < (n : Int) := by omega
      have HE : Hid (r = none) := Lib.hid (by rw [← HR.out, show n = kk by omega]; exact HN.out)
      go_wp2
      go_ret
      exact ⟨ret_i64 (by rw [HE.out]; rfl), BW.out⟩
/-- Whether a text is among some. -/
def hsT (zs : List T.Rc) (x : ByteArray) : Bool := zs.any fun p => eqB p.s x
def ixT (zs : List T.Rc) (x : ByteArray) : Int := if hsT zs x = true then ((zs.findIdx fun p => eqB p.s x : Nat) : Int) else -1
theorem ixT_pos (zs : List T.Rc) (x : ByteArray) : decide ((0 : Int) ≤ ixT zs x) = hsT zs x := by
  unfold ixT
  cases hsT zs x
  · rw [if_neg (by decide)]; rfl
  · rw [if_pos rfl]; exact decide_eq_true (by omega)
theorem hsT_at {zs : List T.Rc} {x : ByteArray} {k : Nat} (hk : k < zs.length) (he : eqB (zs.getD k T.t0).s x = true) : hsT zs x = true := by
  unfold hsT
  rw [List.any_eq_true]
  exact ⟨zs.getD k T.t0, by rw [T.getD_at hk]; exact List.getElem_mem _, he⟩
theorem hsT_no {zs : List T.Rc} {x : ByteArray} (h : ∀ j, j < zs.length → eqB (zs.getD j T.t0).s x = false) : hsT zs x = false := by
  rw [← Bool.not_eq_true]
  unfold hsT
  rw [List.any_eq_true]
  rintro ⟨p, hp, e⟩
  obtain ⟨j, hj, rfl⟩ := List.mem_iff_getElem.1 hp
  have := h j hj
  rw [T.getD_at hj, e] at this
  cases this
theorem ixT_at {zs : List T.Rc} {x : ByteArray} {k : Nat} (hk : k < zs.length) (he : eqB (zs.getD k T.t0).s x = true) (h : ∀ j, j < k → eqB (zs.getD j T.t0).s x = false) : ixT zs x = (k : Int) := by
  unfold ixT
  rw [if_pos (hsT_at hk he)]
  have : (zs.findIdx fun p => eqB p.s x) = k := by
    rw [List.findIdx_eq hk]
    rw [T.getD_at hk] at he
    refine ⟨he, fun j hj => ?_⟩
    have := h j hj
    rw [T.getD_at (by omega)] at this
    exact this
  rw [this]
theorem ixT_no {zs : List T.Rc} {x : ByteArray} (h : ∀ j, j < zs.length → eqB (zs.getD j T.t0).s x = false) : ixT zs x = -1 := by
  unfold ixT
  rw [hsT_no h, if_neg (by decide)]
theorem T.Rcs.str {w : World} {A : Option Addr} {n c : Nat} {zs : List T.Rc} (h : T.Rcs w A n c zs) {k : Nat} (hk : k < n) : ∃ b off, A = some ⟨b, off, none⟩ ∧ b < w.heap.size ∧ w.cell? ⟨b, off + k, none⟩ = some (.string (zs.getD k T.t0).s) := by
  obtain ⟨b, off, e, hlt, r, _⟩ := h.get hk
  have := r 0 _ rfl
  rw [Nat.mul_one, Nat.add_zero] at this
  exact ⟨b, off, e, hlt, this⟩
theorem all_next {p : Nat → Bool} {k : Nat} (h : ∀ j, j < k → p j = false) (hk : p k = false) : ∀ j, j < k + 1 → p j = false := by
  intro j hj
  by_cases e : j = k
  · rw [e]; exact hk
  · exact h j (by omega)
set_option maxRecDepth 100000 in
set_option maxHeartbeats 2000000 in
theorem indexT41 (A : Option Addr) (n c : Nat) (zs : List T.Rc) (x : ByteArray) (w : World) (h : T.Rcs w A n c zs) : Calls Tryd.prog 41 #[.slice A n c, .string x] w fun e w' => e = .returned (.int .i64 (ixT zs x)) ∧ w = w' := by
  have H := Lib.hid h
  have HL := Lib.hid h.len
  have hbig := h.rws.big
  unfold maxLen at hbig
  have HAt := Lib.hid (fun (k : Nat) (h1 : k < zs.length) (h2 : eqB (zs.getD k T.t0).s x = true) (h3 : ∀ j, j < k → eqB (zs.getD j T.t0).s x = false) => ixT_at h1 h2 h3)
  have HNo := Lib.hid (fun (h1 : ∀ j, j < zs.length → eqB (zs.getD j T.t0).s x = false) => ixT_no h1)
  generalize ixT zs x = r at *
  clear h
  go_enter Tryd.func41, Tryd.ntmps41
  go_wp2
  go_loopg [5, 8] n (fun gg _ s8 wr => ∃ kk : Nat, kk ≤ n ∧ n - kk ≤ gg ∧ s8 = .int .i64 kk ∧ Hid (∀ j, j < kk → eqB (zs.getD j T.t0).s x = false) ∧ w = wr)
  case atStart => exact ⟨0, Nat.zero_le _, by omega, rfl, Lib.hid (fun j hj => absurd hj (Nat.not_lt_zero _)), rfl⟩
  case round =>
    obtain ⟨kk, hkk, hg, rfl, HN, rfl⟩ := hrel
    by_cases hlt : kk < n
    · have hltz : (kk : Int) < (n : Int) := by omega
      obtain ⟨b, off, rfl, _, k0⟩ := H.out.str hlt
      cases q1 : eqB (zs.getD kk T.t0).s x
      · have HN3 := Lib.hid (all_next (p := fun j => eqB (zs.getD j T.t0).s x) HN.out q1)
        rw [eqB_comm] at q1
        unfold eqB at q1
        generalize (zs.getD kk T.t0).s = p at k0 q1
        clear HN
        go_wp2
        go_roundg (n - (kk + 1))
        case measure => omega
        case rel => exact ⟨kk + 1, by omega, by omega, by go_num, HN3, rfl⟩
      · have HE := Lib.hid (HAt.out kk (by rw [HL.out]; exact hlt) q1 HN.out)
        rw [eqB_comm] at q1
        unfold eqB at q1
        generalize (zs.getD kk T.t0).s = p at k0 q1
        clear HN
        go_wp2
        go_ret
        exact ⟨ret_i64 HE.out.symm, rfl⟩
    · have hltz : ¬ (kk : Int) < (n : Int) := by omega
      have HE := Lib.hid (HNo.out (fun j hj => HN.out j (by rw [HL.out] at hj; omega)))
      clear HN
      go_wp2
      go_ret
      exact ⟨ret_i64 HE.out.symm, rfl⟩
theorem contains36 (A : Option Addr) (n c : Nat) (zs : List T.Rc) (x : ByteArray) (w : World) (h : T.Rcs w A n c zs) : Calls Tryd.prog 36 #[.slice A n c, .string x] w fun e w' => e = .returned (.bool (hsT zs x)) ∧ w = w' := by
  have C := Lib.hid (indexT41 A n c zs x w h)
  have E := Lib.hid (ixT_pos zs x)
  generalize hsT zs x = q at *
  generalize ixT zs x = r at *
  clear h
  go_enter Tryd.func36, Tryd.ntmps36
  go_wp2_with (go_at_call 41; refine C.out.mono ?_; rintro e w' ⟨rfl, rfl⟩)
  go_ret
  exact ⟨ret_bool E.out, rfl⟩
set_option maxRecDepth 100000 in
set_option maxHeartbeats 2000000 in
theorem hasT19 (A : Option Addr) (n c : Nat) (zs : List T.Rc) (x : ByteArray) (w : World) (h : T.Rcs w A n c zs) : Calls Tryd.prog 19 #[.slice A n c, .string x] w fun e w' => e = .returned (.bool (hsT zs x)) ∧ w = w' := by
  have H := Lib.hid h
  have HL := Lib.hid h.len
  have hbig := h.rws.big
  unfold maxLen at hbig
  have HAt := Lib.hid (fun (k : Nat) (h1 : k < zs.length) (h2 : eqB (zs.getD k T.t0).s x = true) => hsT_at h1 h2)
  have HNo := Lib.hid (fun (h1 : ∀ j, j < zs.length → eqB (zs.getD j T.t0).s x = false) => hsT_no h1)
  generalize hsT zs x = r at *
  clear h
  go_enter Tryd.func19, Tryd.ntmps19
  go_wp2
  go_loopg [5] n (fun gg s8 wr => ∃ kk : Nat, kk ≤ n ∧ n - kk ≤ gg ∧ s8 = .int .i64 kk ∧ Hid (∀ j, j < kk → eqB (zs.getD j T.t0).s x = false) ∧ w = wr)
  case atStart => exact ⟨0, Nat.zero_le _, by omega, rfl, Lib.hid (fun j hj => absurd hj (Nat.not_lt_zero _)), rfl⟩
  case round =>
    obtain ⟨kk, hkk, hg, rfl, HN, rfl⟩ := hrel
    by_cases hlt : kk < n
    · have hltz : (kk : Int) < (n : Int) := by omega
      obtain ⟨b, off, rfl, _, k0⟩ := H.out.str hlt
      cases q1 : eqB (zs.getD kk T.t0).s x
      · have HN3 := Lib.hid (all_next (p := fun j => eqB (zs.getD j T.t0).s x) HN.out q1)
        unfold eqB at q1
        generalize (zs.getD kk T.t0).s = p at k0 q1
        clear HN
        go_wp2
        go_roundg (n - (kk + 1))
        case measure => omega
        case rel => exact ⟨kk + 1, by omega, by omega, by go_num, HN3, rfl⟩
      · have HE := Lib.hid (HAt.out kk (by rw [HL.out]; exact hlt) q1)
        unfold eqB at q1
        generalize (zs.getD kk T.t0).s = p at k0 q1
        clear HN
        go_wp2
        go_ret
        exact ⟨ret_bool HE.out.symm, rfl⟩
    · have hltz : ¬ (kk : Int) < (n : Int) := by omega
      have HE := Lib.hid (HNo.out (fun j hj => HN.out j (by rw [HL.out] at hj; omega)))
      clear HN
      go_wp2
      go_ret
      exact ⟨ret_bool HE.out.symm, rfl⟩
end Go.Proofs.YtaaaeeljjfblnaaDoor
