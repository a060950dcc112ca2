/- One-time keys: a map from devices to entries, of the call's own. No condition beyond texts' lengths. -/
import Derived.Test.YtkmocchikgmnbaaW4
import Derived.DeepKeys4
import Derived.Maps.Own
import Derived.Maps.OwnOps
import Derived.Maps.OwnSet
import Derived.Maps.RangeWalk
namespace Go.Proofs.Ytkmocchikgmnbaa
open Go.RowKit
open Go.Maps (Keyed)
set_option linter.unusedVariables false
set_option linter.unusedSimpArgs false

theorem laidOut44 : laidOutB Try.prog = true := by kernel_rfl
theorem row47 : (47 : TypeId) < Try.prog.types.size := of_decide_eq_true (by kernel_rfl)
theorem wide47 : (match Try.prog.underlying 47 with | some (.array _ _) | some (.struct _) => true | _ => false) = true := by rw [Try.underlying47]
theorem law47 : Keyed Try.prog 47 := Keyed.of_law (deep_law_laid laidOut44 (m := 2) (by omega) row47 (by kernel_rfl) wide47)
theorem keyT47 : Try.prog.keyType 47 = true := by kernel_rfl
theorem cells47 : Try.prog.cellsOf 47 = 2 := by kernel_rfl
theorem cells9 : Try.prog.cellsOf 9 = 1 := by kernel_rfl
theorem lits47 (m : Nat) (u d : ByteArray) (hu : u.size ≤ maxLen) (hd : d.size ≤ maxLen) : Try.prog.keyLits (m + 2) 47 [.string u, .string d] = some [.string u.data.toList, .string d.data.toList] := by
  simp [Program.keyLits, Try.underlying47, Try.underlying9, cells47, cells9, hu, hd]
theorem types44 : ∃ m, Try.prog.types.size + 1 = m + 2 := by
  have h : 0 < Try.prog.types.size := Nat.lt_of_le_of_lt (Nat.zero_le 47) row47
  exact ⟨Try.prog.types.size - 1, by rw [show Try.prog.types.size - 1 + 2 = (Try.prog.types.size - 1 + 1) + 1 from rfl, Nat.sub_add_cancel h]⟩
/-- A device as a key. -/
def mkK (x : ByteArray × ByteArray) : Value := .agg #[.string x.1, .string x.2]
def kL (u d : ByteArray) : Lit := .string (keyBytes [.string u.data.toList, .string d.data.toList])
theorem key47 {u d : ByteArray} (hu : u.size ≤ maxLen) (hd : d.size ≤ maxLen) : keyOf Try.prog 47 (.agg #[.string u, .string d]) = some (kL u d) := by
  obtain ⟨m, hm⟩ := types44
  unfold keyOf
  rw [Try.underlying47]
  simp only [keyT47, hm]
  have hf : Value.formed Try.prog 47 (.agg #[.string u, .string d]) = true := by simp [Value.formed, Try.underlying47, cells47]
  rw [hf]
  have hc : (Value.agg #[.string u, .string d]).cells.toList = [.string u, .string d] := rfl
  rw [hc, lits47 m u d hu hd]
  rfl
theorem kL_inj {u d u' d' : ByteArray} (hu : u.size ≤ maxLen) (hd : d.size ≤ maxLen) (hu' : u'.size ≤ maxLen) (hd' : d'.size ≤ maxLen) (h : kL u d = kL u' d') : u = u' ∧ d = d' := by
  have := law47.inj (key47 hu hd) (h ▸ key47 hu' hd')
  simpa using this

/-- An entry as an element. -/
def mkV (p : Rc) : Value := .agg #[.string p.us, .string p.dv, .int .i64 p.nx, .int .i64 p.lf]
theorem mkV_inj {p q : Rc} (h : mkV p = mkV q) : p = q := by
  unfold mkV at h
  simp only [Value.agg.injEq, Array.mk.injEq, List.cons.injEq, Value.string.injEq, Value.int.injEq, true_and, and_true] at h
  obtain ⟨h1, h2, h3, h4⟩ := h
  exact Rc.ext h1 h2 h3 h4
open Classical in
/-- How an element reads: as itself. -/
noncomputable def RV (v : Value) : Option (DataW Value × List MemPlace) := if ∃ p, v = mkV p ∧ fitR p then some (.held v, []) else none
theorem RV_mk {p : Rc} (h : fitR p) : RV (mkV p) = some (.held (mkV p), []) := by unfold RV; rw [if_pos ⟨p, rfl, h⟩]
theorem RV_inv {v : Value} {y : DataW Value × List MemPlace} (h : RV v = some y) : ∃ p, v = mkV p ∧ fitR p ∧ y = (.held (mkV p), []) := by
  unfold RV at h
  split at h
  · rename_i hp
    obtain ⟨p, rfl, hf⟩ := hp
    cases h
    exact ⟨p, rfl, hf, rfl⟩
  · cases h
def kO (p : Rc) : Lit := kL p.us p.dv
theorem kO_key (p : Rc) : WideAt.IsKeyLit (kO p) := trivial
/-- The same device. -/
def dev (u d : ByteArray) (q : Rc) : Bool := decide (q.us = u ∧ q.dv = d)
theorem dev_iff {u d : ByteArray} {q : Rc} : dev u d q = true ↔ q.us = u ∧ q.dv = d := by unfold dev; simp
theorem kL_eq {u d : ByteArray} (hu : u.size ≤ 9223372036854775807) (hd : d.size ≤ 9223372036854775807) {q : Rc} (hq : fitR q) : kO q = kL u d ↔ dev u d q = true := by
  rw [dev_iff]
  constructor
  · intro h
    exact kL_inj (by unfold maxLen; exact hq.1) (by unfold maxLen; exact hq.2) (by unfold maxLen; exact hu) (by unfold maxLen; exact hd) h
  · rintro ⟨h1, h2⟩; unfold kO; rw [h1, h2]
/-- The entries after a store. -/
def putL (zs : List Rc) (p : Rc) : List Rc := zs.filter (fun q => !dev p.us p.dv q) ++ [p]
/-- The entry of a device, or nothing. -/
def lk (zs : List Rc) (u d : ByteArray) : Rc := (zs.find? (dev u d)).getD t0
structure Rep (D : DataW Value) (zs : List Rc) : Prop where
  fwd : ∀ p ∈ zs, Maps.has D (kO p) = true ∧ ∀ z, D.atKey (kO p) z = .held (mkV p)
  bwd : ∀ kl, Maps.has D kl = true → ∃ p ∈ zs, kl = kO p
  fit : ∀ p ∈ zs, fitR p
theorem Rep.nil : Rep (.map []) [] := ⟨by simp, fun kl h => by simp [Maps.has] at h, by simp⟩
theorem Rep.put {D : DataW Value} {zs : List Rc} {p : Rc} (h : Rep D zs) (hD : Maps.IsMap D) (hp : fitR p) : Rep (D.put (kO p) (.held (mkV p))) (putL zs p) := by
  refine ⟨fun q hq => ?_, fun kl hk => ?_, fun q hq => ?_⟩
  · unfold putL at hq
    rcases List.mem_append.1 hq with hq | hq
    · obtain ⟨hq1, hq2⟩ := List.mem_filter.1 hq
      have hne : kO q ≠ kO p := fun e => by
        have := (kL_eq hp.1 hp.2 (h.fit q hq1)).1 e
        rw [this] at hq2; cases hq2
      exact ⟨by rw [Maps.has_put_other hne]; exact (h.fwd q hq1).1, fun z => by rw [Maps.atKey_put_other hne]; exact (h.fwd q hq1).2 z⟩
    · rw [List.mem_singleton] at hq
      subst hq
      exact ⟨Maps.has_put_same hD (kO_key q) _, fun z => Maps.atKey_put_same hD (kO_key q) _ z⟩
  · unfold putL
    by_cases e : kl = kO p
    · exact ⟨p, by simp, e⟩
    · rw [Maps.has_put_other e] at hk
      obtain ⟨q, hq, e2⟩ := h.bwd kl hk
      refine ⟨q, List.mem_append.2 (.inl (List.mem_filter.2 ⟨hq, ?_⟩)), e2⟩
      cases hd : dev p.us p.dv q
      · rfl
      · exact absurd (e2.trans ((kL_eq hp.1 hp.2 (h.fit q hq)).2 hd)) e
  · unfold putL at hq
    rcases List.mem_append.1 hq with hq | hq
    · exact h.fit q (List.mem_filter.1 hq).1
    · rw [List.mem_singleton] at hq; subst hq; exact hp
/-- The map at M holds zs, by their devices. -/
structure MapR (w : World) (M n : Nat) (zs : List Rc) : Prop where
  ex : ∃ D : DataW Value, w.ownsMap Try.prog 47 RV M n D ∧ Rep D zs
section
variable {w w' : World} {M n : Nat} {zs : List Rc}
theorem MapR.lt (h : MapR w M n zs) : M < w.heap.size := by obtain ⟨D, h1, _⟩ := h.ex; exact h1.lt
theorem MapR.made (w : World) : MapR (w.alloc (.map #[] 0)) w.heap.size 0 [] := ⟨.map [], World.ownsMap_made w _ _ _, Rep.nil⟩
theorem MapR.kept (h : MapR w M n zs) (hg : w'.heap[M]? = w.heap[M]?) : MapR w' M n zs := by
  obtain ⟨D, ⟨es, clock, hb, r⟩, h2⟩ := h.ex
  exact ⟨D, ⟨es, clock, hg.trans hb, r⟩, h2⟩
theorem MapR.below (h : MapR w M n zs) (hb : Below w.heap.size w w') : MapR w' M n zs := h.kept (hb.block M h.lt)
theorem MapR.alloc (h : MapR w M n zs) (o : Obj) : MapR (w.alloc o) M n zs := h.below ((Below.refl _ w).alloc (Nat.le_refl _) o)
theorem MapR.drew (h : MapR w M n zs) : MapR w.drew M n zs := h.kept rfl
theorem MapR.ne (h : MapR w M n zs) {g : Nat} {cs : List Value} {T : TypeId} (hb : Blk w g cs T) : M ≠ g := by
  obtain ⟨D, ⟨es, clock, h1, _⟩, _⟩ := h.ex
  rintro rfl
  rw [hb.heap] at h1
  cases h1
theorem MapR.fit (h : MapR w M n zs) : ∀ p ∈ zs, fitR p := by obtain ⟨D, _, h2⟩ := h.ex; exact h2.fit
theorem map52 : Try.prog.underlying 52 = some (.map 47 45) := Try.underlying52
theorem zero45 (w : World) : (zeroValue 45).run Try.prog w = .ok (mkV t0) w := by kernel_rfl
theorem fit0 : fitR t0 := ⟨Nat.zero_le _, Nat.zero_le _⟩
/-- What is read. -/
theorem MapR.look (h : MapR w M n zs) {u d : ByteArray} (hu : u.size ≤ 9223372036854775807) (hd : d.size ≤ 9223372036854775807) : (Instr.lookup 52 (.map (some M)) (.agg #[.string u, .string d]) false).run Try.prog w = .ok (mkV (lk zs u d)) w := by
  obtain ⟨D, h1, h2⟩ := h.ex
  obtain ⟨v, ps, hrun, hv⟩ := h1.lookup law47 map52 (zero45 w) (RV_mk fit0) (key47 (u := u) (d := d) (by unfold maxLen; exact hu) (by unfold maxLen; exact hd))
  obtain ⟨q, rfl, hq, e⟩ := RV_inv hv
  rw [hrun]
  have e' : D.atKey (kL u d) (.held (mkV t0)) = .held (mkV q) := congrArg Prod.fst e
  suffices q = lk zs u d by rw [this]
  unfold lk
  cases hf : zs.find? (dev u d) with
  | none =>
    have hn := List.find?_eq_none.1 hf
    have hh : Maps.has D (kL u d) = false := by
      cases hx : Maps.has D (kL u d)
      · rfl
      · obtain ⟨p, hp, e2⟩ := h2.bwd _ hx
        exact absurd ((kL_eq hu hd (h2.fit p hp)).1 e2.symm) (by simpa using hn p hp)
    rw [Maps.atKey_of_not_has hh] at e'
    exact (mkV_inj (by simpa using e')).symm
  | some p =>
    have hp := List.mem_of_find?_eq_some hf
    have hk : kO p = kL u d := (kL_eq hu hd (h2.fit p hp)).2 (List.find?_some hf)
    have := (h2.fwd p hp).2 (.held (mkV t0))
    rw [hk, e'] at this
    exact mkV_inj (by simpa using this)
/-- A store. -/
theorem MapR.run_put (h : MapR w M n zs) (hn : n < 1000000000) {p : Rc} (hp : fitR p) : ∃ w', (Instr.mapUpdate 52 (.map (some M)) (.agg #[.string p.us, .string p.dv]) (mkV p)).run Try.prog w = .ok () w' ∧ MapR w' M (n + 1) (putL zs p) ∧ w.grownBy w' (some M) := by
  obtain ⟨D, h1, h2⟩ := h.ex
  obtain ⟨w', hrun, ho, hg⟩ := h1.update law47 map52 (by unfold maxLen; omega) (key47 (u := p.us) (d := p.dv) (by unfold maxLen; exact hp.1) (by unfold maxLen; exact hp.2)) (RV_mk hp)
  exact ⟨w', hrun, ⟨_, ho, h2.put h1.isMap hp⟩, hg⟩
theorem wpList_putR {ops : Array Oper} {rest : List Oper} {o : Oper} {a : Act} {Q : Exit → Act → World → Prop}
    (hg : o.guard = none) (m x v : Operand) (hop : o.op = Op.mapUpdate 52 m x v) (M n : Nat) (zs : List Rc) (hm : a.eval m = .map (some M)) (h : MapR w M n zs) (hn : n < 1000000000)
    (p : Rc) (hp : fitR p) (hx : a.eval x = .agg #[.string p.us, .string p.dv]) (hv : a.eval v = mkV p)
    (hK : ∀ w', MapR w' M (n + 1) (putL zs p) → w.grownBy w' (some M) → wpList Try.prog ops Q rest (a.put o.dst undef) w') :
    wpList Try.prog ops Q (o :: rest) a w := by
  refine wpList_plain hg fun K' hK' => ?_
  obtain ⟨w', hrun, r1, r2⟩ := h.run_put hn hp
  unfold Oper.wp
  simp [execOp, hop, hm, hx, hv, hrun, Result.andThen]
  exact hK' _ _ (hK w' r1 r2)
end
end Go.Proofs.Ytkmocchikgmnbaa
