/- Identities of other networks: a map from identities to texts, of the call's own; byIdentity. Condition: texts' lengths. -/
import Derived.Test.YtkcceobncjoodaaR3
import Derived.Test.YtkcceobncjoodaaK2
import Derived.DeepKeys4
import Derived.Maps.Own
import Derived.Maps.OwnOps
import Derived.Maps.OwnSet
import Derived.Maps.Views
import Derived.Maps.StringElems
namespace Go.Proofs.Ytkcceobncjoodaa
open Go.RowKit Go.Maps
set_option linter.unusedVariables false
set_option linter.unusedSimpArgs false

theorem laidOut51 : laidOutB Try.prog = true := by kernel_rfl
theorem row63 : (63 : TypeId) < Try.prog.types.size := of_decide_eq_true (by kernel_rfl)
theorem wide63 : (match Try.prog.underlying 63 with | some (.array _ _) | some (.struct _) => true | _ => false) = true := by rw [Try.underlying63]
theorem law63 : Keyed Try.prog 63 := Keyed.of_law (deep_law_laid laidOut51 (m := 2) (by omega) row63 (by kernel_rfl) wide63)
theorem keyT63 : Try.prog.keyType 63 = true := by kernel_rfl
theorem cells63 : Try.prog.cellsOf 63 = 2 := by kernel_rfl
theorem cells9 : Try.prog.cellsOf 9 = 1 := by kernel_rfl
theorem lits63 (m : Nat) (u d : ByteArray) (hu : u.size ≤ maxLen) (hd : d.size ≤ maxLen) : Try.prog.keyLits (m + 2) 63 [.string u, .string d] = some [.string u.data.toList, .string d.data.toList] := by
  simp [Program.keyLits, Try.underlying63, Try.underlying9, cells63, cells9, hu, hd]
theorem types51 : ∃ m, Try.prog.types.size + 1 = m + 2 := by
  have h : 0 < Try.prog.types.size := Nat.lt_of_le_of_lt (Nat.zero_le 63) row63
  exact ⟨Try.prog.types.size - 1, by rw [show Try.prog.types.size - 1 + 2 = (Try.prog.types.size - 1 + 1) + 1 from rfl, Nat.sub_add_cancel h]⟩
def kL (u d : ByteArray) : Lit := .string (keyBytes [.string u.data.toList, .string d.data.toList])
theorem kL_key (u d : ByteArray) : WideAt.IsKeyLit (kL u d) := trivial
theorem key63 {u d : ByteArray} (hu : u.size ≤ maxLen) (hd : d.size ≤ maxLen) : keyOf Try.prog 63 (.agg #[.string u, .string d]) = some (kL u d) := by
  obtain ⟨m, hm⟩ := types51
  unfold keyOf
  rw [Try.underlying63]
  simp only [keyT63, hm]
  have hf : Value.formed Try.prog 63 (.agg #[.string u, .string d]) = true := by simp [Value.formed, Try.underlying63, cells63]
  rw [hf]
  have hc : (Value.agg #[.string u, .string d]).cells.toList = [.string u, .string d] := rfl
  rw [hc, lits63 m u d hu hd]
  rfl
theorem kL_inj {u d u' d' : ByteArray} (hu : u.size ≤ maxLen) (hd : d.size ≤ maxLen) (hu' : u'.size ≤ maxLen) (hd' : d'.size ≤ maxLen) (h : kL u d = kL u' d') : u = u' ∧ d = d' := by
  have := law63.inj (key63 hu hd) (h ▸ key63 hu' hd')
  simpa using this
def big (u : ByteArray) : Prop := u.size ≤ 9223372036854775807
theorem map60 : Try.prog.underlying 60 = some (.map 63 9) := Try.underlying60
theorem zero9 (w : World) : (zeroValue 9).run Try.prog w = .ok (.string ⟨#[]⟩) w := by kernel_rfl
/-- The map at M holds f. -/
structure MapU (w : World) (M n : Nat) (f : ByteArray → ByteArray → Option ByteArray) : Prop where
  ex : ∃ D : DataW Unit, w.ownsMap Try.prog 63 (plainElem Try.prog 9) M n D ∧ ∀ u d, big u → big d → has D (kL u d) = (f u d).isSome ∧ D.atKey (kL u d) (.lit (.string [])) = .lit (.string ((f u d).getD ⟨#[]⟩).data.toList)
section
variable {w w' : World} {M n : Nat} {f : ByteArray → ByteArray → Option ByteArray}
theorem MapU.lt (h : MapU w M n f) : M < w.heap.size := by obtain ⟨D, h1, _⟩ := h.ex; exact h1.lt
theorem MapU.made (w : World) : MapU (w.alloc (.map #[] 0)) w.heap.size 0 (fun _ _ => none) := ⟨.map [], World.ownsMap_made w _ _ _, fun u d _ _ => ⟨rfl, rfl⟩⟩
theorem MapU.kept (h : MapU w M n f) (hg : w'.heap[M]? = w.heap[M]?) : MapU w' M n f := by
  obtain ⟨D, ⟨es, clock, hb, r⟩, h2⟩ := h.ex
  exact ⟨D, ⟨es, clock, hg.trans hb, r⟩, h2⟩
theorem MapU.below (h : MapU w M n f) (hb : Below w.heap.size w w') : MapU w' M n f := h.kept (hb.block M h.lt)
theorem MapU.alloc (h : MapU w M n f) (o : Obj) : MapU (w.alloc o) M n f := h.below ((Below.refl _ w).alloc (Nat.le_refl _) o)
theorem MapU.drew (h : MapU w M n f) : MapU w.drew M n f := h.kept rfl
theorem MapU.ne (h : MapU w M n f) {g : Nat} {cs : List Value} {T : TypeId} (hb : Blk w g cs T) : M ≠ g := by
  obtain ⟨D, ⟨es, clock, h1, _⟩, _⟩ := h.ex
  rintro rfl
  rw [hb.heap] at h1
  cases h1
theorem MapU.ask (h : MapU w M n f) {u d : ByteArray} (hu : big u) (hd : big d) : (Instr.lookup 60 (.map (some M)) (.agg #[.string u, .string d]) true).run Try.prog w = .ok (.tuple #[.string ((f u d).getD ⟨#[]⟩), .bool (f u d).isSome]) w := by
  obtain ⟨D, h1, h2⟩ := h.ex
  obtain ⟨v, ps, hrun, hv⟩ := h1.look_ok law63 map60 (zero9 w) (plainElem_string Try.underlying9 (s := ⟨#[]⟩) (Nat.zero_le _)) (key63 (u := u) (d := d) (by unfold maxLen; exact hu) (by unfold maxLen; exact hd))
  rw [show (⟨#[]⟩ : ByteArray).data.toList = [] from rfl, (h2 u d hu hd).2] at hv
  obtain ⟨x, rfl, hz, _⟩ := plainElem_string_inv Try.underlying9 hv
  simp only [Prod.mk.injEq, DataW.lit.injEq, Lit.string.injEq] at hz
  rw [hrun, (h2 u d hu hd).1, show x = (f u d).getD ⟨#[]⟩ from ByteArray.ext (Array.ext' hz.1.symm)]
theorem MapU.run_put (h : MapU w M n f) (hn : n < 1000000000) {a b v : ByteArray} (ha : big a) (hb : big b) (hv : big v) : ∃ w', (Instr.mapUpdate 60 (.map (some M)) (.agg #[.string a, .string b]) (.string v)).run Try.prog w = .ok () w' ∧ MapU w' M (n + 1) (fun u d => if u = a ∧ d = b then some v else f u d) ∧ w.grownBy w' (some M) := by
  obtain ⟨D, h1, h2⟩ := h.ex
  obtain ⟨w', hrun, ho, hg⟩ := h1.update law63 map60 (by unfold maxLen; omega) (key63 (u := a) (d := b) (by unfold maxLen; exact ha) (by unfold maxLen; exact hb)) (plainElem_string Try.underlying9 (s := v) (by unfold maxLen; exact hv))
  refine ⟨w', hrun, ⟨_, ho, fun u d hu hd => ?_⟩, hg⟩
  by_cases e : u = a ∧ d = b
  · obtain ⟨rfl, rfl⟩ := e
    rw [if_pos ⟨rfl, rfl⟩, has_put_same h1.isMap (kL_key _ _), atKey_put_same h1.isMap (kL_key _ _)]
    exact ⟨rfl, rfl⟩
  · have hne : kL u d ≠ kL a b := fun e1 => e (kL_inj (by unfold maxLen; exact hu) (by unfold maxLen; exact hd) (by unfold maxLen; exact ha) (by unfold maxLen; exact hb) e1)
    rw [if_neg e, has_put_other hne, atKey_put_other hne]
    exact h2 u d hu hd
end
/-- The user of an identity: the first one of the list. -/
def idm (u d : ByteArray) (q : Rc) : Bool := decide (q.nt = u ∧ q.na = d)
theorem idm_iff {u d : ByteArray} {q : Rc} : idm u d q = true ↔ q.nt = u ∧ q.na = d := by unfold idm; simp
def idf (zs : List Rc) (u d : ByteArray) : Option ByteArray := (zs.find? (idm u d)).map Rc.us
theorem idf_old {zs : List Rc} {k : Nat} (h : k < zs.length) {x : ByteArray} (hx : idf (zs.take k) (zs.getD k t0).nt (zs.getD k t0).na = some x) : idf (zs.take (k + 1)) = idf (zs.take k) := by
  funext u d
  unfold idf at hx ⊢
  rw [List.take_succ_eq_append_getElem h, List.find?_append, getD_at h] at *
  cases hf : (zs.take k).find? (idm u d) with
  | some y => rfl
  | none =>
    have hz : idm u d zs[k] = false := by
      cases hd : idm u d zs[k]
      · rfl
      · obtain ⟨e1, e2⟩ := idm_iff.1 hd
        rw [e1, e2, hf] at hx
        cases hx
    simp [hz]
theorem idf_new {zs : List Rc} {k : Nat} (h : k < zs.length) (hx : idf (zs.take k) (zs.getD k t0).nt (zs.getD k t0).na = none) : idf (zs.take (k + 1)) = fun u d => if u = (zs.getD k t0).nt ∧ d = (zs.getD k t0).na then some (zs.getD k t0).us else idf (zs.take k) u d := by
  funext u d
  unfold idf at hx ⊢
  rw [List.take_succ_eq_append_getElem h, List.find?_append, getD_at h] at *
  by_cases e : u = zs[k].nt ∧ d = zs[k].na
  · obtain ⟨rfl, rfl⟩ := e
    rw [if_pos ⟨rfl, rfl⟩]
    rw [Option.map_eq_none_iff] at hx
    rw [hx]
    have hz : idm zs[k].nt zs[k].na zs[k] = true := idm_iff.2 ⟨rfl, rfl⟩
    simp [hz]
  · rw [if_neg e]
    have hz : idm u d zs[k] = false := by
      cases hd : idm u d zs[k]
      · rfl
      · exact absurd ⟨(idm_iff.1 hd).1.symm, (idm_iff.1 hd).2.symm⟩ e
    simp [hz]
theorem size63 : (Try.prog.info? 63).map (·.size) = some 2 := by kernel_rfl
theorem size59 : (Try.prog.info? 59).map (·.size) = some 3 := by kernel_rfl
theorem blk_new2 (w : World) (o : Obj) (cs : List Value) (T : TypeId) : Blk ((w.alloc o).alloc (.cells cs.toArray T)) (w.heap.size + 1) cs T := by
  have := blk_new (w.alloc o) cs T
  rwa [show (w.alloc o).heap.size = w.heap.size + 1 by simp] at this
theorem identity60 (p : Rc) (w : World) : Calls Try.prog 60 #[.agg #[.string p.nt, .string p.na, .string p.us]] w fun e w' => e = .returned (.agg #[.string p.nt, .string p.na]) ∧ Below w.heap.size w w' := by
  go_enter Try.func60, Try.ntmps60
  go_wp2
  refine bodyPost_ret (results_cell_mid rfl _ _ (w.heap.size + 1) [.string p.nt, .string p.na] 63 _ rfl (blk_new2 _ _ _ _) Try.underlying63 rfl size63) rfl ?_
  exact ⟨rfl, ((Below.refl _ w).alloc (Nat.le_refl _) _).alloc (by simp) _⟩
theorem below_put {w0 w w' : World} {M : Nat} (h : Below w0.heap.size w0 w) (hg : w.grownBy w' (some M)) (hB : w0.heap.size ≤ M) : Below w0.heap.size w0 w' := h.grown hg h.size (fun k e => by cases e; exact hB)
end Go.Proofs.Ytkcceobncjoodaa
