/- Maps of the call's own, whatever their keys and elements: made, read, written, ranged over. No condition on the program. -/
import Derived.Test.YtbkchcpfnoclhaaGreatG5
import Derived.DeepKeys4
import Derived.Maps.Own
import Derived.Maps.OwnOps
import Derived.Maps.OwnSet
import Derived.Maps.RangeWalk
import Derived.Maps.Views
import Derived.StringKeys
namespace Go.Proofs.YtbkchcpfnoclhaaGreat.MK
open Go.RowKit Go.Proofs.YtbkchcpfnoclhaaGreat
open Go.Maps (Keyed)
set_option linter.unusedVariables false
set_option linter.unusedSimpArgs false

/-- Keys. -/
structure KK (P : Program) (k : TypeId) (α : Type) where
  val : α → Value
  lit : α → Lit
  ok : α → Prop
  law : Keyed P k
  key : ∀ a, ok a → keyOf P k (val a) = some (lit a)
  inj : ∀ a b, ok a → ok b → lit a = lit b → a = b
  isk : ∀ a, WideAt.IsKeyLit (lit a)
  mkinj : ∀ a b, val a = val b → a = b
  inv : ∀ v kl, keyOf P k v = some kl → ∃ a, v = val a
/-- Elements. -/
structure EK (P : Program) (e : TypeId) (β : Type) where
  val : β → Value
  ok : β → Prop
  z : β
  zok : ok z
  inj : ∀ x y, val x = val y → x = y
  zero : ∀ w, (zeroValue e).run P w = .ok (val z) w
section
variable {P : Program} {k e : TypeId} {α β : Type}
open Classical in
noncomputable def EK.R (E : EK P e β) (v : Value) : Option (DataW Value × List MemPlace) := if ∃ x, v = E.val x ∧ E.ok x then some (.held v, []) else none
theorem EK.R_mk (E : EK P e β) {x : β} (h : E.ok x) : E.R (E.val x) = some (.held (E.val x), []) := by unfold EK.R; rw [if_pos ⟨x, rfl, h⟩]
theorem EK.R_inv (E : EK P e β) {v : Value} {y : DataW Value × List MemPlace} (h : E.R v = some y) : ∃ x, v = E.val x ∧ E.ok x ∧ y = (.held (E.val x), []) := by
  unfold EK.R at h
  split at h
  · rename_i hp
    obtain ⟨p, rfl, hf⟩ := hp
    cases h
    exact ⟨p, rfl, hf, rfl⟩
  · cases h
section
/-- The pairs after a store. -/
def putA [DecidableEq α] (zs : List (α × β)) (a : α) (b : β) : List (α × β) := zs.filter (fun q => decide (q.1 ≠ a)) ++ [(a, b)]
/-- What is at a key. -/
def lookA [DecidableEq α] (z : β) (zs : List (α × β)) (a : α) : β := ((zs.find? (fun q => decide (q.1 = a))).map (·.2)).getD z
def hasA [DecidableEq α] (zs : List (α × β)) (a : α) : Bool := zs.any (fun q => decide (q.1 = a))
theorem putA_len [DecidableEq α] (zs : List (α × β)) (a : α) (b : β) : (putA zs a b).length ≤ zs.length + 1 := by
  unfold putA
  rw [List.length_append]
  have := List.length_filter_le (fun q : α × β => decide (q.1 ≠ a)) zs
  simp only [List.length_cons, List.length_nil]
  omega
theorem mem_putA [DecidableEq α] {zs : List (α × β)} {a : α} {b : β} {p : α × β} : p ∈ putA zs a b ↔ (p ∈ zs ∧ p.1 ≠ a) ∨ p = (a, b) := by
  unfold putA
  rw [List.mem_append, List.mem_filter, List.mem_singleton, decide_eq_true_iff]
theorem find_filter_ne [DecidableEq α] {a c : α} (h : ¬ c = a) : ∀ zs : List (α × β), (zs.filter (fun q => decide (q.1 ≠ a))).find? (fun q => decide (q.1 = c)) = zs.find? (fun q => decide (q.1 = c))
  | [] => rfl
  | q :: r => by
    have ih := find_filter_ne h r
    rw [List.filter_cons, List.find?_cons]
    by_cases h1 : q.1 = a
    · rw [if_neg (by rw [decide_eq_false (fun h2 => h2 h1)]; decide), decide_eq_false (show ¬ q.1 = c from fun h2 => h (by rw [← h2, h1]))]
      exact ih
    · rw [if_pos (decide_eq_true h1), List.find?_cons]
      by_cases h2 : q.1 = c
      · rw [decide_eq_true h2]
      · rw [decide_eq_false h2]; exact ih
theorem find_putA [DecidableEq α] {zs : List (α × β)} {a : α} {b : β} {c : α} : (putA zs a b).find? (fun q => decide (q.1 = c)) = if c = a then some (a, b) else zs.find? (fun q => decide (q.1 = c)) := by
  unfold putA
  rw [List.find?_append]
  by_cases h : c = a
  · subst h
    rw [if_pos rfl, List.find?_eq_none.2 (fun x hx => by
      have := of_decide_eq_true (List.mem_filter.1 hx).2
      rw [decide_eq_false this]; decide)]
    rw [List.find?_cons, decide_eq_true rfl]; rfl
  · rw [if_neg h, find_filter_ne h]
    cases hf : zs.find? (fun q => decide (q.1 = c)) with
    | some x => rfl
    | none =>
      rw [List.find?_cons, decide_eq_false (show ¬ (a, b).1 = c from fun h3 => h h3.symm)]; rfl
theorem look_putA [DecidableEq α] (z : β) (zs : List (α × β)) (a : α) (b : β) (c : α) : lookA z (putA zs a b) c = if c = a then b else lookA z zs c := by
  unfold lookA
  rw [find_putA]
  split <;> rfl
theorem hasA_find [DecidableEq α] (zs : List (α × β)) (a : α) : hasA zs a = (zs.find? (fun q => decide (q.1 = a))).isSome := by
  unfold hasA
  rw [Bool.eq_iff_iff, List.any_eq_true, List.find?_isSome]
theorem has_putA [DecidableEq α] (zs : List (α × β)) (a : α) (b : β) (c : α) : hasA (putA zs a b) c = (decide (c = a) || hasA zs c) := by
  rw [hasA_find, hasA_find, find_putA]
  by_cases h : c = a
  · rw [if_pos h, decide_eq_true h]; rfl
  · rw [if_neg h, decide_eq_false h]; rfl
structure Rep (K : KK P k α) (E : EK P e β) (D : DataW Value) (zs : List (α × β)) : Prop where
  fwd : ∀ p ∈ zs, Maps.has D (K.lit p.1) = true ∧ ∀ z, D.atKey (K.lit p.1) z = .held (E.val p.2)
  bwd : ∀ kl, Maps.has D kl = true → ∃ p ∈ zs, kl = K.lit p.1
  fit : ∀ p ∈ zs, K.ok p.1 ∧ E.ok p.2
  dis : zs.Pairwise (fun p q => p.1 ≠ q.1)
theorem Rep.nil (K : KK P k α) (E : EK P e β) : Rep K E (.map []) [] := ⟨by simp, fun kl h => by simp [Maps.has] at h, by simp, List.Pairwise.nil⟩
theorem Rep.put [DecidableEq α] {K : KK P k α} {E : EK P e β} {D : DataW Value} {zs : List (α × β)} {a : α} {b : β} (h : Rep K E D zs) (hD : Maps.IsMap D) (ha : K.ok a) (hb : E.ok b) : Rep K E (D.put (K.lit a) (.held (E.val b))) (putA zs a b) := by
  refine ⟨fun q hq => ?_, fun kl hk => ?_, fun q hq => ?_, ?_⟩
  · rcases mem_putA.1 hq with ⟨hq1, hq2⟩ | rfl
    · have hne : K.lit q.1 ≠ K.lit a := fun e1 => hq2 (K.inj _ _ (h.fit q hq1).1 ha e1)
      exact ⟨by rw [Maps.has_put_other hne]; exact (h.fwd q hq1).1, fun z => by rw [Maps.atKey_put_other hne]; exact (h.fwd q hq1).2 z⟩
    · exact ⟨Maps.has_put_same hD (K.isk a) _, fun z => Maps.atKey_put_same hD (K.isk a) _ z⟩
  · by_cases e1 : kl = K.lit a
    · exact ⟨(a, b), mem_putA.2 (.inr rfl), e1⟩
    · rw [Maps.has_put_other e1] at hk
      obtain ⟨q, hq, e2⟩ := h.bwd kl hk
      exact ⟨q, mem_putA.2 (.inl ⟨hq, fun e3 => e1 (by rw [e2, e3])⟩), e2⟩
  · rcases mem_putA.1 hq with ⟨hq1, _⟩ | rfl
    · exact h.fit q hq1
    · exact ⟨ha, hb⟩
  · unfold putA
    refine List.pairwise_append.2 ⟨h.dis.filter _, by simp, fun x hx y hy => ?_⟩
    rw [List.mem_singleton] at hy
    subst hy
    have h2 := (List.mem_filter.1 hx).2
    exact of_decide_eq_true h2
/-- The map at M holds these pairs. -/
structure MapA (K : KK P k α) (E : EK P e β) (w : World) (M n : Nat) (zs : List (α × β)) : Prop where
  ex : ∃ D : DataW Value, w.ownsMap P k E.R M n D ∧ Rep K E D zs
variable {K : KK P k α} {E : EK P e β} {w w' : World} {M n : Nat} {zs : List (α × β)}
theorem MapA.lt (h : MapA K E w M n zs) : M < w.heap.size := by obtain ⟨D, h1, _⟩ := h.ex; exact h1.lt
theorem MapA.made (w : World) : MapA K E (w.alloc (.map #[] 0)) w.heap.size 0 [] := ⟨.map [], World.ownsMap_made w _ _ _, Rep.nil K E⟩
theorem MapA.kept (h : MapA K E w M n zs) (hg : w'.heap[M]? = w.heap[M]?) : MapA K E w' M n zs := by
  obtain ⟨D, ⟨es, clock, hb, r⟩, h2⟩ := h.ex
  exact ⟨D, ⟨es, clock, hg.trans hb, r⟩, h2⟩
theorem MapA.below (h : MapA K E w M n zs) (hb : Below w.heap.size w w') : MapA K E w' M n zs := h.kept (hb.block M h.lt)
theorem MapA.alloc (h : MapA K E w M n zs) (o : Obj) : MapA K E (w.alloc o) M n zs := h.below ((Below.refl _ w).alloc (Nat.le_refl _) o)
theorem MapA.drew (h : MapA K E w M n zs) : MapA K E w.drew M n zs := h.kept rfl
theorem MapA.grown (h : MapA K E w M n zs) {row : Option Nat} (hg : w.grownBy w' row) (hne : some M ≠ row) : MapA K E w' M n zs := h.kept (hg.block M h.lt hne)
theorem MapA.ne (h : MapA K E w M n zs) {g : Nat} {cs : List Value} {T : TypeId} (hb : Blk w g cs T) : M ≠ g := by
  obtain ⟨D, ⟨es, clock, h1, _⟩, _⟩ := h.ex
  rintro rfl
  rw [hb.heap] at h1
  cases h1
theorem MapA.ne_row (h : MapA K E w M n zs) {B : Nat} {T : TypeId} {sz m : Nat} {v : Value} {xs : List Value} (ho : w.ownsRow B T sz v m xs) : some M ≠ v.ownBlock := by
  obtain ⟨D, ⟨es, clock, h1, _⟩, _⟩ := h.ex
  rcases ho.2 with ⟨rfl, _⟩ | ⟨g, cap, cur, rfl, _, hb, _⟩
  · simp [Value.ownBlock]
  · intro e1
    simp [Value.ownBlock] at e1
    subst e1
    rw [hb] at h1
    cases h1
theorem MapA.fit (h : MapA K E w M n zs) : ∀ p ∈ zs, K.ok p.1 ∧ E.ok p.2 := by obtain ⟨D, _, h2⟩ := h.ex; exact h2.fit
theorem MapA.dis (h : MapA K E w M n zs) : zs.Pairwise (fun p q => p.1 ≠ q.1) := by obtain ⟨D, _, h2⟩ := h.ex; exact h2.dis
theorem Rep.at_ [DecidableEq α] {D : DataW Value} (h : Rep K E D zs) {a : α} (ha : K.ok a) {v : Value} {ps : List MemPlace} (hv : E.R v = some (D.atKey (K.lit a) (.held (E.val E.z)), ps)) : v = E.val (lookA E.z zs a) ∧ Maps.has D (K.lit a) = hasA zs a := by
  obtain ⟨q, rfl, hq, e1⟩ := E.R_inv hv
  have e' : D.atKey (K.lit a) (.held (E.val E.z)) = .held (E.val q) := congrArg Prod.fst e1
  unfold lookA
  rw [hasA_find]
  cases hf : zs.find? (fun q => decide (q.1 = a)) with
  | none =>
    have hn := List.find?_eq_none.1 hf
    have hh : Maps.has D (K.lit a) = false := by
      cases hx : Maps.has D (K.lit a)
      · rfl
      · obtain ⟨p, hp, e2⟩ := h.bwd _ hx
        exact absurd (decide_eq_true (K.inj _ _ (h.fit p hp).1 ha e2.symm)) (hn p hp)
    rw [Maps.atKey_of_not_has hh] at e'
    refine ⟨?_, hh⟩
    have : E.val E.z = E.val q := by simpa using e'
    rw [← this]; rfl
  | some p =>
    have hp := List.mem_of_find?_eq_some hf
    have hk := List.find?_some hf
    have hk' : p.1 = a := of_decide_eq_true hk
    subst hk'
    have h2 := (h.fwd p hp).2 (.held (E.val E.z))
    rw [e'] at h2
    refine ⟨?_, (h.fwd p hp).1⟩
    have : E.val q = E.val p.2 := by simpa using h2
    rw [this]; rfl
/-- What is read. -/
theorem MapA.look [DecidableEq α] (h : MapA K E w M n zs) {mt : TypeId} (ht : P.underlying mt = some (.map k e)) {a : α} (ha : K.ok a) : (Instr.lookup mt (.map (some M)) (K.val a) false).run P w = .ok (E.val (lookA E.z zs a)) w := by
  obtain ⟨D, h1, h2⟩ := h.ex
  obtain ⟨v, ps, hrun, hv⟩ := h1.lookup K.law ht (E.zero w) (E.R_mk E.zok) (K.key a ha)
  rw [hrun, (h2.at_ ha hv).1]
theorem MapA.look_ok [DecidableEq α] (h : MapA K E w M n zs) {mt : TypeId} (ht : P.underlying mt = some (.map k e)) {a : α} (ha : K.ok a) : (Instr.lookup mt (.map (some M)) (K.val a) true).run P w = .ok (.tuple #[E.val (lookA E.z zs a), .bool (hasA zs a)]) w := by
  obtain ⟨D, h1, h2⟩ := h.ex
  obtain ⟨v, ps, hrun, hv⟩ := h1.look_ok K.law ht (E.zero w) (E.R_mk E.zok) (K.key a ha)
  rw [hrun, (h2.at_ ha hv).1, (h2.at_ ha hv).2]
/-- A store. -/
theorem MapA.run_put [DecidableEq α] (h : MapA K E w M n zs) {mt : TypeId} (ht : P.underlying mt = some (.map k e)) (hn : n < 1000000000) {a : α} {b : β} (ha : K.ok a) (hb : E.ok b) : ∃ w', (Instr.mapUpdate mt (.map (some M)) (K.val a) (E.val b)).run P w = .ok () w' ∧ MapA K E w' M (n + 1) (putA zs a b) ∧ w.grownBy w' (some M) := by
  obtain ⟨D, h1, h2⟩ := h.ex
  obtain ⟨w', hrun, ho, hg⟩ := h1.update K.law ht (by unfold maxLen; omega) (K.key a ha) (E.R_mk hb)
  exact ⟨w', hrun, ⟨_, ho, h2.put h1.isMap ha hb⟩, hg⟩
theorem wpList_putA [DecidableEq α] {ops : Array Oper} {rest : List Oper} {o : Oper} {a : Act} {Q : Exit → Act → World → Prop} (hg : o.guard = none) (m x v : Operand) (mt : TypeId) (hop : o.op = Op.mapUpdate mt m x v) (ht : P.underlying mt = some (.map k e)) (M n : Nat) (zs : List (α × β)) (hm : a.eval m = .map (some M)) (h : MapA K E w M n zs) (hn : n < 1000000000)
    (c : α) (b : β) (hc : K.ok c) (hb : E.ok b) (hx : a.eval x = K.val c) (hv : a.eval v = E.val b)
    (hK : ∀ w', MapA K E w' M (n + 1) (putA zs c b) → w.grownBy w' (some M) → wpList P ops Q rest (a.put o.dst undef) w') :
    wpList P ops Q (o :: rest) a w := by
  refine wpList_plain hg fun K' hK' => ?_
  obtain ⟨w', hrun, r1, r2⟩ := h.run_put ht hn hc hb
  unfold Oper.wp
  simp [execOp, hop, hm, hx, hv, hrun, Result.andThen]
  exact hK' _ _ (hK w' r1 r2)
/-- What has been collected of a map. -/
structure Coll (K : KK P k α) (E : EK P e β) (D : DataW Value) (left : Lit → Bool) (ys : List (α × β)) : Prop where
  got : ∀ y ∈ ys, K.ok y.1 ∧ Maps.has D (K.lit y.1) = true ∧ ∀ z, D.atKey (K.lit y.1) z = .held (E.val y.2)
  rest : ∀ kl, left kl = true ↔ (Maps.has D kl = true ∧ ∀ y ∈ ys, K.lit y.1 ≠ kl)
  dist : ys.Pairwise (fun p q => p.1 ≠ q.1)
theorem Coll.start (D : DataW Value) : Coll K E D (Maps.has D) [] := ⟨by simp, fun kl => by simp, List.Pairwise.nil⟩
theorem Coll.step {D : DataW Value} {left : Lit → Bool} {ys : List (α × β)} (h : Coll K E D left ys) (hr : Rep K E D zs) {a : α} {kl : Lit} {c : β} {y : DataW Value × List MemPlace} (hk : keyOf P k (K.val a) = some kl) (hl : left kl = true) (hv : E.R (E.val c) = some y) (hat : ∀ zd, D.atKey kl zd = y.1) :
    (a, c) ∈ zs ∧ Coll K E D (fun z => left z && !z.sameKey kl) (ys ++ [(a, c)]) := by
  obtain ⟨q, e1, hq, rfl⟩ := E.R_inv hv
  obtain rfl := E.inj _ _ e1
  have h0 := (h.rest kl).1 hl
  obtain ⟨p, hp, rfl⟩ := hr.bwd kl h0.1
  have hpa : p.1 = a := K.mkinj _ _ (K.law.inj (K.key p.1 (hr.fit p hp).1) hk)
  have h1 := (hr.fwd p hp).2 .nil
  rw [hat] at h1
  have hc : c = p.2 := E.inj _ _ (by simpa using h1)
  have hpe : p = (a, c) := by rw [← hpa, hc]
  subst hpe
  refine ⟨hp, ⟨fun y hy => ?_, fun k2 => ?_, ?_⟩⟩
  · rcases List.mem_append.1 hy with hy | hy
    · exact h.got y hy
    · rw [List.mem_singleton] at hy; subst hy
      exact ⟨(hr.fit _ hp).1, h0.1, fun z => (hr.fwd _ hp).2 z⟩
  · by_cases e2 : k2 = K.lit a
    · subst e2
      rw [WideAt.sameKey_self (K.isk a)]
      simp only [Bool.not_true, Bool.and_false, Bool.false_eq_true, false_iff, not_and]
      intro _ h3
      exact h3 (a, c) (by simp) rfl
    · have hs : k2.sameKey (K.lit a) = false := by
        cases hs : k2.sameKey (K.lit a)
        · rfl
        · exact absurd (WideAt.sameKey_eq hs) e2
      show (left k2 && !k2.sameKey (K.lit a)) = true ↔ _
      rw [hs, Bool.not_false, Bool.and_true, h.rest k2]
      constructor
      · rintro ⟨b1, b2⟩
        refine ⟨b1, fun y hy => ?_⟩
        rcases List.mem_append.1 hy with hy | hy
        · exact b2 y hy
        · rw [List.mem_singleton] at hy; subst hy; exact fun e3 => e2 e3.symm
      · rintro ⟨b1, b2⟩
        exact ⟨b1, fun y hy => b2 y (List.mem_append.2 (.inl hy))⟩
  · refine List.pairwise_append.2 ⟨h.dist, by simp, fun x hx y hy => ?_⟩
    rw [List.mem_singleton] at hy; subst hy
    intro hs
    exact h0.2 x hx (by rw [hs])
theorem Coll.done {D : DataW Value} {left : Lit → Bool} {ys : List (α × β)} (h : Coll K E D left ys) (hr : Rep K E D zs) (hl : ∀ kl, left kl = false) : ys.Perm zs := by
  have hm : ∀ y, y ∈ ys ↔ y ∈ zs := by
    intro y
    constructor
    · intro hy
      obtain ⟨hf, h1, h2⟩ := h.got y hy
      obtain ⟨p, hp, e1⟩ := hr.bwd _ h1
      have h4 : y.1 = p.1 := K.inj _ _ hf (hr.fit p hp).1 e1
      have h3 := (hr.fwd p hp).2 .nil
      rw [← e1, h2] at h3
      have h5 : y.2 = p.2 := E.inj _ _ (by simpa using h3)
      rw [show y = p from Prod.ext h4 h5]
      exact hp
    · intro hy
      obtain ⟨h1, h2⟩ := hr.fwd y hy
      have h3 : ¬ (Maps.has D (K.lit y.1) = true ∧ ∀ x ∈ ys, K.lit x.1 ≠ K.lit y.1) := fun h4 => by have h5 := hl (K.lit y.1); rw [(h.rest _).2 h4] at h5; cases h5
      have h4 : ∃ x ∈ ys, K.lit x.1 = K.lit y.1 := Classical.byContradiction fun h5 => h3 ⟨h1, fun x hx e1 => h5 ⟨x, hx, e1⟩⟩
      obtain ⟨x, hx, e1⟩ := h4
      have h6 : x.1 = y.1 := K.inj _ _ (h.got x hx).1 (hr.fit y hy).1 e1
      have h5 := (h.got x hx).2.2 .nil
      rw [e1, h2] at h5
      have h7 : y.2 = x.2 := E.inj _ _ (by simpa using h5)
      rw [show y = x from Prod.ext h6.symm h7]
      exact hx
  have nd : ∀ {l : List (α × β)}, l.Pairwise (fun p q => p.1 ≠ q.1) → l.Nodup := fun h => h.imp fun {a b} hab e1 => hab (by rw [e1])
  exact (List.perm_ext_iff_of_nodup (nd h.dist) (nd hr.dis)).2 hm
end
end
/-- Keys that are numbers. -/
def kInt {P : Program} {k : TypeId} (h : P.underlying k = some (.int .i64)) : KK P k Int where
  val := .int .i64
  lit := .int .i64
  ok z := -9223372036854775808 ≤ z ∧ z ≤ 9223372036854775807
  law := Maps.int_keyed h
  key a ha := Maps.keyOf_int_mk h (WalkArith.wf_i64 ha)
  inj a b _ _ h := by cases h; rfl
  isk _ := trivial
  mkinj a b h := by cases h; rfl
  inv v kl h1 := by obtain ⟨x, rfl, _⟩ := Maps.keyOf_int_inv h h1; exact ⟨x, rfl⟩
/-- Keys that are texts. -/
def kStr {P : Program} {k : TypeId} (h : P.underlying k = some .string) : KK P k ByteArray where
  val := .string
  lit s := .string s.data.toList
  ok s := s.size ≤ 9223372036854775807
  law := Maps.string_keyed h
  key a ha := WideMaps.keyOf_string_mk h (by unfold maxLen; exact ha)
  inj a b _ _ h := by
    have h1 : a.data.toList = b.data.toList := by injection h
    cases a; cases b
    congr
    exact Array.toList_inj.1 h1
  isk _ := trivial
  mkinj a b h := by cases h; rfl
  inv v kl h1 := by obtain ⟨s, rfl, _⟩ := WideMaps.string_of_keyOf h h1; exact ⟨s, rfl⟩
/-- Elements that are marks. -/
def eBool {P : Program} {e : TypeId} (hz : ∀ w, (zeroValue e).run P w = .ok (.bool false) w) : EK P e Bool where
  val := .bool
  ok _ := True
  z := false
  zok := trivial
  inj x y h := by cases h; rfl
  zero := hz
def eInt {P : Program} {e : TypeId} (hz : ∀ w, (zeroValue e).run P w = .ok (.int .i64 0) w) : EK P e Int where
  val := .int .i64
  ok _ := True
  z := 0
  zok := trivial
  inj x y h := by cases h; rfl
  zero := hz
end Go.Proofs.YtbkchcpfnoclhaaGreat.MK
