/- Names of the program: what has been seen, and the closure that collects. Bounds: at most 1000000 texts. -/
import Derived.Test.YtbkchcpfnoclhaaGreatIW6
import Derived.OwnWalk
import Derived.OneCell
import Derived.Laws.OwnMore
import Derived.Laws.AppendOwnNone
import Derived.Laws.CopyOwn
import Derived.Maps.OwnOps
import Derived.Maps.Views
import Derived.StillTailTactics
namespace Go.Proofs.YtbkchcpfnoclhaaGreat
open Go.RowKit Go.Maps Go.Proofs
set_option linter.unusedVariables false

theorem lookup_bool {H : Type} {P : Program} (w : World) {ops : Array Oper} {rest : List Oper} {o : Oper} {a : Act} {Q : Exit → Act → World → Prop}
    (hg : o.guard = none) (m x : Operand) (t : TypeId) (hop : o.op = Op.lookup t m x false)
    (k e : TypeId) (K : Keyed P k) (ht : P.underlying t = some (.map k e)) (he : P.underlying e = some .bool) (hz : (zeroValue e).run P w = .ok (.bool false) w) (b n : Nat) (D : DataW H)
    (hm : a.eval m = .map (some b)) (hown : w.ownsMap P k (plainElem P e) b n D) (key : Value) (kl : Lit) (hx : a.eval x = key) (hkey : keyOf P k key = some kl)
    (d : Bool) (hd : D.atKey kl (.lit (.bool false)) = .lit (.bool d)) (hK : wpList P ops Q rest (a.put o.dst (.bool d)) w) :
    wpList P ops Q (o :: rest) a w := by
  refine wpList_plain hg fun K' hK' => ?_
  obtain ⟨v, ps, hrun, hv⟩ := hown.lookup K ht hz (plainElem_bool he false) hkey
  obtain ⟨c, rfl, hc⟩ : ∃ c, v = .bool c ∧ D.atKey kl (.lit (.bool false)) = .lit (.bool c) := by
    unfold plainElem at hv
    rw [he] at hv
    cases v <;> simp at hv
    exact ⟨_, rfl, hv.1.symm⟩
  obtain rfl : d = c := by
    rw [hd] at hc
    cases hc; rfl
  unfold Oper.wp
  simp [execOp, hop, hm, hx, hrun, Result.andThen]
  exact hK' _ _ hK

/-- What has been seen, as a map. -/
def seen (acc : List I.Txt) : DataW Unit := Maps.setOf (.lit (.bool true)) (acc.map Lit.string)
theorem seen_keys (acc : List I.Txt) : ∀ x ∈ acc.map Lit.string, WideAt.IsKeyLit x := by
  intro x hx
  obtain ⟨s, _, rfl⟩ := List.mem_map.1 hx
  exact trivial
theorem seen_snoc (acc : List I.Txt) (x : I.Txt) : seen (acc ++ [x]) = (seen acc).put (.string x) (.lit (.bool true)) := by
  unfold seen
  rw [List.map_append, List.map_singleton, Maps.setOf_snoc]
theorem seen_has (acc : List I.Txt) (x : I.Txt) : Maps.has (seen acc) (.string x) = decide (x ∈ acc) := by
  unfold seen
  rw [Maps.has_setOf _ _ _ (seen_keys acc), List.any_map]
  rw [Bool.eq_iff_iff]
  simp [Lit.sameKey]
theorem fold_at (x : I.Txt) (u z : DataW Unit) : ∀ (acc : List I.Txt) (D : DataW Unit), Maps.IsMap D → ((acc.map Lit.string).foldl (fun m y => m.put y u) D).atKey (.string x) z = if x ∈ acc then u else D.atKey (.string x) z := by
  intro acc
  induction acc with
  | nil => intro D _; simp
  | cons y acc ih =>
    intro D hD
    rw [List.map_cons, List.foldl_cons, ih _ (hD.put _ _)]
    by_cases hx : x ∈ acc
    · rw [if_pos hx, if_pos (List.mem_cons_of_mem _ hx)]
    · rw [if_neg hx]
      by_cases h : y = x
      · subst h
        rw [Maps.atKey_put_same hD (show WideAt.IsKeyLit (.string y) from trivial), if_pos List.mem_cons_self]
      · rw [Maps.atKey_put_other (by intro e; apply h; cases e; rfl), if_neg]
        intro hm
        rcases List.mem_cons.1 hm with e | e
        · exact h e.symm
        · exact hx e
theorem seen_at (acc : List I.Txt) (x : I.Txt) : (seen acc).atKey (.string x) (.lit (.bool false)) = .lit (.bool (decide (x ∈ acc))) := by
  unfold seen Maps.setOf
  rw [fold_at x _ _ acc _ Maps.isMap_empty]
  by_cases h : x ∈ acc
  · rw [if_pos h, decide_eq_true h]
  · rw [if_neg h, decide_eq_false h]; rfl

theorem law9 : Keyed Tryz.prog 9 := string_keyed Tryz.underlying9
theorem zero4 (w : World) : (zeroValue 4).run Tryz.prog w = .ok (.bool false) w := by kernel_rfl
theorem info9 : (Tryz.prog.info? 9).map (fun i => (i.zero, i.size, i.bytes)) = some (some (.string ⟨#[]⟩), 1, 16) := by kernel_rfl
theorem info30 : Tryz.prog.underlying 56 = some (.slice 9) := by kernel_rfl
theorem info47 : Tryz.prog.underlying 88 = some (.map 9 4) := by kernel_rfl
theorem under4 : Tryz.prog.underlying 4 = some .bool := by kernel_rfl

/-- The memory of Names while it collects: three cells, the map of what has been seen, the row of names. -/
structure St (B C S G M : Nat) (w : World) (v : Value) (acc : List I.Txt) : Prop where
  hc : w.heap[C]? = some (.cells #[.func (.func 59) #[] #[.pointer (some ⟨C, 0, none⟩), .pointer (some ⟨S, 0, none⟩), .pointer (some ⟨G, 0, none⟩)]] 89 (0, 0))
  hs : w.heap[S]? = some (.cells #[.map (some M)] 88 (0, 0))
  hg : w.heap[G]? = some (.cells #[v] 56 (0, 0))
  hm : w.ownsMap Tryz.prog 9 (plainElem Tryz.prog 4) M acc.length (seen acc)
  hr : w.ownsRow B 9 1 v acc.length (acc.map encStr)
  bC : B ≤ C
  bS : B ≤ S
  bG : B ≤ G
  bM : B ≤ M
theorem row_apart {w : World} {B n g : Nat} {v : Value} {xs : List Value} (h : w.ownsRow B 9 1 v n xs) {cs : Array Value} {e : TypeId} (hg : w.heap[g]? = some (.cells cs e (0, 0))) (he : e ≠ 9) : v.ownBlock ≠ some g := by
  rcases h.2 with ⟨rfl, _⟩ | ⟨g', cap, cur, rfl, _, hb, _⟩
  · simp [Value.ownBlock]
  · intro e1
    have : g' = g := by simpa [Value.ownBlock] using e1
    subst this
    rw [hg] at hb
    cases hb
    exact he rfl
theorem row_map {w : World} {B n m : Nat} {v : Value} {xs : List Value} {D : DataW Unit} {R : Value → Option (DataW Unit × List MemPlace)} {k : Nat} (h : w.ownsRow B 9 1 v n xs) (hm : w.ownsMap Tryz.prog 9 R m k D) : v.ownBlock ≠ some m := by
  obtain ⟨es, clock, hb', _⟩ := hm
  rcases h.2 with ⟨rfl, _⟩ | ⟨g', cap, cur, rfl, _, hb, _⟩
  · simp [Value.ownBlock]
  · intro e1
    have : g' = m := by simpa [Value.ownBlock] using e1
    subst this
    rw [hb'] at hb
    cases hb
theorem grown_block {w w' : World} {row : Option Nat} (hg : w.grownBy w' row) {b : Nat} {o : Obj} (h : w.heap[b]? = some o) (hne : row ≠ some b) : w'.heap[b]? = some o :=
  (hg.5 b (lt_of_block h) (Ne.symm hne)).trans h
theorem block_map {w : World} {m k : Nat} {D : DataW Unit} {R : Value → Option (DataW Unit × List MemPlace)} (hm : w.ownsMap Tryz.prog 9 R m k D) {g : Nat} {cs : Array Value} {e : TypeId} (hg : w.heap[g]? = some (.cells cs e (0, 0))) : (some m : Option Nat) ≠ some g := by
  obtain ⟨es, clock, hb', _⟩ := hm
  intro e1
  cases e1
  rw [hg] at hb'
  cases hb'
theorem map_keep {w w' : World} {m k : Nat} {D : DataW Unit} {R : Value → Option (DataW Unit × List MemPlace)} (hm : w.ownsMap Tryz.prog 9 R m k D) (h : w'.heap[m]? = w.heap[m]?) : w'.ownsMap Tryz.prog 9 R m k D := by
  obtain ⟨es, clock, hb', r⟩ := hm
  exact ⟨es, clock, h.trans hb', r⟩
/-- One name more. -/
theorem st_add {B C S G M : Nat} {w w1 w2 : World} {v v' : Value} {acc : List I.Txt} (h : St B C S G M w v acc) (t : ByteArray)
    (hm1 : w1.ownsMap Tryz.prog 9 (plainElem Tryz.prog 4) M (acc.length + 1) ((seen acc).put (.string t.data.toList) (.lit (.bool true)))) (g1 : w.grownBy w1 (some M))
    (hr2 : w2.ownsRow B 9 1 v' (acc.length + 1) (acc.map encStr ++ [.string t])) (g2 : (w1.alloc (.cells #[.string t] 9)).grownBy w2 v.ownBlock) (hB : B ≤ w.heap.size) :
    St B C S G M (w2.setCell ⟨G, 0, none⟩ v') v' (acc ++ [t.data.toList]) ∧ Below B w (w2.setCell ⟨G, 0, none⟩ v') := by
  have n1 := row_apart h.hr h.hc (by decide)
  have n2 := row_apart h.hr h.hs (by decide)
  have n3 := row_apart h.hr h.hg (by decide)
  have n4 := row_map h.hr h.hm
  have up : ∀ {b : Nat} {o : Obj}, w1.heap[b]? = some o → v.ownBlock ≠ some b → w2.heap[b]? = some o := fun {b o} hb hn => grown_block g2 ((Below.heap_alloc w1 _ b (lt_of_block hb)).trans hb) hn
  have c1 := up (grown_block g1 h.hc (block_map h.hm h.hc)) n1
  have c2 := up (grown_block g1 h.hs (block_map h.hm h.hs)) n2
  have c3 := up (grown_block g1 h.hg (block_map h.hm h.hg)) n3
  have m2 : w2.ownsMap Tryz.prog 9 (plainElem Tryz.prog 4) M (acc.length + 1) ((seen acc).put (.string t.data.toList) (.lit (.bool true))) := by
    refine map_keep hm1 ?_
    obtain ⟨es, clock, hb', _⟩ := hm1
    rw [hb']
    exact up hb' n4
  have d1 : C ≠ G := by rintro rfl; rw [c1] at c3; cases c3
  have d2 : S ≠ G := by rintro rfl; rw [c2] at c3; cases c3
  have d3 : M ≠ G := fun e => block_map m2 c3 (congrArg some e)
  have hrow' : (w2.setCell ⟨G, 0, none⟩ v').ownsRow B 9 1 v' (acc.length + 1) (acc.map encStr ++ [.string t]) :=
    ownsRow_setCell_other hr2 (a := ⟨G, 0, none⟩) (row_apart hr2 c3 (by decide)) v'
  refine ⟨⟨?_, ?_, one_setCell c3, ?_, ?_, h.bC, h.bS, h.bG, h.bM⟩, ?_⟩
  · rw [Below.heap_setCell w2 ⟨G, 0, none⟩ v' C d1]; exact c1
  · rw [Below.heap_setCell w2 ⟨G, 0, none⟩ v' S d2]; exact c2
  · rw [List.length_append, List.length_singleton, seen_snoc]
    exact map_keep m2 (Below.heap_setCell w2 ⟨G, 0, none⟩ v' M d3)
  · rw [List.length_append, List.length_singleton, List.map_append, List.map_singleton]
    exact hrow'
  · have b1 : Below B w w1 := (Below.refl B w).grown g1 hB (fun k hk => by cases hk; exact h.bM)
    have hB1 : B ≤ w1.heap.size := Nat.le_trans hB b1.size
    have b2 : Below B w w2 := (b1.alloc hB1 _).grown g2 (by simp; omega) (fun k hk => (h.hr.lt k hk).1)
    exact b2.setCell (p := ⟨G, 0, none⟩) h.bG v'
end Go.Proofs.YtbkchcpfnoclhaaGreat
