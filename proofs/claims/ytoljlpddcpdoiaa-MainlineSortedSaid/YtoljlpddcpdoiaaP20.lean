/- The mainline: the reference's Order in pure words; it is the same list. An append onto a slice without room. No program. -/
import Derived.Test.YtoljlpddcpdoiaaP19
import Derived.Test.YtoljlpddcpdoiaaL10
namespace Go.Proofs.Ytoljlpddcpdoiaa
open Go Go.RowKit Go.Maps
set_option linter.unusedVariables false
set_option linter.unusedSimpArgs false

namespace Pl
theorem insP_at {p : Rc} : ∀ {l : List Rc} {k : Nat}, k ≤ l.length → (∀ j, j < k → ltP (l.getD j t0) p) → (k < l.length → ¬ ltP (l.getD k t0) p) → insP p l = l.take k ++ p :: l.drop k
  | [], k, h, _, _ => by
    have : k = 0 := by simpa using h
    subst this; rfl
  | q :: r, 0, _, _, h2 => by
    have h3 : ¬ ltP q p := h2 (by simp)
    unfold insP
    rw [if_neg h3]; rfl
  | q :: r, k + 1, h, h1, h2 => by
    have h3 : ltP q p := h1 0 (by omega)
    unfold insP
    rw [if_pos h3, insP_at (l := r) (k := k) (by simpa using h) (fun j hj => h1 (j + 1) (by omega)) (fun hk => h2 (by simpa using hk))]; rfl
end Pl
def ordS (E : Nat → Me) (n : Nat) (ms : List Int) (n1 : Nat) (acc : List Pl.Rc) (id : Int) : List Pl.Rc := match plOf E n ms n1 id with
  | some p => if id ∈ acc.map (·.id) then acc else Pl.insP p acc
  | none => acc
def ordR (E : Nat → Me) (n : Nat) (ms : List Int) (n1 : Nat) (zs : List Int) : List Pl.Rc := zs.foldl (ordS E n ms n1) []
theorem ordR_succ (E : Nat → Me) (n : Nat) (ms : List Int) (n1 : Nat) {zs : List Int} {k : Nat} (h : k < zs.length) : ordR E n ms n1 (zs.take (k + 1)) = ordS E n ms n1 (ordR E n ms n1 (zs.take k)) (zs.getD k 0) := by
  unfold ordR
  rw [List.take_succ_eq_append_getElem h, List.foldl_append, List.getD_eq_getElem?_getD, List.getElem?_eq_getElem h]
  rfl
structure OrdI (E : Nat → Me) (n : Nat) (ms : List Int) (n1 : Nat) (acc : List Pl.Rc) (seen : List Int) : Prop where
  srt : Pl.Srt acc
  mem : ∀ p, p ∈ acc ↔ p.id ∈ seen ∧ plOf E n ms n1 p.id = some p
theorem OrdI.ids {E : Nat → Me} {n : Nat} {ms : List Int} {n1 : Nat} {acc : List Pl.Rc} {seen : List Int} (h : OrdI E n ms n1 acc seen) {id : Int} {p : Pl.Rc} (hp : plOf E n ms n1 id = some p) : id ∈ acc.map (·.id) ↔ p ∈ acc := by
  have hid := plOf_id hp
  rw [List.mem_map]
  constructor
  · rintro ⟨q, hq, e⟩
    have h2 := ((h.mem q).1 hq).2
    rw [e, hp] at h2
    cases h2
    exact hq
  · intro hq
    exact ⟨p, hq, hid⟩
theorem OrdI.step {E : Nat → Me} {n : Nat} {ms : List Int} {n1 : Nat} {acc : List Pl.Rc} {seen : List Int} (h : OrdI E n ms n1 acc seen) (id : Int) : OrdI E n ms n1 (ordS E n ms n1 acc id) (seen ++ [id]) := by
  unfold ordS
  cases hp : plOf E n ms n1 id with
  | none =>
    refine ⟨h.srt, fun p => ?_⟩
    simp only []
    rw [h.mem, List.mem_append, List.mem_singleton]
    constructor
    · rintro ⟨a, b⟩; exact ⟨.inl a, b⟩
    · rintro ⟨a | a, b⟩
      · exact ⟨a, b⟩
      · rw [a, hp] at b; cases b
  | some p =>
    have hid := plOf_id hp
    simp only []
    split
    · rename_i hin
      refine ⟨h.srt, fun q => ?_⟩
      rw [h.mem, List.mem_append, List.mem_singleton]
      constructor
      · rintro ⟨a, b⟩; exact ⟨.inl a, b⟩
      · rintro ⟨a | a, b⟩
        · exact ⟨a, b⟩
        · have hpa := (h.ids hp).1 hin
          rw [a, hp] at b
          cases b
          exact (h.mem p).1 hpa
    · rename_i hin
      have hn : p ∉ acc := fun e => hin ((h.ids hp).2 e)
      refine ⟨Pl.insP_srt h.srt hn, fun q => ?_⟩
      rw [(Pl.insP_perm p acc).mem_iff, List.mem_cons, h.mem, List.mem_append, List.mem_singleton]
      constructor
      · rintro (rfl | ⟨a, b⟩)
        · exact ⟨.inr hid, by rw [hid]; exact hp⟩
        · exact ⟨.inl a, b⟩
      · rintro ⟨a | a, b⟩
        · exact .inr ⟨a, b⟩
        · rw [a, hp] at b; cases b; exact .inl rfl
theorem ordR_inv (E : Nat → Me) (n : Nat) (ms : List Int) (n1 : Nat) (zs : List Int) : ∀ k, k ≤ zs.length → OrdI E n ms n1 (ordR E n ms n1 (zs.take k)) (zs.take k)
  | 0, _ => by rw [List.take_zero]; exact ⟨List.Pairwise.nil, fun p => by simp [ordR]⟩
  | k + 1, h => by
    have h1 := (ordR_inv E n ms n1 zs k (by omega)).step (zs.getD k 0)
    rw [ordR_succ E n ms n1 (by omega)]
    rw [show zs.take (k + 1) = zs.take k ++ [zs.getD k 0] by rw [List.take_succ_eq_append_getElem (by omega), List.getD_eq_getElem?_getD, List.getElem?_eq_getElem (by omega)]; rfl]
    exact h1
theorem srt_nodupP {l : List Pl.Rc} (h : Pl.Srt l) : l.Nodup := List.nodup_iff_pairwise_ne.2 (List.Pairwise.imp (fun {a b} (hab : Pl.ltP a b) (e : a = b) => by subst e; exact Pl.ltP_asymm hab hab) h)
theorem ordR_eq (E : Nat → Me) (n : Nat) (ms : List Int) (n1 : Nat) (zs : List Int) : ordR E n ms n1 zs = ordP E n ms n1 (Q.M.st zs) := by
  have h := ordR_inv E n ms n1 zs zs.length (Nat.le_refl _)
  rw [List.take_length] at h
  have hd := ps_nodup (E := E) (n := n) (ms := ms) (n1 := n1) (Q.M.srt_nodup (Q.M.srt_st zs))
  refine Pl.srtP_eq ?_ hd h.srt
  refine (List.perm_ext_iff_of_nodup (srt_nodupP h.srt) hd).2 fun p => ?_
  rw [h.mem]
  unfold ps
  rw [List.mem_filterMap]
  constructor
  · rintro ⟨a, b⟩
    exact ⟨p.id, (Q.M.mem_st _ _).2 a, b⟩
  · rintro ⟨id, a, b⟩
    have := plOf_id b
    rw [this]
    exact ⟨(Q.M.mem_st _ _).1 a, b⟩
theorem ordS_len (E : Nat → Me) (n : Nat) (ms : List Int) (n1 : Nat) (acc : List Pl.Rc) (id : Int) : (ordS E n ms n1 acc id).length ≤ acc.length + 1 := by
  unfold ordS
  split
  · split
    · omega
    · rw [(Pl.insP_perm _ _).length_eq, List.length_cons]; omega
  · omega
theorem ordR_len (E : Nat → Me) (n : Nat) (ms : List Int) (n1 : Nat) (zs : List Int) : (ordR E n ms n1 zs).length ≤ zs.length := by
  have h : ∀ (l : List Int) (acc : List Pl.Rc), (l.foldl (ordS E n ms n1) acc).length ≤ acc.length + l.length := by
    intro l
    induction l with
    | nil => intro acc; simp
    | cons a r ih => intro acc; rw [List.foldl_cons]; have := ih (ordS E n ms n1 acc a); have := ordS_len E n ms n1 acc a; rw [List.length_cons]; omega
  have := h zs []
  simpa [ordR] using this
theorem ahd_ltP (x y ta tb a b : Int) : ahd x y ta tb a b = decide (Pl.ltP ⟨x, ta, a⟩ ⟨y, tb, b⟩) := by
  rw [show decide (Pl.ltP ⟨x, ta, a⟩ ⟨y, tb, b⟩) = decide (y < x ∨ (x = y ∧ (ta < tb ∨ (ta = tb ∧ a < b)))) from decide_eq_decide.2 Iff.rfl]
  unfold ahd
  split
  · split
    · rw [decide_eq_decide]; omega
    · rw [decide_eq_decide]; omega
  · rw [decide_eq_decide]; omega
theorem plOf_get {E : Nat → Me} {n : Nat} {ms : List Int} {n1 : Nat} {id : Int} {p : Pl.Rc} (h : plOf E n ms n1 id = some p) : ∃ i : Nat, i < n ∧ plc E n id = some (i : Int) ∧ p = ⟨clo (wayL E n id) (rk ms) n1, (E i).tm, id⟩ := by
  unfold plOf at h
  cases hp : plc E n id with
  | none => rw [hp] at h; cases h
  | some i =>
    obtain ⟨j, rfl, hj, _⟩ := plc_lt hp
    rw [hp] at h
    simp only [Option.some.injEq] at h
    exact ⟨j, hj, rfl, h.symm⟩
/-- The reference's Ahead at two places. -/
theorem rahead_pl (A : Option Addr) (n c : Nat) (E : Nat → Me) (A2 : Option Addr) (n2 k2 : Nat) (zs : List Int) (p q : Pl.Rc) (w : World) (h : Evm w A n E) (hn : n ≤ 900000) (h2 : Its w A2 n2 k2 zs) (hn2 : n2 ≤ 900000) (hwp : i64B p.id) (hwq : i64B q.id) (hp : plOf E n zs n2 p.id = some p) (hq : plOf E n zs n2 q.id = some q) :
    Calls Try.prog 32 #[.slice A n c, .slice A2 n2 k2, .int .i64 p.id, .int .i64 q.id] w fun e w' => e = .returned (.bool (decide (Pl.ltP p q))) ∧ Below w.heap.size w w' := by
  obtain ⟨i, hi, hpi, e1⟩ := plOf_get hp
  obtain ⟨j, hj, hqj, e2⟩ := plOf_get hq
  have h3 := rahead32 A n c E A2 n2 k2 zs p.id q.id i j w h hn h2 hn2 hwp hwq hpi hqj
  rw [ahd_ltP, ← e1, ← e2] at h3
  exact h3
set_option maxRecDepth 100000 in
/-- An append onto a slice that has no room: a new row. -/
theorem run_append_full {w : World} (t ty : TypeId) (B : Nat) (e : TypeId) (i : TypeInfo) (z : Value) (size bytes : Nat) (ht : Try.prog.underlying t = some (.slice e)) (hi : Try.prog.info? e = some i) (hz : i.zero = some z) (hsize : i.size = size) (hby : i.bytes = bytes) (hzs : z.cells.size = size)
    (A : Option Addr) (hA : A ≠ none) (k : Nat) (olds : List Value) (hs : Src w A k k size olds) (X : Option Addr) (hX : X ≠ none) (m c : Nat) (news : List Value) (hn : Src w X m c size news) (hm : 0 < m) (h63 : k + m ≤ maxLen) (hbytes : (k + m) * bytes ≤ 140737488355328) (hB : B ≤ w.heap.size) :
    ∃ v' w', (Builtin.append_ #[t, t] ty #[.slice A k k, .slice X m c]).run Try.prog w = .ok v' w' ∧ w'.ownsRow B e size v' (k + m) (olds ++ news) ∧ w.grownBy w' none ∧ v'.ownBlock = some w.heap.size := by
  subst hsize
  subst hby
  cases A with
  | none => exact absurd rfl hA
  | some a =>
    cases X with
    | none => exact absurd rfl hX
    | some x =>
      have hnews : ∀ j u, news[j]? = some u → w.cell? (x.add j) = some u := by
        intro j u hu
        rcases hn.cell with h0 | ⟨b, off, he, _, hc⟩
        · omega
        · cases he; rw [Addr.add_lit]; exact hc j u hu
      have holds : ∀ j u, olds[j]? = some u → w.cell? (a.add j) = some u := by
        intro j u hu
        rcases hs.cell with h0 | ⟨b, off, he, _, hc⟩
        · have h1 : olds = [] := List.eq_nil_of_length_eq_zero (by rw [hs.len, h0, Nat.zero_mul])
          subst h1
          simp at hu
        · cases he; rw [Addr.add_lit]; exact hc j u hu
      have hr := run_append_grow (P := Try.prog) w t ty e i z ht hi hz a k k olds hs.len holds x m c news hn.len hnews (by omega) (by unfold maxLen at h63; omega) (growslice_fits (by omega) hbytes)
      have hlen : (olds ++ news).length = (k + m) * i.size := by rw [List.length_append, hs.len, hn.len, Nat.add_mul]
      have hge := grownCap_ge w (k + m) k e
      have hcm : grownCap w (k + m) k e ≤ maxLen := grownCap_le_maxLen w (k + m) k e h63
      refine ⟨_, _, hr, ⟨hlen, .inr ⟨w.heap.size, _, _, rfl, hB, heap_alloc_new w.drew _, hge, hcm, ?_, ?_⟩⟩, ⟨rfl, rfl, rfl, by simp, fun k hk _ => heap_alloc_old w.drew _ k hk⟩, rfl⟩
      · simp only [Array.size_append, List.size_toArray, size_zeroCells, hzs, hs.len, hn.len, ← Nat.add_mul]
        congr 1
        omega
      · simp only [Array.toList_append, List.append_assoc]
        rw [← List.append_assoc, ← hlen]
        exact List.take_left
set_option maxRecDepth 100000 in
theorem step_append_full {w : World} {ops : Array Oper} {o : Oper} {a : Act} {K : Act → World → Prop} {Q : Exit → Act → World → Prop} {E : Prop} (hgd : o.guard = none) (s x : Operand) (t : TypeId)
    (ho : o.op = .call { callee := .builtin .append, args := #[s, x], argTypes := #[t, t] })
    (B : Nat) (e : TypeId) (i : TypeInfo) (z : Value) (size bytes : Nat) (ht : Try.prog.underlying t = some (.slice e)) (hi : Try.prog.info? e = some i) (hz : i.zero = some z) (hsize : i.size = size) (hby : i.bytes = bytes) (hzs : z.cells.size = size)
    (A : Option Addr) (hA : A ≠ none) (k : Nat) (olds : List Value) (hse : a.eval s = .slice A k k) (hs : Src w A k k size olds) (X : Option Addr) (hX : X ≠ none) (m c : Nat) (news : List Value) (hxe : a.eval x = .slice X m c) (hn : Src w X m c size news) (hm : 0 < m) (h63 : k + m ≤ maxLen) (hbytes : (k + m) * bytes ≤ 140737488355328) (hB : B ≤ w.heap.size)
    (h : ∀ v' w', w'.ownsRow B e size v' (k + m) (olds ++ news) → w.grownBy w' none → v'.ownBlock = some w.heap.size → K (a.put o.dst v') w') :
    if Region.wanted o (yielded ops a.tmps) = true then Oper.wp Try.prog o a w K Q else E := by
  have hw : Region.wanted o (yielded ops a.tmps) = true := by simp [Region.wanted, hgd]
  rw [if_pos hw]
  obtain ⟨v', w', hr, h1, h2, h3⟩ := run_append_full (w := w) t o.type B e i z size bytes ht hi hz hsize hby hzs A hA k olds hs X hX m c news hn hm h63 hbytes hB
  unfold Oper.wp execOp
  simp only [ho, resolve, invoke, builtin, Sem.run_bind, Sem.run_pure, Result.andThen_ok, List.map_toArray, List.map_cons, List.map_nil, hse, hxe, hr]
  exact h v' w' h1 h2 h3
end Go.Proofs.Ytoljlpddcpdoiaa
