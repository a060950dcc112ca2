/- What the decoder of levels reads; one record more. Bounds: at most 800000 bytes. No condition. -/
import Derived.Test.YtdacjnlfjaegiaaGreatDoorPK42
namespace Go.Proofs.YtdacjnlfjaegiaaGreatDoor
open Go Go.RowKit
set_option linter.unusedVariables false
set_option linter.unusedSimpArgs false

def gtkT (zs : List Int) (f : Bool) : ByteArray × List Int × Bool :=
  if f = true then (⟨#[]⟩, zs, true) else match Cd.dt zs with
    | some (v, r) => (v, r, false)
    | none => (⟨#[]⟩, [], true)
theorem gtk_str (zs : List Int) (f : Bool) : gtk Cd.gt (.string ⟨#[]⟩) zs f = (.string (gtkT zs f).1, (gtkT zs f).2.1, (gtkT zs f).2.2) := by
  unfold gtk gtkT
  cases f with
  | true => rfl
  | false =>
    rw [Cd.gt_dt]
    cases Cd.dt zs with
    | none => rfl
    | some p => rfl
theorem gtkT_len (zs : List Int) (f : Bool) : (gtkT zs f).2.1.length ≤ zs.length := by
  unfold gtkT
  cases f with
  | true => exact Nat.le_refl _
  | false =>
    cases h : Cd.dt zs with
    | none => exact Nat.zero_le _
    | some p => exact Cd.dt_len h
def dU (zs : List Int) : Option ((ByteArray × Int) × List Int) := (Cd.dt zs).bind fun p => (Cd.di p.2).map fun q => ((p.1, q.1), q.2)
def dK (zs : List Int) : Option ((Int × Int) × List Int) := (Cd.di zs).bind fun p => (Cd.di p.2).map fun q => ((p.1, q.1), q.2)
theorem gtkI_true (zs : List Int) : gtkI zs true = (0, zs, true) := rfl
theorem dU_tk {zs z1 z2 : List Int} {s : ByteArray} {p : Int} {f1 f2 : Bool} (h1 : gtkT zs false = (s, z1, f1)) (h2 : gtkI z1 f1 = (p, z2, f2)) : (f2 = false → dU zs = some ((s, p), z2)) ∧ (f2 = true → dU zs = none) := by
  unfold gtkT at h1
  unfold dU
  rw [if_neg (by decide)] at h1
  cases hd : Cd.dt zs with
  | none =>
    rw [hd] at h1
    dsimp only at h1
    injection h1 with _ h1
    injection h1 with e1 e2
    subst e1 e2
    rw [gtkI_true] at h2
    injection h2 with _ h2
    injection h2 with _ e2
    subst e2
    exact ⟨fun h => (by cases h), fun _ => rfl⟩
  | some q =>
    obtain ⟨v, r⟩ := q
    rw [hd] at h1
    dsimp only at h1
    injection h1 with e0 h1
    injection h1 with e1 e2
    subst e0 e1 e2
    unfold gtkI at h2
    rw [if_neg (by decide)] at h2
    simp only [Option.bind_some]
    cases hi : Cd.di r with
    | none =>
      rw [hi] at h2
      dsimp only at h2
      injection h2 with _ h2
      injection h2 with _ e2
      subst e2
      exact ⟨fun h => (by cases h), fun _ => rfl⟩
    | some u =>
      obtain ⟨p', r'⟩ := u
      rw [hi] at h2
      dsimp only at h2
      injection h2 with e0 h2
      injection h2 with e1 e2
      subst e0 e1 e2
      exact ⟨fun _ => rfl, fun h => (by cases h)⟩
theorem dK_tk {zs z1 z2 : List Int} {s p : Int} {f1 f2 : Bool} (h1 : gtkI zs false = (s, z1, f1)) (h2 : gtkI z1 f1 = (p, z2, f2)) : (f2 = false → dK zs = some ((s, p), z2)) ∧ (f2 = true → dK zs = none) := by
  unfold gtkI at h1
  unfold dK
  rw [if_neg (by decide)] at h1
  cases hd : Cd.di zs with
  | none =>
    rw [hd] at h1
    dsimp only at h1
    injection h1 with _ h1
    injection h1 with e1 e2
    subst e1 e2
    rw [gtkI_true] at h2
    injection h2 with _ h2
    injection h2 with _ e2
    subst e2
    exact ⟨fun h => (by cases h), fun _ => rfl⟩
  | some q =>
    obtain ⟨v, r⟩ := q
    rw [hd] at h1
    dsimp only at h1
    injection h1 with e0 h1
    injection h1 with e1 e2
    subst e0 e1 e2
    unfold gtkI at h2
    rw [if_neg (by decide)] at h2
    simp only [Option.bind_some]
    cases hi : Cd.di r with
    | none =>
      rw [hi] at h2
      dsimp only at h2
      injection h2 with _ h2
      injection h2 with _ e2
      subst e2
      exact ⟨fun h => (by cases h), fun _ => rfl⟩
    | some u =>
      obtain ⟨p', r'⟩ := u
      rw [hi] at h2
      dsimp only at h2
      injection h2 with e0 h2
      injection h2 with e1 e2
      subst e0 e1 e2
      exact ⟨fun _ => rfl, fun h => (by cases h)⟩
theorem cntk_true (zs : List Int) : cntk zs true = (0, zs, true) := by
  unfold cntk gtkI
  simp
theorem cell_two_new (w : World) (u1 u2 : Value) (t : TypeId) : ∀ j u, [u1, u2][j]? = some u → (w.alloc (.cells #[u1, u2] t)).cell? ((⟨w.heap.size, 0, none⟩ : Addr).add j) = some u := by
  intro j u hj
  match j, hj with
  | 0, hj => simp at hj; subst hj; simp [Addr.add]
  | 1, hj => simp at hj; subst hj; simp [Addr.add]
theorem flat_snoc {α : Type} (f : α → List Value) (d : α) (us : List α) (p : α) : flat (us ++ [p]).length (fun j => f ((us ++ [p]).getD j d)) = flat us.length (fun j => f (us.getD j d)) ++ f p := by
  rw [List.length_append, List.length_singleton, flat_succ]
  congr 1
  · refine flat_congr (fun j hj => ?_)
    rw [List.getD_eq_getElem?_getD, List.getD_eq_getElem?_getD, List.getElem?_append_left hj]
  · rw [List.getD_eq_getElem?_getD, List.getElem?_append_right (Nat.le_refl _), Nat.sub_self]
    rfl
theorem flatU_snoc (us : List (ByteArray × Int)) (p : ByteArray × Int) : flat (us ++ [p]).length (rowU (fU (us ++ [p]))) = flat us.length (rowU (fU us)) ++ [.string p.1, .int .i64 p.2] := flat_snoc (fun p : ByteArray × Int => [Value.string p.1, .int .i64 p.2]) (⟨#[]⟩, 0) us p
theorem flatK_snoc (ks : List (Int × Int)) (p : Int × Int) : flat (ks ++ [p]).length (rowK (fK (ks ++ [p]))) = flat ks.length (rowK (fK ks)) ++ [.int .i64 p.1, .int .i64 p.2] := flat_snoc (fun p : Int × Int => [Value.int .i64 p.1, .int .i64 p.2]) (0, 0) ks p
theorem info60 : (Tryz.prog.info? 60).map (fun i => (i.zero, i.size, i.bytes)) = some (some (.agg #[.string ⟨#[]⟩, .int .i64 0]), 2, 24) := by kernel_rfl
theorem info88 : (Tryz.prog.info? 88).map (fun i => (i.zero, i.size, i.bytes)) = some (some (.agg #[.int .i64 0, .int .i64 0]), 2, 16) := by kernel_rfl
theorem z60 : ∀ u ∈ (Value.agg #[.string ⟨#[]⟩, .int .i64 0]).cells.toList, N8 u := by
  intro u hu z e
  subst e
  simp [Value.cells] at hu
theorem z88 : ∀ u ∈ (Value.agg #[.int .i64 0, .int .i64 0]).cells.toList, N8 u := by
  intro u hu z e
  subst e
  simp [Value.cells] at hu
theorem step_recU {w : World} {rb lb : Nat} {c1 c2 v1 v2 : Value} {n2 : Nat} {xs2 : List Value} {zs : List Int} {f : Bool} {y : World} {us : List (ByteArray × Int)}
    {ops : Array Oper} {o : Oper} {a : Act} {K : Act → World → Prop} {Q : Exit → Act → World → Prop} {E : Prop} (hgd : o.guard = none) (s x : Operand)
    (ho : o.op = .call { callee := .builtin .append, args := #[s, x], argTypes := #[24, 24] }) (hs : a.eval s = v1) (b : Nat) (hx : a.eval x = .slice (some ⟨b, 0, none⟩) 1 1) (p : ByteArray × Int)
    (hnews : ∀ j u, [.string p.1, .int .i64 p.2][j]? = some u → y.cell? ((⟨b, 0, none⟩ : Addr).add j) = some u)
    (h : DS w rb lb c1 c2 v1 us.length (flat us.length (rowU (fU us))) v2 n2 xs2 zs f y) (hn : us.length ≤ 800000)
    (hK : ∀ A c y', DS w rb lb c1 c2 (.slice A (us ++ [p]).length c) (us ++ [p]).length (flat (us ++ [p]).length (rowU (fU (us ++ [p])))) v2 n2 xs2 zs f y' → K (a.put o.dst (.slice A (us ++ [p]).length c)) y') :
    if Region.wanted o (yielded ops a.tmps) = true then Oper.wp Tryz.prog o a y K Q else E := by
  have hw : Region.wanted o (yielded ops a.tmps) = true := by simp [Region.wanted, hgd]
  rw [if_pos hw]
  obtain ⟨i0, hi0, hz0, hz1, hz2⟩ := info_parts info60
  obtain ⟨v', w', hr, hg, hT⟩ := run_append_typed (P := Tryz.prog) y N8 24 o.type (lb + 1) 60 i0 _ 2 24 Tryz.underlying24 hi0 hz0 hz1 hz2 rfl (by decide) z60 v1 _ _ h.r1 h.t1 ⟨b, 0, none⟩ 1 1 [.string p.1, .int .i64 p.2] rfl hnews (by simp [Value.oneCell']) (by intro u hu z e; subst e; simp at hu) (by decide) (by unfold maxLen; omega) (by omega) (by have := h.lbk.lt; omega)
  unfold Oper.wp execOp
  simp only [ho, resolve, invoke, builtin, Sem.run_bind, Sem.run_pure, Result.andThen_ok, List.map_toArray, List.map_cons, List.map_nil, hs, hx, hr]
  obtain ⟨A, c, rfl⟩ := row_shape hg.own
  have hg2 : Grew y w' (lb + 1) 60 2 v1 (.slice A (us ++ [p]).length c) (us ++ [p]).length (flat (us ++ [p]).length (rowU (fU (us ++ [p])))) := by
    rw [flatU_snoc, List.length_append, List.length_singleton]
    exact hg
  have hT2 : TRow N8 w' (.slice A (us ++ [p]).length c) := by
    rw [List.length_append, List.length_singleton]
    exact hT
  have h2 := hK A c w' (h.app1 hg2 hT2)
  rw [List.length_append, List.length_singleton] at h2
  exact h2
theorem step_recK {w : World} {rb lb : Nat} {c1 c2 v1 v2 : Value} {n1 : Nat} {xs1 : List Value} {zs : List Int} {f : Bool} {y : World} {ks : List (Int × Int)}
    {ops : Array Oper} {o : Oper} {a : Act} {K : Act → World → Prop} {Q : Exit → Act → World → Prop} {E : Prop} (hgd : o.guard = none) (s x : Operand)
    (ho : o.op = .call { callee := .builtin .append, args := #[s, x], argTypes := #[25, 25] }) (hs : a.eval s = v2) (b : Nat) (hx : a.eval x = .slice (some ⟨b, 0, none⟩) 1 1) (p : Int × Int)
    (hnews : ∀ j u, [.int .i64 p.1, .int .i64 p.2][j]? = some u → y.cell? ((⟨b, 0, none⟩ : Addr).add j) = some u)
    (h : DS w rb lb c1 c2 v1 n1 xs1 v2 ks.length (flat ks.length (rowK (fK ks))) zs f y) (hn : ks.length ≤ 800000)
    (hK : ∀ A c y', DS w rb lb c1 c2 v1 n1 xs1 (.slice A (ks ++ [p]).length c) (ks ++ [p]).length (flat (ks ++ [p]).length (rowK (fK (ks ++ [p])))) zs f y' → K (a.put o.dst (.slice A (ks ++ [p]).length c)) y') :
    if Region.wanted o (yielded ops a.tmps) = true then Oper.wp Tryz.prog o a y K Q else E := by
  have hw : Region.wanted o (yielded ops a.tmps) = true := by simp [Region.wanted, hgd]
  rw [if_pos hw]
  obtain ⟨i0, hi0, hz0, hz1, hz2⟩ := info_parts info88
  obtain ⟨v', w', hr, hg, hT⟩ := run_append_typed (P := Tryz.prog) y N8 25 o.type (lb + 1) 88 i0 _ 2 16 Tryz.underlying25 hi0 hz0 hz1 hz2 rfl (by decide) z88 v2 _ _ h.r2 h.t2 ⟨b, 0, none⟩ 1 1 [.int .i64 p.1, .int .i64 p.2] rfl hnews (by simp [Value.oneCell']) (by intro u hu z e; subst e; simp at hu) (by decide) (by unfold maxLen; omega) (by omega) (by have := h.lbk.lt; omega)
  unfold Oper.wp execOp
  simp only [ho, resolve, invoke, builtin, Sem.run_bind, Sem.run_pure, Result.andThen_ok, List.map_toArray, List.map_cons, List.map_nil, hs, hx, hr]
  obtain ⟨A, c, rfl⟩ := row_shape hg.own
  have hg2 : Grew y w' (lb + 1) 88 2 v2 (.slice A (ks ++ [p]).length c) (ks ++ [p]).length (flat (ks ++ [p]).length (rowK (fK (ks ++ [p])))) := by
    rw [flatK_snoc, List.length_append, List.length_singleton]
    exact hg
  have hT2 : TRow N8 w' (.slice A (ks ++ [p]).length c) := by
    rw [List.length_append, List.length_singleton]
    exact hT
  have h2 := hK A c w' (h.app2 hg2 hT2)
  rw [List.length_append, List.length_singleton] at h2
  exact h2
end Go.Proofs.YtdacjnlfjaegiaaGreatDoor
