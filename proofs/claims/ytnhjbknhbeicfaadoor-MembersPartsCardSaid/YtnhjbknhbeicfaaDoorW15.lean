/- members.InState: who is what in a state. Bounds: at most 10000 events and entries, short lists. -/
import Derived.Test.YtnhjbknhbeicfaaDoorW14
namespace Go.Proofs.YtnhjbknhbeicfaaDoor
open Go.RowKit Go.Maps
set_option linter.unusedVariables false
set_option linter.unusedSimpArgs false

/-- An entry of a state. -/
structure En where
  k : Int
  key : ByteArray
  id : Int
abbrev enc3 (e : En) : List Value := [.int .i64 e.k, .string e.key, .int .i64 e.id]
def rowN (N : Nat → En) (j : Nat) : List Value := enc3 (N j)
structure Ens (w : World) (S : Option Addr) (m d : Nat) (N : Nat → En) : Prop where
  rws : Rws w S m d 3 (rowN N)
  fit : ∀ j, j < m → i64B (N j).id
theorem Ens.below {w w1 : World} {S : Option Addr} {m d : Nat} {N : Nat → En} (h : Ens w S m d N) (hb : Below w.heap.size w w1) : Ens w1 S m d N := ⟨h.rws.below hb, h.fit⟩
theorem Ens.get {w : World} {S : Option Addr} {m d : Nat} {N : Nat → En} (h : Ens w S m d N) {j : Nat} (hj : j < m) : ∃ b off, S = some ⟨b, off, none⟩ ∧ Hid (w.rangeAt b (off + j * 3) (enc3 (N j))) := by
  obtain ⟨b, off, e, _, r⟩ := h.rws.get hj
  exact ⟨b, off, e, Lib.hid r⟩
def idl (N : Nat → En) (m : Nat) : List Int := (List.range m).map fun j => (N j).id
theorem idl_len (N : Nat → En) (m : Nat) : (idl N m).length = m := by unfold idl; simp
theorem idl_get {N : Nat → En} {m j : Nat} (h : j < m) : (idl N m).getD j 0 = (N j).id := by
  unfold idl
  rw [List.getD_eq_getElem?_getD, List.getElem?_eq_getElem (by simpa using h)]
  simp
theorem idl_succ (N : Nat → En) (m : Nat) : idl N (m + 1) = idl N m ++ [(N m).id] := by unfold idl; rw [List.range_succ, List.map_append]; rfl
theorem idl_fit {w : World} {S : Option Addr} {m d : Nat} {N : Nat → En} (h : Ens w S m d N) {k : Nat} (hk : k ≤ m) : ∀ z ∈ idl N k, -9223372036854775808 ≤ z ∧ z ≤ 9223372036854775807 := by
  intro z hz
  unfold idl at hz
  obtain ⟨j, hj, rfl⟩ := List.mem_map.1 hz
  exact h.fit j (by have := List.mem_range.1 hj; omega)
theorem size59 : (Tryd.prog.info? 59).map (·.size) = some 3 := by kernel_rfl
theorem info3m : (Tryd.prog.info? 3).map (fun i => (i.zero, i.size, i.bytes)) = some (some (.int .i64 0), 1, 8) := by kernel_rfl
/-- The membership in a state. -/
def inS (E : Nat → Evd) (n : Nat) (zs : List Int) (u : ByteArray) : Int := memC (cores (fnd E n zs).length (fun j => (fnd E n zs).getD j kc0)) u.data.toList
/-- A block whose first numbers are the ids. -/
structure Fil (w : World) (g m k : Nat) (N : Nat → En) : Prop where
  ex : ∃ cur : List Value, Blk w g cur 3 ∧ cur.length = m ∧ ∀ j, j < k → cur[j]? = some (.int .i64 (N j).id)
theorem Fil.below {w w1 : World} {g m k : Nat} {N : Nat → En} (h : Fil w g m k N) (hb : Below w.heap.size w w1) : Fil w1 g m k N := by
  obtain ⟨cur, h1, h2⟩ := h.ex
  exact ⟨cur, h1.below hb, h2⟩
theorem Fil.lt {w : World} {g m k : Nat} {N : Nat → En} (h : Fil w g m k N) : g < w.heap.size := by obtain ⟨cur, h1, _⟩ := h.ex; exact h1.lt
theorem Fil.old {w : World} {g m k : Nat} {N : Nat → En} (h : Fil w g m k N) (hk : k < m) : (∃ v, w.cell? ⟨g, k, none⟩ = some v) ∧ w.frozen? ⟨g, k, none⟩ = false := by
  obtain ⟨cur, h1, h2, _⟩ := h.ex
  exact ⟨⟨cur[k], h1.cell (by rw [List.getElem?_eq_getElem (by omega)])⟩, h1.free k⟩
theorem Fil.set {w : World} {g m k : Nat} {N : Nat → En} (h : Fil w g m k N) (hk : k < m) : Fil (w.setCell ⟨g, k, none⟩ (.int .i64 (N k).id)) g m (k + 1) N := by
  obtain ⟨cur, h1, h2, h3⟩ := h.ex
  refine ⟨cur.set k (.int .i64 (N k).id), h1.set k _, by rw [List.length_set]; exact h2, fun j hj => ?_⟩
  by_cases e : j = k
  · subst e
    rw [List.getElem?_set_self (by omega)]
  · rw [List.getElem?_set_ne (fun e2 => e e2.symm)]
    exact h3 j (by omega)
theorem Fil.its {w : World} {g m : Nat} {N : Nat → En} (h : Fil w g m m N) (hm : m ≤ 1000000) (hf : ∀ z ∈ idl N m, -9223372036854775808 ≤ z ∧ z ≤ 9223372036854775807) : Its w (some ⟨g, 0, none⟩) m m (idl N m) := by
  obtain ⟨cur, h1, h2, h3⟩ := h.ex
  refine ⟨⟨fun j _ => rfl, fun j _ u hu => ?_, by unfold maxLen; omega, (fun e => by cases e), .inr ⟨g, 0, rfl, h1.lt, fun j hj i v hv => ?_⟩⟩, idl_len N m, Nat.le_refl _, hf⟩
  · unfold rowI at hu
    rw [List.mem_singleton] at hu
    rw [hu]; rfl
  · have hi : i = 0 := by
      have := (List.getElem?_eq_some_iff.1 hv).1
      unfold rowI at this
      simp at this
      omega
    subst hi
    have h4 : v = .int .i64 (N j).id := by
      unfold rowI at hv
      rw [idl_get hj] at hv
      exact (Option.some.inj hv).symm
    rw [h4, Nat.zero_add, Nat.mul_one, Nat.add_zero]
    exact h1.cell (h3 j hj)
theorem wpList_make3 {ops : Array Oper} {rest : List Oper} {o : Oper} {a : Act} {Q : Exit → Act → World → Prop} {w : World} (hg : o.guard = none) {l : Operand} (hop : o.op = .makeSlice 38 l l) (n : Nat) (hl : a.eval l = .int .i64 (n : Int)) (hn : n ≤ 1000000) (N : Nat → En)
    (hK : ∀ w', Fil w' w.heap.size n 0 N → Below w.heap.size w w' → wpList Tryd.prog ops Q rest (a.put o.dst (.slice (some ⟨w.heap.size, 0, none⟩) n n)) w') : wpList Tryd.prog ops Q (o :: rest) a w := by
  obtain ⟨i0, hi, hz0, hz1, hz2⟩ := info_parts info3m
  refine wpList_plain hg fun K hK' => ?_
  have hr := run_make (P := Tryd.prog) w 38 3 i0 _ Tryd.underlying38 hi hz0 .i64 .i64 n n (by omega) (Int.le_refl _) (by rw [hz2]; omega) (by omega)
  simp only [Int.toNat_natCast] at hr
  unfold Oper.wp
  simp [execOp, hop, hl, hr, Result.andThen]
  refine hK' _ _ (hK _ ⟨(madeCells (Value.int .i64 0).cells (n * i0.size)).toList, ?_, ?_, fun j hj => absurd hj (Nat.not_lt_zero _)⟩ ((Below.refl _ w).alloc (Nat.le_refl _) _))
  · have := blk_new w (madeCells (Value.int .i64 0).cells (n * i0.size)).toList 3
    rw [Array.toArray_toList] at this
    exact this
  · rw [Array.length_toList, size_madeCells, hz1, Nat.mul_one]
abbrev z3 : List Value := [.int .i64 0, .string ⟨#[]⟩, .int .i64 0]
set_option maxRecDepth 100000 in
set_option maxHeartbeats 8000000 in
theorem instate20 (A S : Option Addr) (n c m d : Nat) (E : Nat → Evd) (N : Nat → En) (u : ByteArray) (w : World) (h : Evx w A n E) (hs : Ens w S m d N) (hf : ∀ j, j < n → Fe (E j)) (hm : m ≤ 10000) (hn : n ≤ 10000) : Calls Tryd.prog 20 #[.slice A n c, .slice S m d, .string u] w fun e w' => e = .returned (.int .i64 (inS E n (idl N m) u)) ∧ Below w.heap.size w w' := by
  have H := Lib.hid h
  have HS := Lib.hid hs
  have HF := Lib.hid hf
  have HI := Lib.hid (idl_fit hs (Nat.le_refl m))
  clear h hs hf
  go_enter Tryd.func20, Tryd.ntmps20
  go_wp2_with (refine wpList_make3 rfl rfl m rfl (by omega) N ?_; intro w1 hx hb; have X1 := Lib.hid hx; have B1 := Lib.hid hb; clear hx hb)
  go_loopg [8, 9, 15] m (fun gg _ _ s15 wr => ∃ (kk : Nat), kk ≤ m ∧ m - kk ≤ gg ∧ s15 = .int .i64 kk ∧ Hid (Fil wr w.heap.size m kk N) ∧ Hid (Below w.heap.size w wr))
  case atStart => exact ⟨0, Nat.zero_le _, by omega, rfl, X1, B1⟩
  case round =>
    obtain ⟨kk, hkk, hg, rfl, HX, BW⟩ := hrel
    by_cases hlt : kk < m
    · have hltz : (kk : Int) < (m : Int) := by omega
      obtain ⟨b, off, rfl, R⟩ := (HS.out.below BW.out).get hlt
      go_wp2_with (first
        | (refine load_mid_g (by rfl) 59 _ rfl b (off + kk * 3) rfl (enc3 (N kk)) _ R.out Tryd.underlying59 rfl size59 ?_)
        | (refine wpList_store_mid rfl 59 _ _ rfl wr.heap.size 0 (enc3 (N kk)).toArray rfl rfl (Blk.there (n := 3) (blk_new wr z3 59) (by decide)) size59 (by simp [Value.oneCell']) ?_; generalize hw4 : (wr.alloc (.cells z3.toArray 59)).setCells wr.heap.size 0 (enc3 (N kk)).toArray.toList = w4; have X4 : Hid (Blk w4 wr.heap.size (enc3 (N kk)) 59) := Lib.hid (by rw [← hw4]; exact (blk_new wr z3 59).setAll _ rfl); have Q4 : Hid (Below wr.heap.size wr w4) := Lib.hid (by rw [← hw4]; exact below_setAll (Nat.le_refl _) _ _ _ ((Below.refl _ wr).alloc (Nat.le_refl _) _)); clear hw4; have B4 := Lib.hid (BW.out.trans (Q4.out.mono BW.out.size)); have F4 := Lib.hid (HX.out.below Q4.out); have f2 := X4.out.cell (i := 2) rfl; obtain ⟨⟨v4, k4⟩, z4⟩ := F4.out.old hlt; have F5 := Lib.hid (F4.out.set hlt); have B5 := Lib.hid (B4.out.setCell (p := ⟨w.heap.size, kk, none⟩) (Nat.le_refl _) (.int .i64 (N kk).id))))
      go_roundg (m - (kk + 1))
      case measure => omega
      case rel => exact ⟨kk + 1, by omega, by omega, by go_num, F5, B5⟩
    · have hltz : ¬ (kk : Int) < (m : Int) := by omega
      have HIt := Lib.hid (Fil.its (w := wr) (g := w.heap.size) (m := m) (N := N) (by have := HX.out; rw [show kk = m by omega] at this; exact this) (by omega) HI.out)
      have C30 := Lib.hid (of30 A (some ⟨w.heap.size, 0, none⟩) n c m m E (idl N m) wr (H.out.below BW.out) HIt.out HF.out hm hn)
      go_wp2_with (first
        | (go_at_call 30; refine C30.out.mono ?_; rintro e w5 ⟨A5, c5, rfl, hk5, hb5⟩; have K5 := Lib.hid hk5; have B5 := Lib.hid (BW.out.trans (hb5.mono BW.out.size)); clear hk5 hb5)
        | (go_at_call 10; refine (of10 _ _ _ _ u _ K5.out).mono ?_; rintro e w6 ⟨rfl, rfl⟩))
      go_ret
      exact ⟨ret_i64 (by unfold inS; simp only [List.getD_eq_getElem?_getD]), B5.out⟩
end Go.Proofs.YtnhjbknhbeicfaaDoor
