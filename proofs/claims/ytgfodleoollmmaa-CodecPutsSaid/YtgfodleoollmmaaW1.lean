/- Slices of bytes in the walks of the codec: how they are read, owned, copied and appended to. Bounds: at most a million bytes. -/
import Derived.Test.YtgfodleoollmmaaRows
import Derived.Test.YtgfodleoollmmaaMath
import Derived.WalkKit
import Derived.WalkSpells
import Derived.WalkLawsBesides
import Derived.Lib.Hide
import Derived.OwnWalk
import Derived.Laws.OwnMore
import Derived.Laws.AppendOwnNone
import Derived.Laws.CopyOwn
import Derived.Outline
namespace Go.Proofs.Ytgfodleoollmmaa
open Go.RowKit
set_option linter.unusedVariables false

theorem info5 : (Try.prog.info? 5).map (fun i => (i.zero, i.size, i.bytes)) = some (some (.int .u8 0), 1, 1) := by kernel_rfl
theorem ret_bool {a b : Bool} (h : a = b) : Ending.returned (.bool a) = .returned (.bool b) := by rw [h]

/-- The slice of bytes at `a` has `len` elements, which are `zs`; a nil one has no room. -/
structure Sl (w : World) (a : Option Addr) (len cap : Nat) (zs : List Int) : Prop where
  sz : zs.length = len
  bd : ∀ z ∈ zs, 0 ≤ z ∧ z ≤ 255
  le : len ≤ cap
  nl : a = none → cap = 0
  cell : 0 < len → ∃ b off, a = some ⟨b, off, none⟩ ∧ b < w.heap.size ∧ ∀ i, i < len → w.cell? ⟨b, off + i, none⟩ = some (.int .u8 (zs.getD i 0))
theorem Sl.byte {w : World} {a : Option Addr} {len cap : Nat} {zs : List Int} (h : Sl w a len cap zs) {k : Nat} (hk : k < len) :
    ∃ b off, a = some ⟨b, off, none⟩ ∧ ∃ z : Nat, z ≤ 255 ∧ zs.getD k 0 = (z : Int) ∧ b < w.heap.size ∧ w.cell? ⟨b, off + k, none⟩ = some (.int .u8 (z : Int)) := by
  obtain ⟨hl, hb, _, _, hc⟩ := h
  obtain ⟨b, off, ha, hlt, hc⟩ := hc (by omega)
  have hm : zs.getD k 0 ∈ zs := by
    rw [List.getD_eq_getElem?_getD, List.getElem?_eq_getElem (by omega)]; simp
  have hz := hb _ hm
  refine ⟨b, off, ha, (zs.getD k 0).toNat, by omega, by omega, hlt, ?_⟩
  rw [hc k hk]
  congr 2
  omega
theorem Sl.below {w w' : World} {a : Option Addr} {len cap : Nat} {zs : List Int} (h : Sl w a len cap zs) (hb : Below w.heap.size w w') : Sl w' a len cap zs :=
  ⟨h.sz, h.bd, h.le, h.nl, fun h0 => by
    obtain ⟨b, off, e, hl, hc⟩ := h.cell h0
    exact ⟨b, off, e, Nat.lt_of_lt_of_le hl hb.size, fun i hi => (hb.cell (p := ⟨b, off + i, none⟩) hl).trans (hc i hi)⟩⟩
theorem Sl.drewN {w : World} {a : Option Addr} {len cap : Nat} {zs : List Int} (h : Sl w a len cap zs) (n : Nat) : Sl (w.drewN n) a len cap zs := ⟨h.sz, h.bd, h.le, h.nl, h.cell⟩
theorem Sl.empty (w : World) (a : Option Addr) (cap : Nat) (h : a = none → cap = 0) : Sl w a 0 cap [] := ⟨rfl, by simp, Nat.zero_le _, h, by omega⟩
theorem Sl.drop {w : World} {a : Option Addr} {len cap : Nat} {zs : List Int} (h : Sl w a len cap zs) (k : Nat) (hk : k ≤ len) :
    ∃ a', (if cap = k then a else a.map (·.add (k * 1))) = a' ∧ Sl w a' (len - k) (cap - k) (zs.drop k) := by
  refine ⟨_, rfl, by rw [List.length_drop, h.sz], fun z hz => h.bd z (List.mem_of_mem_drop hz), by have := h.le; omega, fun hn => ?_, fun h0 => ?_⟩
  · by_cases e : cap = k
    · omega
    · rw [if_neg e] at hn
      have := h.nl (by simpa using hn)
      omega
  · have hle := h.le
    rw [if_neg (by omega)]
    obtain ⟨b, off, rfl, hl, hc⟩ := h.cell (by omega)
    refine ⟨b, off + k, by simp [Addr.add], hl, fun i hi => ?_⟩
    rw [show off + k + i = off + (k + i) by omega, hc (k + i) (by omega), List.getD_eq_getElem?_getD, List.getD_eq_getElem?_getD, List.getElem?_drop]
theorem Sl.take {w : World} {a : Option Addr} {len cap : Nat} {zs : List Int} (h : Sl w a len cap zs) (k : Nat) (hk : k ≤ len) : Sl w a k cap (zs.take k) :=
  ⟨by rw [List.length_take, h.sz]; omega, fun z hz => h.bd z (List.mem_of_mem_take hz), Nat.le_trans hk h.le, h.nl, fun h0 => by
    obtain ⟨b, off, e, hl, hc⟩ := h.cell (by omega)
    refine ⟨b, off, e, hl, fun i hi => ?_⟩
    rw [hc i (by omega), List.getD_eq_getElem?_getD, List.getD_eq_getElem?_getD, List.getElem?_take, if_pos hi]⟩

/-- A row of the call's own, from block B on. -/
abbrev Own (w : World) (B : Nat) (v : Value) (zs : List Int) : Prop := w.ownsRow B 5 1 v zs.length (zs.map (Value.int .u8))
theorem Own.sl {w : World} {B : Nat} {v : Value} {zs : List Int} (h : Own w B v zs) (hz : ∀ z ∈ zs, 0 ≤ z ∧ z ≤ 255) : ∃ A c, v = .slice A zs.length c ∧ Sl w A zs.length c zs := by
  rcases h.2 with ⟨rfl, h0⟩ | ⟨g, cap, cur, rfl, _, hh, hnc, _, hsz, htake⟩
  · have : zs = [] := List.eq_nil_of_length_eq_zero h0
    subst this
    exact ⟨none, 0, rfl, Sl.empty w none 0 (fun _ => rfl)⟩
  · refine ⟨some ⟨g, 0, none⟩, cap, rfl, rfl, hz, hnc, (fun h => by cases h), fun h0 => ⟨g, 0, rfl, lt_of_block hh, fun i hi => ?_⟩⟩
    rw [Nat.zero_add, World.ownsRow.cellAt (xs := zs.map (Value.int .u8)) h i (by omega), List.getElem?_map, List.getElem?_eq_getElem hi, List.getD_eq_getElem?_getD, List.getElem?_eq_getElem hi]
    rfl
theorem one8 (zs : List Int) : ∀ u ∈ zs.map (Value.int .u8), u.oneCell' = true := by
  intro u hu
  simp only [List.mem_map] at hu
  obtain ⟨z, _, rfl⟩ := hu
  rfl

/-- One append of a slice of bytes to a row of the call's own. -/
theorem app_bytes {w : World} {ops : Array Oper} {rest : List Oper} {o : Oper} {a : Act} {Q : Exit → Act → World → Prop} (hgd : o.guard = none) (s x : Operand)
    (ho : o.op = .call { callee := .builtin .append, args := #[s, x], argTypes := #[22, 22] }) {B : Nat}
    (v : Value) (xs : List Int) (hs : a.eval s = v) (hown : Own w B v xs) (hB : B ≤ w.heap.size)
    (A : Option Addr) (len cap : Nat) (z : List Int) (hx : a.eval x = .slice A len cap) (hS : Sl w A len cap z) (hn : xs.length + len ≤ 1000000)
    (h : ∀ v' w', Own w' B v' (xs ++ z) → Below B w w' → wpList Try.prog ops Q rest (a.put o.dst v') w') : wpList Try.prog ops Q (o :: rest) a w := by
  obtain ⟨i0, hi0, hz0, hz1, hz2⟩ := info_parts info5
  cases A with
  | none =>
    obtain rfl := hS.nl rfl
    obtain rfl : len = 0 := by have := hS.le; omega
    obtain rfl : z = [] := List.eq_nil_of_length_eq_zero hS.sz
    refine wpList_append_own_none hgd _ _ 22 ho B 5 i0 1 Try.underlying22 hi0 v _ _ hs hown hx ?_
    refine h v w ?_ (Below.refl _ _)
    rw [List.append_nil]; exact hown
  | some ad =>
    refine wpList_append_own _ hgd _ _ 22 ho B 5 i0 (.int .u8 0) 1 1 Try.underlying22 hi0 hz0 hz1 hz2 rfl (by decide) v _ _ hs hown ad len cap (z.map (Value.int .u8)) hx (by rw [List.length_map, hS.sz, Nat.mul_one]) ?_ (one8 _) (by unfold maxLen; omega) (by omega) hB ?_
    · intro j u hu
      rw [List.getElem?_map] at hu
      have hj : j < z.length := by
        rcases Nat.lt_or_ge j z.length with h | h
        · exact h
        · rw [List.getElem?_eq_none h] at hu; cases hu
      obtain ⟨b, off, e, hlt, hc⟩ := hS.cell (by rw [← hS.sz]; omega)
      injection e with e
      subst e
      rw [Addr.add_lit, hc j (by rw [← hS.sz]; exact hj), ← hu, List.getD_eq_getElem?_getD, List.getElem?_eq_getElem hj]
      rfl
    · intro v' w' hown' hg _
      refine h v' w' ?_ ((Below.refl B w).grown hg hB (fun k hk => (hown.lt k hk).1))
      show w'.ownsRow B 5 1 v' (xs ++ z).length ((xs ++ z).map (Value.int .u8))
      rw [List.map_append, List.length_append, hS.sz]
      exact hown'

/-- A slice of bytes from a place on. -/
theorem size22 (w : World) : (sizeOf (Try.prog.elem 22)).run Try.prog w = .ok 1 w := by kernel_rfl
theorem under22 : Try.prog.underlying 22 = some (.slice (Try.prog.elem 22)) := by kernel_rfl
theorem run_from {w : World} {A : Option Addr} {n c : Nat} {zs : List Int} (hb : Sl w A n c zs) {k : Nat} (hk : k ≤ n) :
    ∃ A', Sl w A' (n - k) (c - k) (zs.drop k) ∧ ∀ w : World, (Instr.sliceAt 22 (.slice A n c) (some (.int .i64 (k : Int))) none none).run Try.prog w = .ok (.slice A' (n - k) (c - k)) w := by
  obtain ⟨A', hA, hs⟩ := hb.drop k hk
  refine ⟨A', hs, fun w => ?_⟩
  have hrun := run_slice_l (P := Try.prog) w 22 A n c under22 .i64 (k : Int) (by omega) (by omega)
  rw [size22] at hrun
  rw [run_sliceAt_slice w 22 _ _ _ _ under22, hrun, ← hA]
  rfl
theorem wpList_from {ops : Array Oper} {rest : List Oper} {o : Oper} {a : Act} {Q : Exit → Act → World → Prop} {w : World} (hg : o.guard = none) {x l : Operand} (hop : o.op = .slice 22 x (some l) none none)
    (A : Option Addr) (n c : Nat) (zs : List Int) (i : Int) (k : Nat) (hx : a.eval x = .slice A n c) (hl : a.eval l = .int .i64 i) (hi : i = (k : Int)) (hb : Sl w A n c zs) (hk : k ≤ n)
    (hK : ∀ A', Sl w A' (n - k) (c - k) (zs.drop k) → wpList Try.prog ops Q rest (a.put o.dst (.slice A' (n - k) (c - k))) w) : wpList Try.prog ops Q (o :: rest) a w := by
  subst hi
  refine wpList_plain hg fun K hK' => ?_
  obtain ⟨A', hs, hr⟩ := run_from hb hk
  unfold Oper.wp
  simp [execOp, hop, hx, hl, hr, Result.andThen]
  exact hK' _ _ (hK A' hs)

/-- What a function that appends leaves: a row of its own with the bytes. -/
def OwnPost (B : Nat) (w : World) (zs : List Int) (e : Ending) (w' : World) : Prop := ∃ A c, e = .returned (.slice A zs.length c) ∧ Own w' B (.slice A zs.length c) zs ∧ Below B w w'
theorem own_post {B : Nat} {w w' : World} {v : Value} {zs : List Int} (h : Own w' B v zs) (hb : Below B w w') : OwnPost B w zs (.returned v) w' := by
  rcases h.2 with ⟨rfl, h0⟩ | ⟨g, cap, cur, rfl, _⟩
  · exact ⟨none, 0, by rw [h0], by rw [h0]; exact h, hb⟩
  · exact ⟨_, _, rfl, h, hb⟩
theorem own_shape {w : World} {B : Nat} {v : Value} {zs : List Int} (h : Own w B v zs) : ∃ A c, v = .slice A zs.length c := by
  rcases h.2 with ⟨rfl, h0⟩ | ⟨g, cap, cur, rfl, _⟩
  · exact ⟨none, 0, by rw [h0]⟩
  · exact ⟨_, _, rfl⟩

/-- make with room behind the elements. -/
theorem wpList_room {ops : Array Oper} {rest : List Oper} {o : Oper} {a : Act} {Q : Exit → Act → World → Prop} {w : World} (hg : o.guard = none) {l c : Operand} (hop : o.op = .makeSlice 22 l c)
    (n m : Nat) (L C : Int) (hl : a.eval l = .int .i64 L) (hc : a.eval c = .int .i64 C) (hL : L = (n : Int)) (hC : C = (m : Int)) (hnm : n ≤ m) (hm : m ≤ 2000000)
    (hK : ∀ w', w'.heap[w.heap.size]? = some (.cells (List.replicate m (Value.int .u8 0)).toArray 5 (0, 0)) → Below w.heap.size w w' → w.heap.size < w'.heap.size → wpList Try.prog ops Q rest (a.put o.dst (.slice (some ⟨w.heap.size, 0, none⟩) n m)) w') : wpList Try.prog ops Q (o :: rest) a w := by
  subst hL hC
  obtain ⟨i0, hi0, hz0, hz1, hz2⟩ := info_parts info5
  refine wpList_plain hg fun K hK' => ?_
  have hr := run_make (P := Try.prog) w 22 5 i0 (.int .u8 0) Try.underlying22 hi0 hz0 .i64 .i64 (n : Int) (m : Int) (by omega) (by omega) (by rw [hz2]; omega) (by omega)
  simp only [Int.toNat_natCast] at hr
  unfold Oper.wp
  simp [execOp, hop, hl, hc, hr, Result.andThen]
  refine hK' _ _ (hK _ ?_ ((Below.refl _ _).alloc (Nat.le_refl _) _) (by simp))
  rw [hz1]
  have e : (madeCells #[Value.int .u8 0] (m * 1)) = (List.replicate m (Value.int .u8 0)).toArray := by
    apply Array.ext'
    rw [toList_madeCells_one, Nat.mul_one]
  have h := heap_alloc_new w (.cells (madeCells #[Value.int .u8 0] (m * 1)) 5)
  rw [e] at h
  rw [show (Value.int IntKind.u8 0).cells = #[Value.int IntKind.u8 0] from rfl, e]
  simpa using h

/-- copy into a new row: the row then holds the bytes. -/
theorem copy_new {w w0 : World} {ops : Array Oper} {rest : List Oper} {o : Oper} {a : Act} {Q : Exit → Act → World → Prop} (hgd : o.guard = none) (d s : Operand)
    (ho : o.op = .call { callee := .builtin .copy, args := #[d, s], argTypes := #[22, 22] }) (g n m : Nat) (hd : a.eval d = .slice (some ⟨g, 0, none⟩) n m) (A : Option Addr) (cap : Nat) (zs : List Int)
    (hs : a.eval s = .slice A n cap) (hS : Sl w A n cap zs) (hg : w.heap[g]? = some (.cells (List.replicate m (Value.int .u8 0)).toArray 5 (0, 0))) (hnm : n ≤ m) (hm : m ≤ 2000000) (B : Nat) (hb : Below B w0 w) (hBg : B ≤ g)
    (h : ∀ w', Own w' B (.slice (some ⟨g, 0, none⟩) n m) zs → Below B w0 w' → wpList Try.prog ops Q rest (a.put o.dst (goInt n)) w') : wpList Try.prog ops Q (o :: rest) a w := by
  have hsz : (zs.map (Value.int .u8)).length = n := by rw [List.length_map, hS.sz]
  refine wpList_copy_splice hgd d s 22 22 ho 5 Try.underlying22 (by kernel_rfl) (some ⟨g, 0, none⟩) A n m n cap hd hs g 0 (List.replicate m (Value.int .u8 0)) 5 hg (zs.map (Value.int .u8)) (by rw [hsz]; exact (Nat.min_self n).symm) ?_ (by rw [hsz]; simp; exact hnm) (one8 zs) B w0 hb hBg ?_
  · intro h0
    obtain ⟨b, off, rfl, hl, hc⟩ := hS.cell (by omega)
    refine ⟨rfl, _, rfl, fun j v hv => ?_⟩
    rw [List.getElem?_map] at hv
    have hj : j < zs.length := by
      rcases Nat.lt_or_ge j zs.length with h | h
      · exact h
      · rw [List.getElem?_eq_none h] at hv; cases hv
    rw [Addr.add_lit, hc j (by rw [← hS.sz]; exact hj), ← hv, List.getD_eq_getElem?_getD, List.getElem?_eq_getElem hj]
    rfl
  · intro w' hh hb'
    rw [hsz]
    refine h w' ?_ hb'
    have hz := hS.sz
    subst hz
    refine ⟨by simp, .inr ⟨g, m, _, rfl, hBg, hh.out, hnm, by unfold maxLen; omega, ?_, ?_⟩⟩
    · simp [splice]; omega
    · simp [splice]
set_option maxHeartbeats 400000 in
theorem copied_any (a : Option Addr) (len cap : Nat) (zs : List Int) (hl : len ≤ 900000) (w : World) (h : Sl w a len cap zs) :
    Calls Try.prog 35 #[.slice a len cap] w (OwnPost w.heap.size w zs) := by
  have H := Lib.hid h
  have hz := h.sz
  subst hz
  clear h
  go_enter Try.func35, Try.ntmps35
  go_wp2_with (first
    | ((with_reducible refine wpList_room rfl rfl zs.length (zs.length + 16) (zs.length : Int) ((zs.length : Int) + 16) ?_ ?_ rfl (by omega) (by omega) (by omega) ?_); (rfl); (rfl); intro w1 hh hb hlt; have Hh := Lib.hid hh; have Hb := Lib.hid hb; clear hh hb)
    | ((with_reducible refine copy_new rfl (.tmp 10) (.tmp 11) ?_ w.heap.size zs.length (zs.length + 16) ?_ a cap zs ?_ (H.out.below Hb.out) Hh.out (by omega) (by omega) w.heap.size Hb.out (Nat.le_refl _) ?_); (rfl); (rfl); (rfl); intro w2 hown hb2; have HO := Lib.hid hown; have HB2 := Lib.hid hb2; clear hown hb2))
  go_ret
  exact own_post HO.out HB2.out
end Go.Proofs.Ytgfodleoollmmaa
