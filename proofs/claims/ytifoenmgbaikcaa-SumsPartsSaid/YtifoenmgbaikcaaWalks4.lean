/- The walks of the sums' digits: what `value` and `Unhex` return, for every text. Condition of `value`: the argument is a byte. -/
import Derived.Test.YtifoenmgbaikcaaWalks3
import Derived.Test.YtifoenmgbaikcaaMath2
import Derived.Deep.RegionWith
import Derived.BigQuiet
namespace Go.Proofs.Ytifoenmgbaikcaa
open Go.RowKit
set_option linter.unusedVariables false

theorem ret_i64 {a b : Int} (h : a = b) : Ending.returned (.int .i64 a) = .returned (.int .i64 b) := by rw [h]

set_option maxHeartbeats 400000 in
theorem value_any (b : Int) (h0 : 0 ≤ b) (h1 : b ≤ 255) (w : World) :
    Calls Try.prog 22 #[.int .u8 b] w fun e w' => e = .returned (.int .i64 (M.val b)) ∧ w = w' := by
  by_cases h : 97 ≤ b
  · go_enter Try.func22, Try.ntmps22
    go_wp2
    go_ret
    exact ⟨ret_i64 (M.val_hi b h), rfl⟩
  · have h : b < 97 := by omega
    go_enter Try.func22, Try.ntmps22
    go_wp2
    go_ret
    exact ⟨ret_i64 (M.val_lo b h), rfl⟩

/-- The bytes of a text, as numbers. -/
def bys (s : ByteArray) : List Int := s.data.toList.map fun c => (c.toNat : Int)
theorem bys_len (s : ByteArray) : (bys s).length = s.size := by unfold bys; rw [List.length_map, Array.length_toList]; rfl
theorem bys_get (s : ByteArray) (k : Nat) (h : k < s.size) : (bys s).getD k 0 = (s[k].toNat : Int) := by
  unfold bys
  rw [List.getD_eq_getElem?_getD, List.getElem?_map]
  have : k < s.data.toList.length := by rw [Array.length_toList]; exact h
  rw [List.getElem?_eq_getElem this]
  rfl

/-- The 16 cells after the first k bytes of l are copied. -/
@[irreducible] def inp (l : List Int) (k : Nat) : Array Value := ((List.range 16).map fun j => if j < k then Value.int .u8 (l.getD j 0) else .int .u8 0).toArray
theorem inp_zero (l : List Int) : inp l 0 = #[.int .u8 0, .int .u8 0, .int .u8 0, .int .u8 0, .int .u8 0, .int .u8 0, .int .u8 0, .int .u8 0, .int .u8 0, .int .u8 0, .int .u8 0, .int .u8 0, .int .u8 0, .int .u8 0, .int .u8 0, .int .u8 0] := by
  unfold inp; simp [List.range, List.range.loop]
theorem inp_size (l : List Int) (k : Nat) : (inp l k).size = 16 := by unfold inp; simp
theorem inp_get (l : List Int) (k j : Nat) (h : j < 16) : (inp l k)[j]? = some (if j < k then Value.int .u8 (l.getD j 0) else .int .u8 0) := by
  unfold inp; simp [h]
theorem inp_set (l : List Int) (k : Nat) (h : k < 16) : (inp l k).setIfInBounds k (.int .u8 (l.getD k 0)) = inp l (k + 1) := by
  apply Array.ext_getElem?
  intro j
  rw [Array.getElem?_setIfInBounds, inp_size]
  by_cases hj : j < 16
  · rw [inp_get _ _ _ hj, inp_get _ _ _ hj]
    by_cases e : k = j
    · subst e; rw [if_pos rfl, if_pos (by omega), if_pos (by omega)]
    · rw [if_neg e]
      by_cases e2 : j < k
      · rw [if_pos e2, if_pos (by omega)]
      · rw [if_neg e2, if_neg (by omega)]
  · rw [if_neg (by omega), Array.getElem?_eq_none (by rw [inp_size]; omega), Array.getElem?_eq_none (by rw [inp_size]; omega)]

theorem inp_full (l : List Int) : inp l 16 = #[.int .u8 (l[0]?.getD 0), .int .u8 (l[1]?.getD 0), .int .u8 (l[2]?.getD 0), .int .u8 (l[3]?.getD 0), .int .u8 (l[4]?.getD 0), .int .u8 (l[5]?.getD 0), .int .u8 (l[6]?.getD 0), .int .u8 (l[7]?.getD 0), .int .u8 (l[8]?.getD 0), .int .u8 (l[9]?.getD 0), .int .u8 (l[10]?.getD 0), .int .u8 (l[11]?.getD 0), .int .u8 (l[12]?.getD 0), .int .u8 (l[13]?.getD 0), .int .u8 (l[14]?.getD 0), .int .u8 (l[15]?.getD 0)] := by
  unfold inp; simp [List.range, List.range.loop]
theorem sixteen (l : List Int) (h : l.length = 16) : l = [l.getD 0 0, l.getD 1 0, l.getD 2 0, l.getD 3 0, l.getD 4 0, l.getD 5 0, l.getD 6 0, l.getD 7 0, l.getD 8 0, l.getD 9 0, l.getD 10 0, l.getD 11 0, l.getD 12 0, l.getD 13 0, l.getD 14 0, l.getD 15 0] := by
  match l, h with
  | [x0, x1, x2, x3, x4, x5, x6, x7, x8, x9, x10, x11, x12, x13, x14, x15], _ => rfl

theorem size5 (w : World) : (sizeOf 5).run Try.prog w = .ok 1 w := by kernel_rfl

/-- Two arrays of 16 bytes are compared as the lists of their bytes. -/
theorem equal_ints (w : World) (xs ys : List Int) (hx : xs.length = 16) (hy : ys.length = 16) :
    (Op.equalIn 10000 38 (.agg (xs.map (Value.int .u8)).toArray) (.agg (ys.map (Value.int .u8)).toArray)).run Try.prog w = .ok (xs == ys) w := by
  have hall : ∀ (a b : List Int), a.length = b.length → ((List.range a.length).all fun i => a.getD i 0 == b.getD i 0) = (a == b) := by
    intro a
    induction a with
    | nil => intro b h; cases b with | nil => rfl | cons y b => simp at h
    | cons x a ih =>
      intro b h
      cases b with
      | nil => simp at h
      | cons y b =>
        have ih := ih b (by simpa using h)
        rw [List.length_cons, List.range_succ_eq_map, List.all_cons, List.all_map]
        simp only [List.getD_cons_zero, Function.comp_def, List.getD_cons_succ, ih]
        simp [List.cons_beq_cons]
  rw [← hall xs ys (hx.trans hy.symm), hx, List.range_eq_range', show (10000 : Nat) = 9998 + 2 from rfl, Op.equalIn]
  simp only [Sem.run_bind, run_underlying Try.underlying38, Result.andThen_ok, size5, Std.Legacy.Range.forIn_eq_forIn_range', Std.Legacy.Range.size, Nat.sub_zero, Nat.add_sub_cancel, Nat.div_one]
  have hl : ∀ i ∈ List.range' 0 16 1, i < 16 := fun i hi => by simpa using (List.mem_range'_1.1 hi).2
  generalize List.range' 0 16 1 = l at hl ⊢
  induction l with
  | nil => simp
  | cons i l ih =>
    have hi : i < 16 := hl i (by simp)
    have px : (part 5 (xs.map (Value.int .u8)).toArray (i * 1)).run Try.prog w = .ok (Value.int .u8 (xs.getD i 0)) w := by
      simp [part, isAgg, run_underlying Try.underlying5, List.getD, List.getElem?_eq_getElem (show i < xs.length by omega)]
    have py : (part 5 (ys.map (Value.int .u8)).toArray (i * 1)).run Try.prog w = .ok (Value.int .u8 (ys.getD i 0)) w := by
      simp [part, isAgg, run_underlying Try.underlying5, List.getD, List.getElem?_eq_getElem (show i < ys.length by omega)]
    have pe : (Op.equalIn (9998 + 1) 5 (Value.int .u8 (xs.getD i 0)) (Value.int .u8 (ys.getD i 0))).run Try.prog w = .ok (xs.getD i 0 == ys.getD i 0) w :=
      run_equalIn_int w 9998 5 .u8 .u8 _ _ Try.underlying5
    simp only [List.forIn_cons, Sem.run_bind, px, py, pe, Result.andThen_ok, List.all_cons]
    cases hb : (xs.getD i 0 == ys.getD i 0)
    · simp
    · simp only [Bool.not_true, Bool.false_eq_true, if_false, Sem.run_pure, Result.andThen_ok, Bool.true_and]
      exact ih fun j hj => hl j (by simp [hj])

theorem equal_digs (m : Nat) (l : List Int) (hl : l.length = 16) (w : World) :
    (Op.equalIn 10000 38 (.agg (M.digs m)) (.agg #[.int .u8 (l[0]?.getD 0), .int .u8 (l[1]?.getD 0), .int .u8 (l[2]?.getD 0), .int .u8 (l[3]?.getD 0), .int .u8 (l[4]?.getD 0), .int .u8 (l[5]?.getD 0), .int .u8 (l[6]?.getD 0), .int .u8 (l[7]?.getD 0), .int .u8 (l[8]?.getD 0), .int .u8 (l[9]?.getD 0), .int .u8 (l[10]?.getD 0), .int .u8 (l[11]?.getD 0), .int .u8 (l[12]?.getD 0), .int .u8 (l[13]?.getD 0), .int .u8 (l[14]?.getD 0), .int .u8 (l[15]?.getD 0)])).run Try.prog w = .ok (M.dgl m == l) w := by
  have := equal_ints w (M.dgl m) l rfl hl
  rw [sixteen l hl] at this ⊢
  exact this

theorem bcell {W w1 : World} (hb : Below W.heap.size W w1) : (∀ b o, b < W.heap.size → w1.cell? ⟨b, o, none⟩ = W.cell? ⟨b, o, none⟩) ∧ (∀ b o, b < W.heap.size → w1.frozen? ⟨b, o, none⟩ = W.frozen? ⟨b, o, none⟩) :=
  ⟨fun b o h => hb.cell (p := ⟨b, o, none⟩) h, fun b o h => hb.frozen (p := ⟨b, o, none⟩) h⟩

/-- What Unhex returns for a text of 16 bytes. -/
def unh (s : ByteArray) : Value := if M.dgl (M.lo (M.poly (bys s))) = bys s then .tuple #[.int .i64 ((M.lo (M.poly (bys s)) : Nat) : Int), .bool true] else .tuple #[.int .i64 0, .bool false]

set_option maxHeartbeats 400000 in
theorem unhex_no (s : ByteArray) (hs : s.size ≤ 9223372036854775807) (hn : s.size ≠ 16) (w : World) :
    Calls Try.prog 16 #[.string s] w fun e w' => e = .returned (.tuple #[.int .i64 0, .bool false]) ∧ Below w.heap.size w w' := by
  have hb : ((s.size : Int) != 16) = true := by rw [bne_iff_ne]; omega
  have Hn := Lib.hid hn
  clear hn
  go_enter Try.func16, Try.ntmps16
  go_wp2
  go_ret2
  exact ⟨rfl, (Below.refl _ _).alloc (Nat.le_refl _) _⟩

end Go.Proofs.Ytifoenmgbaikcaa
