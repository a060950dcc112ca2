/- The mainline: the reference's Get. Bound: at most 900000 events. -/
import Derived.Test.YtoljlpddcpdoiaaW9
import Derived.Deep.MidRow
namespace Go.Proofs.Ytoljlpddcpdoiaa
open Go Go.RowKit Go.Maps
set_option linter.unusedVariables false
set_option linter.unusedSimpArgs false

def zE : List Value := [.int .i64 0, .string ⟨#[]⟩, .string ⟨#[]⟩, .int .i64 0, .bool false, .string ⟨#[]⟩, .int .i64 0, .int .i64 0, .slice none 0 0, .slice none 0 0, .string ⟨#[]⟩, .int .i64 0, .int .i64 0, .bool false, .string ⟨#[]⟩, .slice none 0 0, .slice none 0 0, .slice none 0 0, .slice none 0 0, .int .i64 0, .int .i64 0, .int .i64 0, .int .i64 0, .int .i64 0, .int .i64 0, .int .i64 0, .int .i64 0, .string ⟨#[]⟩, .int .i64 0]
theorem zE_one : ∀ u ∈ zE, u.oneCell' = true := by simp [zE, Value.oneCell']
theorem size44 : (Try.prog.info? 44).map (·.size) = some 29 := by kernel_rfl
theorem size44l {cs : List Value} (h : cs.length = 29) : (Try.prog.info? 44).map (·.size) = some cs.length := by rw [h]; exact size44
theorem size44a {cs : List Value} (h : cs.length = 29) : (Try.prog.info? 44).map (·.size) = some cs.toArray.size := by rw [List.size_toArray, h]; exact size44
theorem all_arr {cs : List Value} (h : ∀ u ∈ cs, u.oneCell' = true) : cs.toArray.all (·.oneCell') = true := by
  rw [Array.all_eq_true_iff_forall_mem]
  intro x hx
  exact h x (by simpa using hx)
theorem splice_all {cs vs : List Value} (e : vs.length = cs.length) : (vs ++ cs.drop vs.length) = vs := by rw [List.drop_of_length_le (by omega), List.append_nil]
/-- What Get gives. -/
def GetP (w : World) (E : Nat → Me) (n : Nat) (id : Int) (e : Ending) (w' : World) : Prop := ∃ cs : List Value, e = .returned (.tuple #[.agg cs.toArray, .bool (plc E n id).isSome]) ∧ cs.length = 29 ∧ (∀ u ∈ cs, u.oneCell' = true) ∧ (∀ j : Nat, plc E n id = some (j : Int) → cs = (E j).cs) ∧ Below w.heap.size w w'
theorem below_setRow {B b : Nat} {a w : World} (h : Below B a w) (hb : B ≤ b) (vs : List Value) (o : Nat) : Below B a (w.setCells b o vs) := by
  induction vs generalizing o w with
  | nil => exact h
  | cons v vs ih => exact ih (h.setCell (p := ⟨b, o, none⟩) hb v) (o + 1)
set_option maxRecDepth 100000 in
set_option maxHeartbeats 4000000 in
theorem get17 (A : Option Addr) (n c : Nat) (E : Nat → Me) (id : Int) (w : World) (h : Evm w A n E) (hn : n ≤ 900000) : Calls Try.prog 17 #[.slice A n c, .int .i64 id] w (GetP w E n id) := by
  unfold GetP
  have H := Lib.hid h
  have HP := Lib.hid (fun v (hb : Below w.heap.size w v) => place33 A n c E id v (H.out.below hb) hn)
  have BA := Lib.hid ((Below.refl w.heap.size w).alloc (Nat.le_refl _) (.cells #[.int .i64 0, .string ⟨#[]⟩, .string ⟨#[]⟩, .int .i64 0, .bool false, .string ⟨#[]⟩, .int .i64 0, .int .i64 0, .slice none 0 0, .slice none 0 0, .string ⟨#[]⟩, .int .i64 0, .int .i64 0, .bool false, .string ⟨#[]⟩, .slice none 0 0, .slice none 0 0, .slice none 0 0, .slice none 0 0, .int .i64 0, .int .i64 0, .int .i64 0, .int .i64 0, .int .i64 0, .int .i64 0, .int .i64 0, .int .i64 0, .string ⟨#[]⟩, .int .i64 0] 44))
  have X4 := Lib.hid (show Blk (w.alloc (.cells #[.int .i64 0, .string ⟨#[]⟩, .string ⟨#[]⟩, .int .i64 0, .bool false, .string ⟨#[]⟩, .int .i64 0, .int .i64 0, .slice none 0 0, .slice none 0 0, .string ⟨#[]⟩, .int .i64 0, .int .i64 0, .bool false, .string ⟨#[]⟩, .slice none 0 0, .slice none 0 0, .slice none 0 0, .slice none 0 0, .int .i64 0, .int .i64 0, .int .i64 0, .int .i64 0, .int .i64 0, .int .i64 0, .int .i64 0, .int .i64 0, .string ⟨#[]⟩, .int .i64 0] 44)) w.heap.size zE 44 from blk_new w zE 44)
  clear h
  cases hp : plc E n id with
  | none =>
    rw [hp] at HP
    clear hp
    go_enter Try.func17, Try.ntmps17
    go_wp2_with (first
      | (go_at_call 33; (with_reducible refine (HP.out _ BA.out).mono ?_); rintro e w1 ⟨rfl, rfl⟩)
      | (refine wpList_store_mid rfl 44 _ _ rfl w.heap.size 0 #[.int .i64 0, .string ⟨#[]⟩, .string ⟨#[]⟩, .int .i64 0, .bool false, .string ⟨#[]⟩, .int .i64 0, .int .i64 0, .slice none 0 0, .slice none 0 0, .string ⟨#[]⟩, .int .i64 0, .int .i64 0, .bool false, .string ⟨#[]⟩, .slice none 0 0, .slice none 0 0, .slice none 0 0, .slice none 0 0, .int .i64 0, .int .i64 0, .int .i64 0, .int .i64 0, .int .i64 0, .int .i64 0, .int .i64 0, .int .i64 0, .string ⟨#[]⟩, .int .i64 0] rfl rfl (X4.out.there (by decide)) (size44a rfl) (all_arr zE_one) ?_)
      | go_in)
    try simp only [Exit.inBlock, Exit.then]
    refine bodyPost_ret (results_cell_tmp_blk rfl _ _ w.heap.size zE 44 _ rfl (X4.out.setAll zE rfl) Try.underlying44 rfl size44) rfl ?_
    exact ⟨zE, rfl, rfl, zE_one, (fun j hj => by cases hj), below_setRow BA.out (Nat.le_refl _) _ _⟩
  | some i =>
    obtain ⟨j, rfl, hj, _⟩ := plc_lt hp
    rw [hp] at HP
    have hf := H.out.fit j hj
    obtain ⟨b, off, rfl, hbl, hr⟩ := H.out.range hj
    have HF := Lib.hid hf
    have HR := Lib.hid (show World.rangeAt (w.alloc (.cells #[.int .i64 0, .string ⟨#[]⟩, .string ⟨#[]⟩, .int .i64 0, .bool false, .string ⟨#[]⟩, .int .i64 0, .int .i64 0, .slice none 0 0, .slice none 0 0, .string ⟨#[]⟩, .int .i64 0, .int .i64 0, .bool false, .string ⟨#[]⟩, .slice none 0 0, .slice none 0 0, .slice none 0 0, .slice none 0 0, .int .i64 0, .int .i64 0, .int .i64 0, .int .i64 0, .int .i64 0, .int .i64 0, .int .i64 0, .int .i64 0, .string ⟨#[]⟩, .int .i64 0] 44)) b (off + j * 29) (E j).cs from fun k v hv => (BA.out.cell (p := ⟨b, _, none⟩) hbl).trans (hr k v hv))
    have hjz : (j : Int) < (n : Int) := by omega
    have hj0 : ¬ (j : Int) < 0 := by omega
    have hj1 : (0 : Int) ≤ (j : Int) := by omega
    clear hp hr hf
    generalize hcs : (E j).cs = cs at HR
    have HL := Lib.hid (show cs.length = 29 by rw [← hcs]; exact HF.out.len)
    have HO := Lib.hid (show ∀ u ∈ cs, u.oneCell' = true by rw [← hcs]; exact HF.out.one)
    have HC := Lib.hid hcs
    clear hcs
    go_enter Try.func17, Try.ntmps17
    go_wp2_with (first
      | (go_at_call 33; (with_reducible refine (HP.out _ BA.out).mono ?_); rintro e w1 ⟨rfl, rfl⟩)
      | (refine wpList_load_mid rfl 44 _ rfl b (off + j * 29) rfl cs _ HR.out Try.underlying44 rfl (size44l HL.out) ?_)
      | (refine wpList_store_mid rfl 44 _ _ rfl w.heap.size 0 cs.toArray rfl rfl (X4.out.there (by rw [List.size_toArray, HL.out]; decide)) (size44a HL.out) (all_arr HO.out) ?_))
    try simp only [Exit.inBlock, Exit.then]
    refine bodyPost_ret (results_cell_tmp_blk rfl _ _ w.heap.size cs 44 _ rfl (X4.out.setAll cs HL.out) Try.underlying44 rfl (size44l HL.out)) rfl ?_
    exact ⟨cs, rfl, HL.out, HO.out, (by first | exact HC.out.symm | (intro j' hj'; cases hj'; exact HC.out.symm)), below_setRow BA.out (Nat.le_refl _) _ _⟩
end Go.Proofs.Ytoljlpddcpdoiaa
