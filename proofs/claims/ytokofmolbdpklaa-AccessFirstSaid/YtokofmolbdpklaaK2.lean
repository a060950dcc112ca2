/- awake: its walk. No condition. -/
import Derived.Test.YtokofmolbdpklaaK1
namespace Go.Proofs.Ytokofmolbdpklaa
open Go.RowKit
set_option linter.unusedVariables false

theorem load_mid_g {P : Program} {ops : Array Oper} {rest : List Oper} {op : Oper} {a : Act} {w : World} {Q : Exit → Act → World → Prop} (hw : Region.wanted op (yielded ops a.tmps) = true) (ty : TypeId) (x : Operand) (ho : op.op = .load ty x)
    (b o : Nat) (hx : a.eval x = .pointer (some ⟨b, o, none⟩)) (cs : List Value) (d : TypeDesc) (hc : w.rangeAt b o cs)
    (hu : P.underlying ty = some d) (hd : d.isRow = true) (hi : (P.info? ty).map (·.size) = some cs.length)
    (h : wpList P ops Q rest (a.put op.dst (.agg cs.toArray)) w) : wpList P ops Q (op :: rest) a w :=
  wpList_step fun K hK => by
    rw [if_pos hw]
    exact wp_load_mid ty x ho b o hx cs d hc hu hd hi (hK _ _ h)
set_option maxHeartbeats 4000000 in
theorem awake8 (w : World) : Calls Try.prog 8 #[] w fun e w' => e = .returned (.bool true) ∧ Below w.heap.size w w' := by
  go_enter Try.func8, Try.ntmps8
  go_upto_region 1 with (fail)
  go_upto_region 2 with (refine store_mid_as rfl 28 _ _ rfl (w.heap.size + 2) 0 (cxc w.heap.size).toArray rfl rfl (there_third _ _ _) size28c (by simp [Value.oneCell']) ?_; intro w4 e4; have A4 := Lib.hid (awk_start w w4 e4); clear e4)
  trace "R1"
  go_upto_region 3 with (first
    | (refine load_mid_g (by rfl) 28 _ rfl (w.heap.size + 2) 0 rfl [.string ⟨#[]⟩, .int .i64 0, .int .i64 0, .bool false, .string ⟨#[]⟩, .slice (some ⟨w.heap.size, 0, none⟩) 1 1, .slice (some ⟨w.heap.size + 1, 0, none⟩) 1 1, .slice none 0 0, .slice none 0 0, .int .i64 0, .int .i64 0, .int .i64 0, .int .i64 0, .int .i64 0, .int .i64 0, .int .i64 0] _ A4.out.x.range Try.underlying28 rfl size28c ?_)
    | (go_at_call 14; refine (o_two w4 w.heap.size A4.out.i).mono ?_; rintro e w5 ⟨⟨a5, rfl, hc5⟩, hb5⟩; have A5 := Lib.hid (A4.out.below (((Below.refl _ w4).alloc (Nat.le_refl _) _).trans (hb5.mono (by simp)))); have I5 := Lib.hid hc5; clear hc5 hb5 A4)
    | (refine store_mid_as rfl 28 _ _ rfl w5.heap.size 0 (cells cx a5).toArray rfl rfl (Blk.there (n := 16) (blk_new w5 c16 28) (by decide)) size28c (ctc_one _ _) ?_; intro w6 e6; have A6 := Lib.hid (A5.out.store _ e6); have X6 : Hid (Blk w6 w5.heap.size (cells cx a5) 28) := Lib.hid (by rw [e6]; exact (blk_new w5 c16 28).setAll _ rfl); have J6 : Hid (IsCt w6 cx a5) := Lib.hid (by rw [e6]; exact (I5.out.below ((Below.refl _ w5).alloc (Nat.le_refl _) _)).otherAll _ _ _ (I5.out.apart (Nat.le_refl _))); clear e6 A5 I5))
  trace "R2"
  go_upto_region 4 with (first
    | (go_at_call 14; (with_reducible refine (o_nil _).mono ?_); rintro e w7 ⟨rfl, hb7⟩; have A7 := Lib.hid (A6.out.below hb7); have X7 := Lib.hid (X6.out.below hb7); have J7 := Lib.hid (J6.out.below hb7); clear hb7 A6 X6 J6)
    | (refine store_mid_as rfl 28 _ _ rfl w7.heap.size 0 c16.toArray rfl rfl (Blk.there (n := 16) (blk_new w7 c16 28) (by decide)) size28c (by simp [Value.oneCell']) ?_; intro w8 e8; have A8 := Lib.hid (A7.out.store _ e8); have X8 : Hid (Blk w8 w5.heap.size (cells cx a5) 28) := Lib.hid (by rw [e8]; exact (X7.out.alloc _).otherAll _ _ _ (by have := X7.out.lt; omega)); have J8 : Hid (IsCt w8 cx a5) := Lib.hid (by rw [e8]; exact (J7.out.below ((Below.refl _ w7).alloc (Nat.le_refl _) _)).otherAll _ _ _ (J7.out.apart (Nat.le_refl _))); clear e8 A7 X7 J7))
  trace "R3"
  go_wp2_with (first
    | (refine load_mid_g (by rfl) 28 _ rfl (w.heap.size + 2) 0 rfl [.string ⟨#[]⟩, .int .i64 0, .int .i64 0, .bool false, .string ⟨#[]⟩, .slice (some ⟨w.heap.size, 0, none⟩) 1 1, .slice (some ⟨w.heap.size + 1, 0, none⟩) 1 1, .slice none 0 0, .slice none 0 0, .int .i64 0, .int .i64 0, .int .i64 0, .int .i64 0, .int .i64 0, .int .i64 0, .int .i64 0] _ A8.out.x.range Try.underlying28 rfl size28c ?_) | (refine load_mid_g (by rfl) 28 _ rfl (w.heap.size + 2) 0 rfl [.string ⟨#[]⟩, .int .i64 0, .int .i64 0, .bool false, .string ⟨#[]⟩, .slice (some ⟨w.heap.size, 0, none⟩) 1 1, .slice (some ⟨w.heap.size + 1, 0, none⟩) 1 1, .slice none 0 0, .slice none 0 0, .int .i64 0, .int .i64 0, .int .i64 0, .int .i64 0, .int .i64 0, .int .i64 0, .int .i64 0] _ A9.out.x.range Try.underlying28 rfl size28c ?_) | (refine load_mid_g (by rfl) 28 _ rfl (w.heap.size + 2) 0 rfl [.string ⟨#[]⟩, .int .i64 0, .int .i64 0, .bool false, .string ⟨#[]⟩, .slice (some ⟨w.heap.size, 0, none⟩) 1 1, .slice (some ⟨w.heap.size + 1, 0, none⟩) 1 1, .slice none 0 0, .slice none 0 0, .int .i64 0, .int .i64 0, .int .i64 0, .int .i64 0, .int .i64 0, .int .i64 0, .int .i64 0] _ A11.out.x.range Try.underlying28 rfl size28c ?_) | (refine load_mid_g (by rfl) 28 _ rfl w5.heap.size 0 rfl (cells cx a5) _ X11.out.range Try.underlying28 rfl size28c ?_) | (refine load_mid_g (by rfl) 28 _ rfl (w.heap.size + 2) 0 rfl [.string ⟨#[]⟩, .int .i64 0, .int .i64 0, .bool false, .string ⟨#[]⟩, .slice (some ⟨w.heap.size, 0, none⟩) 1 1, .slice (some ⟨w.heap.size + 1, 0, none⟩) 1 1, .slice none 0 0, .slice none 0 0, .int .i64 0, .int .i64 0, .int .i64 0, .int .i64 0, .int .i64 0, .int .i64 0, .int .i64 0] _ A13.out.x.range Try.underlying28 rfl size28c ?_) | (refine load_mid_g (by rfl) 28 _ rfl (w.heap.size + 2) 0 rfl [.string ⟨#[]⟩, .int .i64 0, .int .i64 0, .bool false, .string ⟨#[]⟩, .slice (some ⟨w.heap.size, 0, none⟩) 1 1, .slice (some ⟨w.heap.size + 1, 0, none⟩) 1 1, .slice none 0 0, .slice none 0 0, .int .i64 0, .int .i64 0, .int .i64 0, .int .i64 0, .int .i64 0, .int .i64 0, .int .i64 0] _ A14.out.x.range Try.underlying28 rfl size28c ?_) | (refine load_mid_g (by rfl) 28 _ rfl (w.heap.size + 2) 0 rfl [.string ⟨#[]⟩, .int .i64 0, .int .i64 0, .bool false, .string ⟨#[]⟩, .slice (some ⟨w.heap.size, 0, none⟩) 1 1, .slice (some ⟨w.heap.size + 1, 0, none⟩) 1 1, .slice none 0 0, .slice none 0 0, .int .i64 0, .int .i64 0, .int .i64 0, .int .i64 0, .int .i64 0, .int .i64 0, .int .i64 0] _ A15.out.x.range Try.underlying28 rfl size28c ?_)
    | (go_at_call 9; (with_reducible refine (k_a _ w.heap.size A8.out.i).mono ?_); rintro e v9 ⟨rfl, hb9⟩; have A9 := Lib.hid (A8.out.below hb9); have X9 := Lib.hid (X8.out.below hb9); have J9 := Lib.hid (J8.out.below hb9); clear hb9 A8 X8 J8; trace "A9")
    | (go_at_call 9; (with_reducible refine (k_b _ w.heap.size A9.out.i).mono ?_); rintro e v10 ⟨rfl, hb10⟩; have A10 := Lib.hid (A9.out.below hb10); have X10 := Lib.hid (X9.out.below hb10); have J10 := Lib.hid (J9.out.below hb10); clear hb10 A9 X9 J9; trace "A10")
    | (go_at_call 9; (with_reducible refine (k_c _).mono ?_); rintro e v11 ⟨rfl, hb11⟩; have A11 := Lib.hid (A10.out.below hb11); have X11 := Lib.hid (X10.out.below hb11); have J11 := Lib.hid (J10.out.below hb11); clear hb11 A10 X10 J10; trace "A11")
    | (go_at_call 16; (with_reducible refine (k_d _ w.heap.size a5 A11.out.i J11.out).mono ?_); rintro e v12 ⟨rfl, hb12⟩; have A12 := Lib.hid (A11.out.below hb12); clear hb12 A11 X11 J11; trace "A12")
    | (go_at_call 17; (with_reducible refine (k_e _).mono ?_); rintro e v13 ⟨rfl, hb13⟩; have A13 := Lib.hid (A12.out.below hb13); clear hb13 A12; trace "A13")
    | (go_at_call 17; refine (k_f v13 w.heap.size A13.out.i).mono ?_; rintro e v14 ⟨rfl, hb14⟩; have A14 := Lib.hid (A13.out.below (((Below.refl _ v13).alloc (Nat.le_refl _) _).trans (hb14.mono (by simp)))); clear hb14 A13; trace "A14")
    | (go_at_call 11; (with_reducible refine (k_g _ w.heap.size A14.out.i).mono ?_); rintro e v15 ⟨rfl, hb15⟩; have A15 := Lib.hid (A14.out.below hb15); clear hb15 A14; trace "A15")
    | (go_at_call 11; (with_reducible refine (k_h _ w.heap.size A15.out.i).mono ?_); rintro e v16 ⟨rfl, hb16⟩; have A16 := Lib.hid (A15.out.below hb16); clear hb16 A15; trace "A16"))
  go_ret
  exact ⟨rfl, A16.out.b⟩
end Go.Proofs.Ytokofmolbdpklaa
