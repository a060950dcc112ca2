/- The mainline: the reference's Ahead, at known ids. Bound: at most 900000 events and numbers. -/
import Derived.Test.YtoljlpddcpdoiaaW13
namespace Go.Proofs.Ytoljlpddcpdoiaa
open Go Go.RowKit Go.Maps
set_option linter.unusedVariables false
set_option linter.unusedSimpArgs false

/-- What the order goes by: how far an id is from the mainline, its time, itself. -/
def ahd (ca cb ta tb a b : Int) : Bool := if ca = cb then (if ta = tb then decide (a < b) else decide (ta < tb)) else decide (cb < ca)
set_option maxRecDepth 100000 in
set_option maxHeartbeats 8000000 in
theorem rahead32 (A : Option Addr) (n c : Nat) (E : Nat → Me) (A2 : Option Addr) (n2 k2 : Nat) (zs : List Int) (a b : Int) (ia ib : Nat) (w : World) (h : Evm w A n E) (hn : n ≤ 900000) (h2 : Its w A2 n2 k2 zs) (hn2 : n2 ≤ 900000) (hwa : i64B a) (hwb : i64B b) (ha : plc E n a = some (ia : Int)) (hb : plc E n b = some (ib : Int)) :
    Calls Try.prog 32 #[.slice A n c, .slice A2 n2 k2, .int .i64 a, .int .i64 b] w fun e w' => e = .returned (.bool (ahd (clo (wayL E n a) (rk zs) n2) (clo (wayL E n b) (rk zs) n2) (E ia).tm (E ib).tm a b)) ∧ Below w.heap.size w w' := by
  have KA := Lib.hid (fun v (x : Below w.heap.size w v) => rclosest14 A n c E A2 n2 k2 zs a v (h.below x) hn (h2.below x) hn2 hwa)
  have KB := Lib.hid (fun v (x : Below w.heap.size w v) => rclosest14 A n c E A2 n2 k2 zs b v (h.below x) hn (h2.below x) hn2 hwb)
  have GA := Lib.hid (fun v (x : Below w.heap.size w v) => get17 A n c E a v (h.below x) hn)
  have GB := Lib.hid (fun v (x : Below w.heap.size w v) => get17 A n c E b v (h.below x) hn)
  unfold GetP at GA GB
  rw [ha] at GA
  rw [hb] at GB
  obtain ⟨ja, ea, hja, _⟩ := plc_lt ha
  obtain ⟨jb, eb, hjb, _⟩ := plc_lt hb
  obtain rfl : ia = ja := by omega
  obtain rfl : ib = jb := by omega
  have FA := Lib.hid (h.fit ia hja).c6
  have FB := Lib.hid (h.fit ib hjb).c6
  have B0 := Lib.hid (Below.refl w.heap.size w)
  clear h h2 ha hb ea eb
  generalize clo (wayL E n a) (rk zs) n2 = x at KA ⊢
  generalize clo (wayL E n b) (rk zs) n2 = y at KB ⊢
  generalize hta : (E ia).tm = ta at FA ⊢
  generalize htb : (E ib).tm = tb at FB ⊢
  clear hta htb
  have HD := Lib.hid (show ahd x y ta tb a b = (if x = y then (if ta = tb then decide (a < b) else decide (ta < tb)) else decide (y < x)) from rfl)
  generalize ahd x y ta tb a b = r at HD ⊢
  by_cases h1 : x = y
  · subst h1
    rw [if_pos rfl] at HD
    by_cases h2 : ta = tb
    · rw [if_pos h2] at HD
      have heq : (ta != tb) = false := by simp [h2]
      clear h2
      go_enter Try.func32, Try.ntmps32
      go_wp2_with (first
        | (go_at_call 14; (with_reducible refine (KB.out _ B1.out).mono ?_); rintro e w2 ⟨rfl, hb⟩; have B2 := Lib.hid (B1.out.trans (hb.mono B1.out.size)); clear hb)
        | (go_at_call 14; (with_reducible refine (KA.out _ B0.out).mono ?_); rintro e w1 ⟨rfl, hb⟩; have B1 := Lib.hid (B0.out.trans (hb.mono B0.out.size)); clear hb)
        | (refine store_mid_as rfl 44 _ _ rfl w5.heap.size 0 cb.toArray rfl rfl (show World.there (w5.alloc (.cells #[.int .i64 0, .string ⟨#[]⟩, .string ⟨#[]⟩, .int .i64 0, .bool false, .string ⟨#[]⟩, .int .i64 0, .int .i64 0, .slice none 0 0, .slice none 0 0, .string ⟨#[]⟩, .int .i64 0, .int .i64 0, .bool false, .string ⟨#[]⟩, .slice none 0 0, .slice none 0 0, .slice none 0 0, .slice none 0 0, .int .i64 0, .int .i64 0, .int .i64 0, .int .i64 0, .int .i64 0, .int .i64 0, .int .i64 0, .int .i64 0, .string ⟨#[]⟩, .int .i64 0] 44)) w5.heap.size 0 _ from (show Blk (w5.alloc (.cells #[.int .i64 0, .string ⟨#[]⟩, .string ⟨#[]⟩, .int .i64 0, .bool false, .string ⟨#[]⟩, .int .i64 0, .int .i64 0, .slice none 0 0, .slice none 0 0, .string ⟨#[]⟩, .int .i64 0, .int .i64 0, .bool false, .string ⟨#[]⟩, .slice none 0 0, .slice none 0 0, .slice none 0 0, .slice none 0 0, .int .i64 0, .int .i64 0, .int .i64 0, .int .i64 0, .int .i64 0, .int .i64 0, .int .i64 0, .int .i64 0, .string ⟨#[]⟩, .int .i64 0] 44)) w5.heap.size zE 44 from blk_new w5 zE 44).there (by rw [List.size_toArray, Lcb.out]; decide)) (size44a Lcb.out) (all_arr Ocb.out) ?_; intro w6 e3; have B6 := Lib.hid (show Below w.heap.size w w6 by rw [e3]; exact below_setRow (B5.out.alloc B5.out.size _) B5.out.size _ _); have Y6 := Lib.hid (show Blk w6 w5.heap.size cb 44 by rw [e3]; exact (show Blk (w5.alloc (.cells #[.int .i64 0, .string ⟨#[]⟩, .string ⟨#[]⟩, .int .i64 0, .bool false, .string ⟨#[]⟩, .int .i64 0, .int .i64 0, .slice none 0 0, .slice none 0 0, .string ⟨#[]⟩, .int .i64 0, .int .i64 0, .bool false, .string ⟨#[]⟩, .slice none 0 0, .slice none 0 0, .slice none 0 0, .slice none 0 0, .int .i64 0, .int .i64 0, .int .i64 0, .int .i64 0, .int .i64 0, .int .i64 0, .int .i64 0, .int .i64 0, .string ⟨#[]⟩, .int .i64 0] 44)) w5.heap.size zE 44 from blk_new w5 zE 44).setAll cb Lcb.out); have X6 := Lib.hid (show Blk w6 w3.heap.size ca 44 by rw [e3]; exact (X5.out.alloc _).otherAll _ _ _ (Nat.ne_of_lt X5.out.lt)); have q1 := X6.out.cell (i := 6) Qca.out; have q2 := Y6.out.cell (i := 6) Qcb.out; clear e3)
        | (go_at_call 17; (with_reducible refine (GB.out _ B4.out).mono ?_); rintro e w5 ⟨cb, rfl, hl', ho', hq', hb⟩; have Lcb := Lib.hid hl'; have Ocb := Lib.hid ho'; have Qcb := Lib.hid (show cb[6]? = some (.int .i64 tb) by rw [hq' _ rfl]; exact FB.out); have B5 := Lib.hid (B4.out.trans (hb.mono B4.out.size)); have X5 := Lib.hid (X4.out.below hb); clear hb hl' ho' hq')
        | (refine store_mid_as rfl 44 _ _ rfl w3.heap.size 0 ca.toArray rfl rfl (show World.there (w3.alloc (.cells #[.int .i64 0, .string ⟨#[]⟩, .string ⟨#[]⟩, .int .i64 0, .bool false, .string ⟨#[]⟩, .int .i64 0, .int .i64 0, .slice none 0 0, .slice none 0 0, .string ⟨#[]⟩, .int .i64 0, .int .i64 0, .bool false, .string ⟨#[]⟩, .slice none 0 0, .slice none 0 0, .slice none 0 0, .slice none 0 0, .int .i64 0, .int .i64 0, .int .i64 0, .int .i64 0, .int .i64 0, .int .i64 0, .int .i64 0, .int .i64 0, .string ⟨#[]⟩, .int .i64 0] 44)) w3.heap.size 0 _ from (show Blk (w3.alloc (.cells #[.int .i64 0, .string ⟨#[]⟩, .string ⟨#[]⟩, .int .i64 0, .bool false, .string ⟨#[]⟩, .int .i64 0, .int .i64 0, .slice none 0 0, .slice none 0 0, .string ⟨#[]⟩, .int .i64 0, .int .i64 0, .bool false, .string ⟨#[]⟩, .slice none 0 0, .slice none 0 0, .slice none 0 0, .slice none 0 0, .int .i64 0, .int .i64 0, .int .i64 0, .int .i64 0, .int .i64 0, .int .i64 0, .int .i64 0, .int .i64 0, .string ⟨#[]⟩, .int .i64 0] 44)) w3.heap.size zE 44 from blk_new w3 zE 44).there (by rw [List.size_toArray, Lca.out]; decide)) (size44a Lca.out) (all_arr Oca.out) ?_; intro w4 e3; have B4 := Lib.hid (show Below w.heap.size w w4 by rw [e3]; exact below_setRow (B3.out.alloc B3.out.size _) B3.out.size _ _); have X4 := Lib.hid (show Blk w4 w3.heap.size ca 44 by rw [e3]; exact (show Blk (w3.alloc (.cells #[.int .i64 0, .string ⟨#[]⟩, .string ⟨#[]⟩, .int .i64 0, .bool false, .string ⟨#[]⟩, .int .i64 0, .int .i64 0, .slice none 0 0, .slice none 0 0, .string ⟨#[]⟩, .int .i64 0, .int .i64 0, .bool false, .string ⟨#[]⟩, .slice none 0 0, .slice none 0 0, .slice none 0 0, .slice none 0 0, .int .i64 0, .int .i64 0, .int .i64 0, .int .i64 0, .int .i64 0, .int .i64 0, .int .i64 0, .int .i64 0, .string ⟨#[]⟩, .int .i64 0] 44)) w3.heap.size zE 44 from blk_new w3 zE 44).setAll ca Lca.out);  clear e3)
        | (go_at_call 17; (with_reducible refine (GA.out _ B2.out).mono ?_); rintro e w3 ⟨ca, rfl, hl', ho', hq', hb⟩; have Lca := Lib.hid hl'; have Oca := Lib.hid ho'; have Qca := Lib.hid (show ca[6]? = some (.int .i64 ta) by rw [hq' _ rfl]; exact FA.out); have B3 := Lib.hid (B2.out.trans (hb.mono B2.out.size));  clear hb hl' ho' hq')
        | go_in)
      go_ret
      exact ⟨ret_b HD.out.symm, B6.out⟩
    · rw [if_neg h2] at HD
      have hne : (ta != tb) = true := by simpa using h2
      clear h2
      go_enter Try.func32, Try.ntmps32
      go_wp2_with (first
        | (go_at_call 14; (with_reducible refine (KB.out _ B1.out).mono ?_); rintro e w2 ⟨rfl, hb⟩; have B2 := Lib.hid (B1.out.trans (hb.mono B1.out.size)); clear hb)
        | (go_at_call 14; (with_reducible refine (KA.out _ B0.out).mono ?_); rintro e w1 ⟨rfl, hb⟩; have B1 := Lib.hid (B0.out.trans (hb.mono B0.out.size)); clear hb)
        | (refine store_mid_as rfl 44 _ _ rfl w5.heap.size 0 cb.toArray rfl rfl (show World.there (w5.alloc (.cells #[.int .i64 0, .string ⟨#[]⟩, .string ⟨#[]⟩, .int .i64 0, .bool false, .string ⟨#[]⟩, .int .i64 0, .int .i64 0, .slice none 0 0, .slice none 0 0, .string ⟨#[]⟩, .int .i64 0, .int .i64 0, .bool false, .string ⟨#[]⟩, .slice none 0 0, .slice none 0 0, .slice none 0 0, .slice none 0 0, .int .i64 0, .int .i64 0, .int .i64 0, .int .i64 0, .int .i64 0, .int .i64 0, .int .i64 0, .int .i64 0, .string ⟨#[]⟩, .int .i64 0] 44)) w5.heap.size 0 _ from (show Blk (w5.alloc (.cells #[.int .i64 0, .string ⟨#[]⟩, .string ⟨#[]⟩, .int .i64 0, .bool false, .string ⟨#[]⟩, .int .i64 0, .int .i64 0, .slice none 0 0, .slice none 0 0, .string ⟨#[]⟩, .int .i64 0, .int .i64 0, .bool false, .string ⟨#[]⟩, .slice none 0 0, .slice none 0 0, .slice none 0 0, .slice none 0 0, .int .i64 0, .int .i64 0, .int .i64 0, .int .i64 0, .int .i64 0, .int .i64 0, .int .i64 0, .int .i64 0, .string ⟨#[]⟩, .int .i64 0] 44)) w5.heap.size zE 44 from blk_new w5 zE 44).there (by rw [List.size_toArray, Lcb.out]; decide)) (size44a Lcb.out) (all_arr Ocb.out) ?_; intro w6 e3; have B6 := Lib.hid (show Below w.heap.size w w6 by rw [e3]; exact below_setRow (B5.out.alloc B5.out.size _) B5.out.size _ _); have Y6 := Lib.hid (show Blk w6 w5.heap.size cb 44 by rw [e3]; exact (show Blk (w5.alloc (.cells #[.int .i64 0, .string ⟨#[]⟩, .string ⟨#[]⟩, .int .i64 0, .bool false, .string ⟨#[]⟩, .int .i64 0, .int .i64 0, .slice none 0 0, .slice none 0 0, .string ⟨#[]⟩, .int .i64 0, .int .i64 0, .bool false, .string ⟨#[]⟩, .slice none 0 0, .slice none 0 0, .slice none 0 0, .slice none 0 0, .int .i64 0, .int .i64 0, .int .i64 0, .int .i64 0, .int .i64 0, .int .i64 0, .int .i64 0, .int .i64 0, .string ⟨#[]⟩, .int .i64 0] 44)) w5.heap.size zE 44 from blk_new w5 zE 44).setAll cb Lcb.out); have X6 := Lib.hid (show Blk w6 w3.heap.size ca 44 by rw [e3]; exact (X5.out.alloc _).otherAll _ _ _ (Nat.ne_of_lt X5.out.lt)); have q1 := X6.out.cell (i := 6) Qca.out; have q2 := Y6.out.cell (i := 6) Qcb.out; clear e3)
        | (go_at_call 17; (with_reducible refine (GB.out _ B4.out).mono ?_); rintro e w5 ⟨cb, rfl, hl', ho', hq', hb⟩; have Lcb := Lib.hid hl'; have Ocb := Lib.hid ho'; have Qcb := Lib.hid (show cb[6]? = some (.int .i64 tb) by rw [hq' _ rfl]; exact FB.out); have B5 := Lib.hid (B4.out.trans (hb.mono B4.out.size)); have X5 := Lib.hid (X4.out.below hb); clear hb hl' ho' hq')
        | (refine store_mid_as rfl 44 _ _ rfl w3.heap.size 0 ca.toArray rfl rfl (show World.there (w3.alloc (.cells #[.int .i64 0, .string ⟨#[]⟩, .string ⟨#[]⟩, .int .i64 0, .bool false, .string ⟨#[]⟩, .int .i64 0, .int .i64 0, .slice none 0 0, .slice none 0 0, .string ⟨#[]⟩, .int .i64 0, .int .i64 0, .bool false, .string ⟨#[]⟩, .slice none 0 0, .slice none 0 0, .slice none 0 0, .slice none 0 0, .int .i64 0, .int .i64 0, .int .i64 0, .int .i64 0, .int .i64 0, .int .i64 0, .int .i64 0, .int .i64 0, .string ⟨#[]⟩, .int .i64 0] 44)) w3.heap.size 0 _ from (show Blk (w3.alloc (.cells #[.int .i64 0, .string ⟨#[]⟩, .string ⟨#[]⟩, .int .i64 0, .bool false, .string ⟨#[]⟩, .int .i64 0, .int .i64 0, .slice none 0 0, .slice none 0 0, .string ⟨#[]⟩, .int .i64 0, .int .i64 0, .bool false, .string ⟨#[]⟩, .slice none 0 0, .slice none 0 0, .slice none 0 0, .slice none 0 0, .int .i64 0, .int .i64 0, .int .i64 0, .int .i64 0, .int .i64 0, .int .i64 0, .int .i64 0, .int .i64 0, .string ⟨#[]⟩, .int .i64 0] 44)) w3.heap.size zE 44 from blk_new w3 zE 44).there (by rw [List.size_toArray, Lca.out]; decide)) (size44a Lca.out) (all_arr Oca.out) ?_; intro w4 e3; have B4 := Lib.hid (show Below w.heap.size w w4 by rw [e3]; exact below_setRow (B3.out.alloc B3.out.size _) B3.out.size _ _); have X4 := Lib.hid (show Blk w4 w3.heap.size ca 44 by rw [e3]; exact (show Blk (w3.alloc (.cells #[.int .i64 0, .string ⟨#[]⟩, .string ⟨#[]⟩, .int .i64 0, .bool false, .string ⟨#[]⟩, .int .i64 0, .int .i64 0, .slice none 0 0, .slice none 0 0, .string ⟨#[]⟩, .int .i64 0, .int .i64 0, .bool false, .string ⟨#[]⟩, .slice none 0 0, .slice none 0 0, .slice none 0 0, .slice none 0 0, .int .i64 0, .int .i64 0, .int .i64 0, .int .i64 0, .int .i64 0, .int .i64 0, .int .i64 0, .int .i64 0, .string ⟨#[]⟩, .int .i64 0] 44)) w3.heap.size zE 44 from blk_new w3 zE 44).setAll ca Lca.out);  clear e3)
        | (go_at_call 17; (with_reducible refine (GA.out _ B2.out).mono ?_); rintro e w3 ⟨ca, rfl, hl', ho', hq', hb⟩; have Lca := Lib.hid hl'; have Oca := Lib.hid ho'; have Qca := Lib.hid (show ca[6]? = some (.int .i64 ta) by rw [hq' _ rfl]; exact FA.out); have B3 := Lib.hid (B2.out.trans (hb.mono B2.out.size));  clear hb hl' ho' hq')
        | go_in)
      go_ret
      exact ⟨ret_b HD.out.symm, B6.out⟩
  · rw [if_neg h1] at HD
    have hne : (x != y) = true := by simpa using h1
    clear h1
    go_enter Try.func32, Try.ntmps32
    go_wp2_with (first
      | (go_at_call 14; (with_reducible refine (KB.out _ B1.out).mono ?_); rintro e w2 ⟨rfl, hb⟩; have B2 := Lib.hid (B1.out.trans (hb.mono B1.out.size)); clear hb)
      | (go_at_call 14; (with_reducible refine (KA.out _ B0.out).mono ?_); rintro e w1 ⟨rfl, hb⟩; have B1 := Lib.hid (B0.out.trans (hb.mono B0.out.size)); clear hb)
      | go_in)
    go_ret
    exact ⟨ret_b HD.out.symm, B2.out⟩
end Go.Proofs.Ytoljlpddcpdoiaa
