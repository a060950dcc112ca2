/- The mainline: the helper lives returns true. No condition. -/
import Derived.Test.YtoljlpddcpdoiaaW21
namespace Go.Proofs.Ytoljlpddcpdoiaa
open Go Go.RowKit Go.Maps
set_option linter.unusedVariables false
set_option linter.unusedSimpArgs false

theorem wf31 : ∀ z ∈ ([30, 10] : List Int), i64B z := fun z hz => by simp at hz; rcases hz with rfl | rfl <;> unfold i64B <;> omega
theorem wf21 : ∀ z ∈ ([20, 10] : List Int), i64B z := fun z hz => by simp at hz; rcases hz with rfl | rfl <;> unfold i64B <;> omega
theorem wf456 : ∀ z ∈ ([40, 50, 60] : List Int), i64B z := fun z hz => by simp at hz; rcases hz with rfl | rfl | rfl <;> unfold i64B <;> omega
theorem wf645 : ∀ z ∈ ([60, 40, 50] : List Int), i64B z := fun z hz => by simp at hz; rcases hz with rfl | rfl | rfl <;> unfold i64B <;> omega
theorem l31 (w : World) : Its (w.alloc (.cells #[.int .i64 30, .int .i64 10] 3)) (some ⟨w.heap.size, 0, none⟩) 2 2 [30, 10] := its_blk (zs := [30, 10]) (blk_new w [.int .i64 30, .int .i64 10] 3) (by decide) wf31
theorem l21 (w : World) : Its (w.alloc (.cells #[.int .i64 20, .int .i64 10] 3)) (some ⟨w.heap.size, 0, none⟩) 2 2 [20, 10] := its_blk (zs := [20, 10]) (blk_new w [.int .i64 20, .int .i64 10] 3) (by decide) wf21
theorem l456 (w : World) : Its (w.alloc (.cells #[.int .i64 40, .int .i64 50, .int .i64 60] 3)) (some ⟨w.heap.size, 0, none⟩) 3 3 [40, 50, 60] := its_blk (zs := [40, 50, 60]) (blk_new w [.int .i64 40, .int .i64 50, .int .i64 60] 3) (by decide) wf456
theorem l456b (w : World) (o : Obj) : Its ((w.alloc o).alloc (.cells #[.int .i64 40, .int .i64 50, .int .i64 60] 3)) (some ⟨w.heap.size + 1, 0, none⟩) 3 3 [40, 50, 60] := by
  have := l456 (w.alloc o)
  rwa [World.size_alloc] at this
theorem l645 (w : World) : Its (w.alloc (.cells #[.int .i64 60, .int .i64 40, .int .i64 50] 3)) (some ⟨w.heap.size, 0, none⟩) 3 3 [60, 40, 50] := its_blk (zs := [60, 40, 50]) (blk_new w [.int .i64 60, .int .i64 40, .int .i64 50] 3) (by decide) wf645
theorem i64s (z : Int) (h1 : 0 ≤ z) (h2 : z ≤ 100) : i64B z := by unfold i64B; omega
set_option maxRecDepth 100000 in
set_option maxHeartbeats 8000000 in
theorem lives9 (w : World) : Calls Try.prog 9 #[] w fun e w' => e = .returned (.bool true) ∧ Below w.heap.size w w' := by
  have HS := Lib.hid (sample20 w)
  have HE := Lib.hid (sample_evm w)
  have B1 := Lib.hid (ws_below w)
  obtain ⟨s, hs⟩ : ∃ s, w.heap.size = s := ⟨_, rfl⟩
  obtain ⟨W1, hW⟩ : ∃ W1, WS w = W1 := ⟨_, rfl⟩
  rw [hW] at HS HE B1
  have HA := Lib.hid (fun e w' (h : e = Ending.returned (.slice (some ⟨w.heap.size + 4, 0, none⟩) 6 6) ∧ w' = W1) => h)
  have O30 := Lib.hid (fun v (hb : Below W1.heap.size W1 v) => of11 _ 6 6 _ 30 v (HE.out.below hb) (by omega) (i64s 30 (by omega) (by omega)))
  have O20 := Lib.hid (fun v (hb : Below W1.heap.size W1 v) => of11 _ 6 6 _ 20 v (HE.out.below hb) (by omega) (i64s 20 (by omega) (by omega)))
  have O99 := Lib.hid (fun v (hb : Below W1.heap.size W1 v) => of11 _ 6 6 _ 99 v (HE.out.below hb) (by omega) (i64s 99 (by omega) (by omega)))
  have C40 := Lib.hid (fun A c v (hb : Below W1.heap.size W1 v) (hi : Its v A 2 c [30, 10]) => closest13 _ 6 6 _ A 2 c [30, 10] 40 v (HE.out.below hb) (by omega) hi (by omega) (i64s 40 (by omega) (by omega)))
  have C60 := Lib.hid (fun A c v (hb : Below W1.heap.size W1 v) (hi : Its v A 2 c [30, 10]) => closest13 _ 6 6 _ A 2 c [30, 10] 60 v (HE.out.below hb) (by omega) hi (by omega) (i64s 60 (by omega) (by omega)))
  have R3 := Lib.hid (fun A c A' c' v (hb : Below W1.heap.size W1 v) (hi : Its v A 2 c [30, 10]) (hj : Its v A' 3 c' [40, 50, 60]) => order15 _ 6 6 _ A 2 c [30, 10] A' 3 c' [40, 50, 60] v (HE.out.below hb) (by omega) hi (by omega) hj (by omega))
  rw [sw30] at O30
  rw [sw20] at O20
  rw [sw99] at O99
  rw [sc40] at C40
  rw [sc60] at C60
  rw [so456] at R3
  unfold IntsP at O30 O20 O99 R3
  have X1 := Lib.hid (Below.refl W1.heap.size W1)
  clear HE HA hW hs
  go_enter Try.func9, Try.ntmps9
  go_wp2_with (first
    | (go_at_call 20; (with_reducible refine HS.out.mono ?_); rintro e w1 ⟨rfl, rfl⟩)
    | (go_at_call 10; (with_reducible refine (same10 _ _ 3 _ _ [60, 40, 50] _ (I8.out.below ((Below.refl _ _).alloc (Nat.le_refl _) _)) (l645 _) (by omega)).mono ?_); rintro e y9 ⟨rfl, hb⟩; have X9 := Lib.hid ((X8.out.alloc X8.out.size _).trans (hb.mono (X8.out.alloc X8.out.size _).size)); clear hb)
    | (go_at_call 15; (with_reducible refine (R3.out _ _ _ _ _ ((X7.out.alloc X7.out.size _).alloc (X7.out.alloc X7.out.size _).size _) ((l31 _).below ((Below.refl _ _).alloc (Nat.le_refl _) _)) (l456b _ _)).mono ?_); rintro e y8 ⟨A8, c8, rfl, hi, hb, _⟩; have I8 := Lib.hid hi; have X8 := Lib.hid (((X7.out.alloc X7.out.size _).alloc (X7.out.alloc X7.out.size _).size _).trans (hb.mono ((X7.out.alloc X7.out.size _).alloc (X7.out.alloc X7.out.size _).size _).size)); clear hi hb)
    | (go_at_call 13; (with_reducible refine (C60.out _ _ _ (X6.out.alloc X6.out.size _) (l31 _)).mono ?_); rintro e y7 ⟨rfl, hb⟩; have X7 := Lib.hid ((X6.out.alloc X6.out.size _).trans (hb.mono (X6.out.alloc X6.out.size _).size)); clear hb)
    | (go_at_call 13; (with_reducible refine (C40.out _ _ _ (X5.out.alloc X5.out.size _) (l31 _)).mono ?_); rintro e y6 ⟨rfl, hb⟩; have X6 := Lib.hid ((X5.out.alloc X5.out.size _).trans (hb.mono (X5.out.alloc X5.out.size _).size)); clear hb)
    | (go_at_call 11; (with_reducible refine (O99.out _ X4.out).mono ?_); rintro e y5 ⟨A5, c5, rfl, _, hb, _⟩; have X5 := Lib.hid (X4.out.trans (hb.mono X4.out.size)); clear hb)
    | (go_at_call 10; (with_reducible refine (same10 _ _ 2 _ _ [20, 10] _ (I3.out.below ((Below.refl _ _).alloc (Nat.le_refl _) _)) (l21 _) (by omega)).mono ?_); rintro e y4 ⟨rfl, hb⟩; have X4 := Lib.hid ((X3.out.alloc X3.out.size _).trans (hb.mono (X3.out.alloc X3.out.size _).size)); clear hb)
    | (go_at_call 11; (with_reducible refine (O20.out _ X2.out).mono ?_); rintro e y3 ⟨A3, c3, rfl, hi, hb, _⟩; have I3 := Lib.hid hi; have X3 := Lib.hid (X2.out.trans (hb.mono X2.out.size)); clear hi hb)
    | (go_at_call 10; (with_reducible refine (same10 _ _ 2 _ _ [30, 10] _ (I1.out.below ((Below.refl _ _).alloc (Nat.le_refl _) _)) (l31 _) (by omega)).mono ?_); rintro e y2 ⟨rfl, hb⟩; have X2 := Lib.hid ((Z1.out.alloc Z1.out.size _).trans (hb.mono (Z1.out.alloc Z1.out.size _).size)); clear hb)
    | (go_at_call 11; (with_reducible refine (O30.out _ X1.out).mono ?_); rintro e y1 ⟨A1, c1, rfl, hi, hb, _⟩; have I1 := Lib.hid hi; have Z1 := Lib.hid (X1.out.trans (hb.mono X1.out.size)); clear hi hb))
  go_ret
  exact ⟨rfl, B1.out.trans (X9.out.mono B1.out.size)⟩
end Go.Proofs.Ytoljlpddcpdoiaa
