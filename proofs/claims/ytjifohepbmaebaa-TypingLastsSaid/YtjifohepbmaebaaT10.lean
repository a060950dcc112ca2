/- Who types: an argument that is a list of records, opened; the walks of TypingChecks, TypingStops, TypingCleans. -/
import Derived.Test.YtjifohepbmaebaaT9
import Derived.Test.YtjifohepbmaebaaG6
namespace Go.Proofs.Ytjifohepbmaebaa
open Go.RowKit Go.Maps Go.Proofs
set_option linter.unusedVariables false

section
variable {H : Type} {en : TypeId × Value → H} {w : World} {base : Nat} {spare : Nat → Bool} {held : Bool}
theorem ce44 : Try.prog.cellsOf 44 = 2 := by kernel_rfl
theorem ce9 : Try.prog.cellsOf 9 = 1 := by kernel_rfl
theorem ce3 : Try.prog.cellsOf 3 = 1 := by kernel_rfl
theorem open_tps {fuel : Nat} {A : Option Addr} {len cap : Nat} {x : DataW H × List MemPlace} (h : DataW.trod en Try.prog w base spare held fuel 22 [.slice A len cap] = some x) : ∃ zs : List Tp, Tps w A len cap zs := by
  have hc : len ≤ cap := by
    rcases Go.Deep.open_slice Try.underlying22 h with ⟨hcs, _⟩ | ⟨a, l, c, m, n, D, Pl, hcs, _, hl, _⟩
    · simp at hcs
      obtain ⟨_, rfl, rfl⟩ := hcs
      exact Nat.le_refl _
    · simp at hcs
      obtain ⟨_, rfl, rfl⟩ := hcs
      exact hl
  obtain ⟨U, hU, hf⟩ := open_rows_si Try.underlying22 Try.underlying44 ce44 rfl rfl ce9 ce3 Try.underlying9 Try.underlying3 h
  refine ⟨(List.range len).map U, hU.congr (fun j hj => ?_), by simp, hc, fun p hp => ?_⟩
  · have e : ((List.range len).map U).getD j t0 = U j := by
      rw [List.getD_eq_getElem?_getD, List.getElem?_eq_getElem (by simpa using hj)]
      simp
    unfold rowT
    rw [e]
  · obtain ⟨j, hj, rfl⟩ := List.mem_map.1 hp
    have := (hf j (by simpa using hj)).1
    unfold maxLen at this
    omega
end
theorem texts_same (A B : Option Addr) (n c d : Nat) (l : List ByteArray) (u : World) (h : Strs u A n l) (h2 : Strs u B n l) : Calls Try.prog 20 #[.slice A n c, .slice B n d] u fun e w' => e = .returned (.bool true) ∧ Below u.heap.size u w' :=
  (same_any A n c l B n d l u h h2).mono fun e w' ⟨h1, h2⟩ => ⟨by rw [h1, decide_eq_true rfl], h2⟩
theorem first_some {w w1 w2 : World} (_h : Below w.heap.size w w1) {u : World} (h2 : Below u.heap.size u w2) : Below u.heap.size u w2 := h2
set_option maxHeartbeats 2000000 in
theorem checks_walk (A : Option Addr) (n c : Nat) (zs : List Tp) (w : World) (h : Tps w A n c zs) : Calls Try.prog 3 #[.slice A n c] w fun e w' => e = .returned (.bool true) ∧ Below w.heap.size w w' := by
  have G := Lib.hid (great9 A n c zs w h)
  have C := Lib.hid (fun (hn : n ≤ 40) u (hb : Below w.heap.size w u) => check10 A n c zs u (h.below hb) (by omega))
  have R := Lib.hid (fun (hn : n ≤ 40) u (hb : Below w.heap.size w u) => rcheck11 A n c zs u (h.below hb) (by omega))
  have LV := Lib.hid (fun u => live12 u)
  clear h
  unfold ChkR at C R
  generalize chk zs n = r at C R
  go_enter Try.func3, Try.ntmps3
  go_wp2_with (first
    | (go_at_call 9; (with_reducible refine G.out.mono ?_); rintro e w1 ⟨⟨b, rfl, hq⟩, hb1⟩; have B1 := Lib.hid hb1; have Q := Lib.hid hq; clear hb1 hq; cases b)
    | (go_at_call 10; (with_reducible refine (C.out (Q.out trivial) _ B1.out).mono ?_); rintro e w2 ⟨rfl, hb2⟩; have B2 := Lib.hid (B1.out.trans (hb2.mono B1.out.size)); clear hb2)
    | (go_at_call 11; (with_reducible refine (R.out (Q.out trivial) _ B2.out).mono ?_); rintro e w3 ⟨rfl, hb3⟩; have B3 := Lib.hid (B2.out.trans (hb3.mono B2.out.size)); clear hb3)
    | (go_at_call 12; (with_reducible refine (LV.out _).mono ?_); rintro e w4 ⟨rfl, hb4⟩; have B4 := Lib.hid (B3.out.trans (hb4.mono B3.out.size)); clear hb4))
  all_goals go_ret
  all_goals first
    | exact ⟨rfl, B4.out⟩
    | exact ⟨rfl, B1.out⟩
set_option maxRecDepth 100000 in
set_option maxHeartbeats 4000000 in
theorem stops_walk (A : Option Addr) (n c : Nat) (zs : List Tp) (user : ByteArray) (now : Int) (hsz : user.size ≤ 9223372036854775807) (w : World) (h : Tps w A n c zs) : Calls Try.prog 5 #[.slice A n c, .string user, .int .i64 now] w fun e w' => e = .returned (.bool true) ∧ Below w.heap.size w w' := by
  have G := Lib.hid (great9 A n c zs w h)
  have C1 := Lib.hid (fun (hn : n ≤ 40) u (hb : Below w.heap.size w u) => stop16 A n c zs user u (h.below hb) (by omega))
  have R1 := Lib.hid (fun (hn : n ≤ 40) u (hb : Below w.heap.size w u) => rstop17 A n c zs user u (h.below hb) (by omega))
  have C2 := Lib.hid (fun (hn : n ≤ 40) u (hb : Below w.heap.size w u) => clean18 A n c zs now u (h.below hb) (by omega))
  have R2 := Lib.hid (fun (hn : n ≤ 40) u (hb : Below w.heap.size w u) => rclean19 A n c zs now u (h.below hb) (by omega))
  have C3 := Lib.hid (fun (hn : n ≤ 40) u (hb : Below w.heap.size w u) => now21 A n c zs now u (h.below hb) (by omega))
  have R3 := Lib.hid (fun (hn : n ≤ 40) u (hb : Below w.heap.size w u) => rnow22 A n c zs now u (h.below hb) (by omega))
  have LV := Lib.hid (fun u => live12 u)
  clear h
  generalize (zs.filter fun p => !pu user p) = ys at C1 R1
  generalize I.nm (tx (nms (zs.filter fun p => !pc now p))) = ns at C3 R3
  generalize (zs.filter fun p => !pc now p) = xs at C2 R2
  by_cases hs : 200 < user.size
  · have hs2 : (200 : Int) < (user.size : Int) := by omega
    go_enter Try.func5, Try.ntmps5
    go_wp2_with (go_at_call 9; (with_reducible refine G.out.mono ?_); rintro e w1 ⟨⟨b, rfl, hq⟩, hb1⟩; have B1 := Lib.hid hb1; clear hb1 hq; cases b)
    all_goals go_ret
    all_goals exact ⟨rfl, B1.out⟩
  · have hs2 : ¬ (200 : Int) < (user.size : Int) := by omega
    go_enter Try.func5, Try.ntmps5
    go_wp2_with (first
      | (go_at_call 9; (with_reducible refine G.out.mono ?_); rintro e w1 ⟨⟨b, rfl, hq⟩, hb1⟩; have B1 := Lib.hid hb1; have Q := Lib.hid hq; clear hb1 hq; cases b)
      | (go_at_call 16; (with_reducible refine (C1.out (Q.out trivial) _ B1.out).mono ?_); rintro e w2 ⟨A2, c2, rfl, hT, hb2, _⟩; have T2 := Lib.hid hT; have B2 := Lib.hid (B1.out.trans (hb2.mono B1.out.size)); clear hT hb2)
      | (go_at_call 17; (with_reducible refine (R1.out (Q.out trivial) _ B2.out).mono ?_); rintro e w3 ⟨A3, c3, rfl, hT, hb3, _⟩; have T2' := Lib.hid (T2.out.below hb3); have T3 := Lib.hid hT; have B3 := Lib.hid (B2.out.trans (hb3.mono B2.out.size)); clear hT hb3)
      | (go_at_call 15; (with_reducible refine (same15 A2 A3 _ c2 c3 ys _ T2'.out T3.out).mono ?_); rintro e w4 ⟨rfl, hb4⟩; have B4 := Lib.hid (B3.out.trans (hb4.mono B3.out.size)); clear hb4)
      | (go_at_call 18; (with_reducible refine (C2.out (Q.out trivial) _ B4.out).mono ?_); rintro e w5 ⟨A5, c5, rfl, hT, hb5, _⟩; have T5 := Lib.hid hT; have B5 := Lib.hid (B4.out.trans (hb5.mono B4.out.size)); clear hT hb5)
      | (go_at_call 19; (with_reducible refine (R2.out (Q.out trivial) _ B5.out).mono ?_); rintro e w6 ⟨A6, c6, rfl, hT, hb6, _⟩; have T5' := Lib.hid (T5.out.below hb6); have T6 := Lib.hid hT; have B6 := Lib.hid (B5.out.trans (hb6.mono B5.out.size)); clear hT hb6)
      | (go_at_call 15; (with_reducible refine (same15 A5 A6 _ c5 c6 xs _ T5'.out T6.out).mono ?_); rintro e w7 ⟨rfl, hb7⟩; have B7 := Lib.hid (B6.out.trans (hb7.mono B6.out.size)); clear hb7)
      | (go_at_call 21; (with_reducible refine (C3.out (Q.out trivial) _ B7.out).mono ?_); rintro e w8 ⟨A8, c8, rfl, _, hS, hb8⟩; have S8 := Lib.hid hS; have B8 := Lib.hid (B7.out.trans (hb8.mono B7.out.size)); clear hS hb8)
      | (go_at_call 22; (with_reducible refine (R3.out (Q.out trivial) _ B8.out).mono ?_); rintro e w9 ⟨A9, c9, rfl, _, hS, hb9⟩; have S8' := Lib.hid (S8.out.below hb9); have S9 := Lib.hid hS; have B9 := Lib.hid (B8.out.trans (hb9.mono B8.out.size)); clear hS hb9)
      | (go_at_call 20; (with_reducible refine (texts_same A8 A9 _ c8 c9 (bs ns) _ S8'.out S9.out).mono ?_); rintro e w10 ⟨rfl, hb10⟩; have B10 := Lib.hid (B9.out.trans (hb10.mono B9.out.size)); clear hb10)
      | (go_at_call 12; (with_reducible refine (LV.out _).mono ?_); rintro e w11 ⟨rfl, hb11⟩; have B11 := Lib.hid (B10.out.trans (hb11.mono B10.out.size)); clear hb11))
    all_goals go_ret
    all_goals first
      | exact ⟨rfl, B11.out⟩
      | exact ⟨rfl, B1.out⟩
theorem clean_now (zs : List Tp) (now later : Int) (h : now ≤ later) : ((zs.filter fun p => !pc now p).filter fun p => !pc later p) = zs.filter fun p => !pc later p := by
  rw [List.filter_filter]
  apply List.filter_congr
  intro p _
  unfold pc
  by_cases h1 : p.2 ≤ later
  · simp [h1]
  · have : ¬ p.2 ≤ now := by omega
    simp [h1, this]
set_option maxRecDepth 100000 in
set_option maxHeartbeats 4000000 in
theorem cleans_walk (A : Option Addr) (n c : Nat) (zs : List Tp) (now later : Int) (w : World) (h : Tps w A n c zs) : Calls Try.prog 8 #[.slice A n c, .int .i64 now, .int .i64 later] w fun e w' => e = .returned (.bool true) ∧ Below w.heap.size w w' := by
  have G := Lib.hid (great9 A n c zs w h)
  have LV := Lib.hid (fun u => live12 u)
  by_cases hl : later < now
  · clear h
    go_enter Try.func8, Try.ntmps8
    go_wp2_with (first
      | (go_at_call 9; (with_reducible refine G.out.mono ?_); rintro e w1 ⟨⟨b, rfl, hq⟩, hb1⟩; have B1 := Lib.hid hb1; clear hb1 hq; cases b)
      | (go_at_call 12; (with_reducible refine (LV.out _).mono ?_); rintro e w4 ⟨rfl, hb4⟩; have B4 := Lib.hid (B1.out.trans (hb4.mono B1.out.size)); clear hb4))
    all_goals go_ret
    all_goals exact ⟨rfl, B4.out⟩
  · have C1 := Lib.hid (fun (hn : n ≤ 40) u (hb : Below w.heap.size w u) => clean18 A n c zs now u (h.below hb) (by omega))
    have D1 := Lib.hid (fun (hn : n ≤ 40) u (hb : Below w.heap.size w u) => now21 A n c zs later u (h.below hb) (by omega))
    have D2 := Lib.hid (fun (hn : n ≤ 40) u (hb : Below w.heap.size w u) => now21 A n c zs now u (h.below hb) (by omega))
    have hlen : (zs.filter fun p => !pc now p).length ≤ n := by rw [← h.len]; exact List.length_filter_le _ _
    have E1 := Lib.hid (fun (hn : n ≤ 40) A' c' u (hT : Tps u A' (zs.filter fun p => !pc now p).length c' (zs.filter fun p => !pc now p)) => now21 A' _ c' _ later u hT (by omega))
    have E2 := Lib.hid (fun (hn : n ≤ 40) A' c' u (hT : Tps u A' (zs.filter fun p => !pc now p).length c' (zs.filter fun p => !pc now p)) => now21 A' _ c' _ now u hT (by omega))
    rw [clean_now zs now later (by omega)] at E1
    rw [clean_now zs now now (by omega)] at E2
    clear h hlen
    generalize I.nm (tx (nms (zs.filter fun p => !pc later p))) = ns at D1 E1
    generalize I.nm (tx (nms (zs.filter fun p => !pc now p))) = ms at D2 E2
    generalize (zs.filter fun p => !pc now p) = xs at C1 E1 E2
    go_enter Try.func8, Try.ntmps8
    go_wp2_with (first
      | (go_at_call 9; (with_reducible refine G.out.mono ?_); rintro e w1 ⟨⟨b, rfl, hq⟩, hb1⟩; have B1 := Lib.hid hb1; have Q := Lib.hid hq; clear hb1 hq; cases b)
      | (go_at_call 18; (with_reducible refine (C1.out (Q.out trivial) _ B1.out).mono ?_); rintro e w2 ⟨A2, c2, rfl, hT, hb2, _⟩; have T2 := Lib.hid hT; have B2 := Lib.hid (B1.out.trans (hb2.mono B1.out.size)); clear hT hb2)
      | (go_at_call 21; (with_reducible refine (E1.out (Q.out trivial) A2 c2 _ T2.out).mono ?_); rintro e w3 ⟨A3, c3, rfl, _, hS, hb3⟩; have S3 := Lib.hid hS; have B3 := Lib.hid (B2.out.trans (hb3.mono B2.out.size)); clear hS hb3)
      | (go_at_call 21; (with_reducible refine (D1.out (Q.out trivial) _ B3.out).mono ?_); rintro e w4 ⟨A4, c4, rfl, _, hS, hb4⟩; have S3' := Lib.hid (S3.out.below hb4); have S4 := Lib.hid hS; have B4 := Lib.hid (B3.out.trans (hb4.mono B3.out.size)); clear hS hb4)
      | (go_at_call 20; (with_reducible refine (texts_same A3 A4 _ c3 c4 (bs ns) _ S3'.out S4.out).mono ?_); rintro e w5 ⟨rfl, hb5⟩; have B5 := Lib.hid (B4.out.trans (hb5.mono B4.out.size)); clear hb5)
      | (go_at_call 18; (with_reducible refine (C1.out (Q.out trivial) _ B5.out).mono ?_); rintro e w6 ⟨A6, c6, rfl, hT, hb6, _⟩; have T6 := Lib.hid hT; have B6 := Lib.hid (B5.out.trans (hb6.mono B5.out.size)); clear hT hb6)
      | (go_at_call 21; (with_reducible refine (E2.out (Q.out trivial) A6 c6 _ T6.out).mono ?_); rintro e w7 ⟨A7, c7, rfl, _, hS, hb7⟩; have S7 := Lib.hid hS; have B7 := Lib.hid (B6.out.trans (hb7.mono B6.out.size)); clear hS hb7)
      | (go_at_call 21; (with_reducible refine (D2.out (Q.out trivial) _ B7.out).mono ?_); rintro e w8 ⟨A8, c8, rfl, _, hS, hb8⟩; have S7' := Lib.hid (S7.out.below hb8); have S8 := Lib.hid hS; have B8 := Lib.hid (B7.out.trans (hb8.mono B7.out.size)); clear hS hb8)
      | (go_at_call 20; (with_reducible refine (texts_same A7 A8 _ c7 c8 (bs ms) _ S7'.out S8.out).mono ?_); rintro e w9 ⟨rfl, hb9⟩; have B9 := Lib.hid (B8.out.trans (hb9.mono B8.out.size)); clear hb9)
      | (go_at_call 12; (with_reducible refine (LV.out _).mono ?_); rintro e w10 ⟨rfl, hb10⟩; have B10 := Lib.hid (first_some B1.out hb10); clear hb10))
    all_goals go_ret
    all_goals first
      | exact ⟨rfl, B9.out.trans (B10.out.mono B9.out.size)⟩
      | exact ⟨rfl, B1.out.trans (B10.out.mono B1.out.size)⟩
end Go.Proofs.Ytjifohepbmaebaa
