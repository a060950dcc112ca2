/- The mainline: the walk of the statement Orders. Conditions: the statement's own. -/
import Derived.Test.YtoljlpddcpdoiaaW23
namespace Go.Proofs.Ytoljlpddcpdoiaa
open Go Go.RowKit Go.Maps
set_option linter.unusedVariables false
set_option linter.unusedSimpArgs false

theorem ordL_len (E : Nat → Me) (n : Nat) (ms : List Int) (n1 : Nat) (zs : List Int) : (ordL E n ms n1 zs).length ≤ zs.length := by
  rw [(ordL_perm E n ms n1 zs).length_eq]
  exact Nat.le_trans (List.length_filter_le _ _) (Q.M.len_st zs)
set_option maxRecDepth 100000 in
set_option maxHeartbeats 4000000 in
theorem orders_walk (A : Option Addr) (n c : Nat) (E : Nat → Me) (A1 : Option Addr) (n1 c1 : Nat) (ms : List Int) (A2 : Option Addr) (n2 c2 : Nat) (zs : List Int) (w : World) (h : Evm w A n E) (h1 : Its w A1 n1 c1 ms) (h2 : Its w A2 n2 c2 zs) : Calls Try.prog 5 #[.slice A n c, .slice A1 n1 c1, .slice A2 n2 c2] w fun e w' => e = .returned (.bool true) ∧ Below w.heap.size w w' := by
  have HF := Lib.hid (few8 A n c E w h)
  unfold FewP at HF
  have hbig := h2.rws.big
  unfold maxLen at hbig
  by_cases hg : (30 : Int) < (n1 : Int)
  · clear h h1 h2
    go_enter Try.func5, Try.ntmps5
    go_wp2_with (first
      | (go_at_call 8; (with_reducible refine HF.out.mono ?_); rintro e w1 ⟨⟨r, rfl, hr⟩, hb⟩; have B1 := Lib.hid hb; have HR1 := Lib.hid (show FewI r n E from hr); clear hb hr; cases r)
      | (go_at_call 9; (with_reducible refine (lives9 _).mono ?_); rintro e wl ⟨rfl, hb⟩; have BL := Lib.hid (B1.out.trans (hb.mono B1.out.size)); clear hb)
      | go_in)
    · go_ret
      exact ⟨rfl, BL.out⟩
    · go_ret
      exact ⟨rfl, BL.out⟩
  · by_cases hg2 : (30 : Int) < (n2 : Int)
    · clear h h1 h2
      go_enter Try.func5, Try.ntmps5
      go_wp2_with (first
      | (go_at_call 8; (with_reducible refine HF.out.mono ?_); rintro e w1 ⟨⟨r, rfl, hr⟩, hb⟩; have B1 := Lib.hid hb; have HR1 := Lib.hid (show FewI r n E from hr); clear hb hr; cases r)
      | (go_at_call 9; (with_reducible refine (lives9 _).mono ?_); rintro e wl ⟨rfl, hb⟩; have BL := Lib.hid (B1.out.trans (hb.mono B1.out.size)); clear hb)
      | go_in)
      · go_ret
        exact ⟨rfl, BL.out⟩
      · go_ret
        exact ⟨rfl, BL.out⟩
    · have HN1 := Lib.hid (show n1 ≤ 900000 by omega)
      have HN2 := Lib.hid (show n2 ≤ 900000 by omega)
      have H2 := Lib.hid h2
      have HO := Lib.hid (fun (hn : n ≤ 900000) A3 c3 v (hb : Below w.heap.size w v) (hi : Its v A3 n2 c3 zs) => order15 A n c E A1 n1 c1 ms A3 n2 c3 zs v (h.below hb) hn (h1.below hb) HN1.out hi HN2.out)
      have HP := Lib.hid (fun (hn : n ≤ 900000) v (hb : Below w.heap.size w v) => rorder16 A n c E A1 n1 c1 ms A2 n2 c2 zs v (h.below hb) hn (h1.below hb) HN1.out (h2.below hb) HN2.out)
      have HL := Lib.hid (show (ordL E n ms n1 zs).length ≤ 1000000 by have := ordL_len E n ms n1 zs; have := h2.len; omega)
      have HS := Lib.hid (h2.ints (by omega)).src
      have HZl := Lib.hid h2.len
      have HWz := Lib.hid h2.wf
      obtain ⟨i1, hi1, hz3, hz4, hz5⟩ := info_parts info3
      have HI := Lib.hid (And.intro hi1 (And.intro hz3 (And.intro hz4 hz5)))
      unfold IntsP at HO HP
      generalize ordL E n ms n1 zs = os at HO HP HL
      clear h h1 h2 hi1 hz3 hz4 hz5
      go_enter Try.func5, Try.ntmps5
      go_wp2_with (first
        | (go_at_call 8; (with_reducible refine HF.out.mono ?_); rintro e w1 ⟨⟨r, rfl, hr⟩, hb⟩; have B1 := Lib.hid hb; have HR1 := Lib.hid (show FewI r n E from hr); clear hb hr; cases r)
        | (at_make; refine wpList_make_own _ rfl _ _ 26 rfl w1.heap.size 3 i1 (.int .i64 0) 1 Try.underlying26 HI.out.1 HI.out.2.1 HI.out.2.2.1 _ _ _ (n2 + 2) rfl rfl (by omega) (by rw [HI.out.2.2.2]; omega) (by unfold maxLen; omega) (Nat.le_refl _) ?_; intro w2 hown2 hg2; have O2 := Lib.hid hown2; have B2 := Lib.hid ((Below.refl w1.heap.size w1).grown hg2 (Nat.le_refl _) (by simp)); have S2 := Lib.hid (HS.out.below (B1.out.trans (B2.out.mono B1.out.size))); clear hown2 hg2)
        | (at_builtin; refine wpList_append_any _ rfl _ _ 26 rfl w1.heap.size 3 i1 _ 1 8 Try.underlying26 HI.out.1 HI.out.2.1 HI.out.2.2.1 HI.out.2.2.2 rfl (by decide) _ 0 [] rfl O2.out A2 n2 c2 (zs.map (Value.int .i64)) rfl S2.out (by unfold maxLen; omega) (by omega) B2.out.size ?_; intro v3 w3 hgr; have BB3 := Lib.hid (hgr.below B2.out O2.out); have B3 := Lib.hid (B1.out.trans (BB3.out.mono B1.out.size)); have O3 := (show w3.ownsRow w1.heap.size 3 1 v3 n2 (zs.map (Value.int .i64)) by have := hgr.own; rw [Nat.zero_add, List.nil_append] at this; exact this); obtain ⟨A3, c3, rfl, hi3, _⟩ := its_own O3 HZl.out (by omega) HWz.out; have I3 := Lib.hid hi3; clear hi3 O3 hgr)
        | (go_at_call 10; (with_reducible refine (same10 _ _ _ _ _ zs _ (I3.out.below (Below.trans (BB4.out) (Below.trans (BB5.out.mono BB4.out.size) (BB6.out.mono (Nat.le_trans BB4.out.size BB5.out.size))))) (H2.out.below B6.out) (by omega)).mono ?_); rintro e w7 ⟨rfl, hb⟩; have B7 := Lib.hid (B6.out.trans (hb.mono B6.out.size)); clear hb)
        | (go_at_call 10; (with_reducible refine (same10 _ _ _ _ _ os _ (I4.out.below BB5.out) I5.out HL.out).mono ?_); rintro e w6 ⟨rfl, hb⟩; have BB6 := Lib.hid hb; have B6 := Lib.hid (B5.out.trans (hb.mono B5.out.size)); clear hb)
        | (go_at_call 16; (with_reducible refine (HP.out (by have := HR1.out.le; omega) _ B4.out).mono ?_); rintro e w5 ⟨A5, c5, rfl, hi, hb, _⟩; have I5 := Lib.hid hi; have BB5 := Lib.hid hb; have B5 := Lib.hid (B4.out.trans (hb.mono B4.out.size)); clear hi hb)
        | (go_at_call 15; (with_reducible refine (HO.out (by have := HR1.out.le; omega) _ _ _ B3.out I3.out).mono ?_); rintro e w4 ⟨A4, c4, rfl, hi, hb, _⟩; have I4 := Lib.hid hi; have BB4 := Lib.hid hb; have B4 := Lib.hid (B3.out.trans (hb.mono B3.out.size)); clear hi hb)
        | (go_at_call 9; (with_reducible refine (lives9 _).mono ?_); rintro e wl ⟨rfl, hb⟩; have BL := Lib.hid (B7.out.trans (hb.mono B7.out.size)); clear hb)
        | (go_at_call 9; (with_reducible refine (lives9 _).mono ?_); rintro e wl ⟨rfl, hb⟩; have BL := Lib.hid (B1.out.trans (hb.mono B1.out.size)); clear hb)
        | go_in)
      · go_ret
        exact ⟨rfl, BL.out⟩
      · go_ret
        exact ⟨rfl, BL.out⟩
end Go.Proofs.Ytoljlpddcpdoiaa
