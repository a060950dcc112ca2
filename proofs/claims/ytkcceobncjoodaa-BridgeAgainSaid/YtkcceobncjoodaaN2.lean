/- Identities of other networks: Bind of the program. Bound: at most 900000 ghosts with texts of at most 100000 bytes. -/
import Derived.Test.YtkcceobncjoodaaN1
namespace Go.Proofs.Ytkcceobncjoodaa
open Go.RowKit Go.Maps
set_option linter.unusedVariables false
set_option linter.unusedSimpArgs false

set_option maxRecDepth 100000 in
set_option maxHeartbeats 4000000 in
theorem bind16 (A : Option Addr) (n c : Nat) (zs : List Rc) (nt na sv : ByteArray) (w : World) (h : Rcs w A n c zs) (hn : n ≤ 900000) (h1 : nt.size ≤ 100000) (h2 : na.size ≤ 100000) (h3 : sv.size ≤ 100000) : Calls Try.prog 16 #[.slice A n c, .string nt, .string na, .string sv] w (BdP w zs nt na sv) := by
  have H := Lib.hid h
  have HL := Lib.hid h.len
  have hw1 : big nt := by unfold big; omega
  have hw2 : big na := by unfold big; omega
  have HU := Lib.hid (user10 nt na sv h1 h2 h3 w)
  unfold UsP at HU
  unfold BdP
  clear h
  by_cases g0 : usE nt na sv = 0
  · have HUs := Lib.hid (us_cases nt na sv)
    have HM := Lib.hid (fun v (hb : Below w.heap.size w v) => byIdentity38 A n c zs v (H.out.below hb) hn)
    cases hi : idf zs nt na with
    | some x =>
      have HX := Lib.hid (bd_old g0 hi)
      have HI := Lib.hid hi
      rw [g0] at HU
      generalize usS nt na sv = U at HU
      clear hi g0 HUs h1 h2 h3
      have HC := Lib.hid (fun v (hb : Below w.heap.size w v) => clone39 A n c (rowR zs) v (H.out.below hb).rws (by omega))
      go_enter Try.func16, Try.ntmps16
      go_wp2_with (first
        | (go_at_call 10; (with_reducible refine HU.out.mono ?_); rintro e w1 ⟨rfl, hb1⟩; have B1 := Lib.hid hb1; clear hb1)
        | (go_at_call 38; (with_reducible refine (HM.out _ B1.out).mono ?_); rintro e w2 ⟨rfl, ⟨m, hm⟩, hb2⟩; have B2 := Lib.hid (B1.out.trans (hb2.mono B1.out.size)); have hask := hm.ask hw1 hw2; rw [HI.out] at hask; clear hb2 hm)
        | (go_at_call 39; (with_reducible refine (HC.out _ B2.out).mono ?_); rintro e w3 ⟨A3, c3, rfl, hcp⟩; have CP := Lib.hid hcp; clear hcp)
        | go_in)
      go_ret3
      rw [HX.out]
      have ho := CP.out.own
      rw [← HL.out, flat_cl] at ho
      obtain ⟨A4, c4, e4, hr4, _⟩ := Rcs.ofOwn ho rfl (by rw [HL.out]; omega) H.out.fit
      cases e4
      exact ⟨A3, c3, ret_bd HL.out.symm rfl rfl, hr4, B2.out.trans (CP.out.bel.mono B2.out.size)⟩
    | none =>
      by_cases g1 : 200 ≤ n
      · have HX := Lib.hid (bd_full g0 hi (by rw [HL.out]; exact g1))
        have HI := Lib.hid hi
        have hz : ¬ (n : Int) < 200 := by omega
        have hz2 : (200 : Int) ≤ (n : Int) := by omega
        rw [g0] at HU
        generalize usS nt na sv = U at HU
        clear hi g0 HUs h1 h2 h3
        go_enter Try.func16, Try.ntmps16
        go_wp2_with (first
          | (go_at_call 10; (with_reducible refine HU.out.mono ?_); rintro e w1 ⟨rfl, hb1⟩; have B1 := Lib.hid hb1; clear hb1)
          | (go_at_call 38; (with_reducible refine (HM.out _ B1.out).mono ?_); rintro e w2 ⟨rfl, ⟨m, hm⟩, hb2⟩; have B2 := Lib.hid (B1.out.trans (hb2.mono B1.out.size)); have hask := hm.ask hw1 hw2; rw [HI.out] at hask; clear hb2 hm)
          | go_in)
        go_ret3
        exact bdx_none HX.out B2.out
      · have HX := Lib.hid (bd_new g0 hi (by rw [HL.out]; exact g1))
        have HI := Lib.hid hi
        have hz : (n : Int) < 200 := by omega
        have hz2 : ¬ (200 : Int) ≤ (n : Int) := by omega
        have HSz := Lib.hid (show (usS nt na sv).size ≤ 9223372036854775807 by
          rcases HUs.out with ⟨_, e, _, _, _, _, e2⟩ | ⟨e, _⟩
          · rw [e, mkS_size]; omega
          · exact absurd g0 e)
        rw [g0] at HU
        generalize usS nt na sv = U at HU HX HSz
        have HF := Lib.hid (show fitR ⟨nt, na, U⟩ from ⟨hw1, hw2, HSz.out⟩)
        have HBk := Lib.hid (fun v : World => show Blk (v.alloc (.cells #[.string nt, .string na, .string U] 59)) v.heap.size (enc ⟨nt, na, U⟩) 59 from blk_new v (enc ⟨nt, na, U⟩) 59)
        clear hi g0 HUs h1 h2 h3
        have HIns := Lib.hid (fun (c1 : Nat) (v : World) (hb : Below w.heap.size w v) (hbk : Blk v c1 (enc ⟨nt, na, U⟩) 59) => oins_any (.func (.func 41) #[] #[.pointer (some ⟨c1, 0, none⟩)]) (prec ⟨nt, na, U⟩) A n c zs ⟨nt, na, U⟩ v (H.out.below hb) HF.out hn (fun u hu => index41 (prec ⟨nt, na, U⟩) c1 A n c zs u ((H.out.below hb).below hu) (fun p u2 hu2 => closure41 ⟨nt, na, U⟩ p c1 u2 ((hbk.below hu).below hu2))) _ rfl)
        go_enter Try.func16, Try.ntmps16
        go_wp2_with (first
          | (go_at_call 10; (with_reducible refine HU.out.mono ?_); rintro e w1 ⟨rfl, hb1⟩; have B1 := Lib.hid hb1; clear hb1)
          | (go_at_call 38; (with_reducible refine (HM.out _ B1.out).mono ?_); rintro e w2 ⟨rfl, ⟨m, hm⟩, hb2⟩; have B2 := Lib.hid (B1.out.trans (hb2.mono B1.out.size)); have hask := hm.ask hw1 hw2; rw [HI.out] at hask; clear hb2 hm)
          | (go_at_call 40; (with_reducible refine (HIns.out _ _ (B2.out.alloc B2.out.size _) (HBk.out w2)).mono ?_); rintro e w3 ⟨A3, c3, rfl, hr3, hb3, _⟩; have R3 := Lib.hid hr3; have B3 := Lib.hid ((B2.out.alloc B2.out.size _).trans (hb3.mono (B2.out.alloc B2.out.size _).size)); clear hr3 hb3)
          | go_in)
        go_ret3
        rw [HX.out]
        exact ⟨A3, c3, rfl, R3.out, B3.out⟩
  · have HX := Lib.hid (bd_bad (zs := zs) g0)
    have hne : (usE nt na sv != 0) = true := by simpa using g0
    have HSe := Lib.hid (show usS nt na sv = ⟨#[]⟩ by rcases us_cases nt na sv with ⟨e, _⟩ | ⟨_, e⟩; exact absurd e g0; exact e)
    generalize usE nt na sv = r at HU HX hne
    generalize usS nt na sv = U at HU HSe
    clear g0
    go_enter Try.func16, Try.ntmps16
    go_wp2_with (go_at_call 10; (with_reducible refine HU.out.mono ?_); rintro e w1 ⟨rfl, hb1⟩; have B1 := Lib.hid hb1; clear hb1)
    go_ret3
    exact bdx_none HX.out B1.out
end Go.Proofs.Ytkcceobncjoodaa
