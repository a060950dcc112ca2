/- Who types: Check of both, the reference's Great. Bound: at most 1000000 records. -/
import Derived.Test.YtjifohepbmaebaaT3
import Derived.Test.YtjifohepbmaebaaIW8
namespace Go.Proofs.Ytjifohepbmaebaa
open Go.RowKit
set_option linter.unusedVariables false

/-- Go's <= of texts. -/
def leS (a b : ByteArray) : Bool := Op.bytesLess a.toList b.toList || a.toList == b.toList
/-- What is wrong with a record. -/
def stepE (zs : List Tp) (i : Nat) : Int :=
  if I.mkd 64 (bys (zs.getD i t0).1) = false then 3 else if (zs.getD i t0).2 < 1 ∨ 1000030000 < (zs.getD i t0).2 then 2 else if 0 < i ∧ leS (zs.getD i t0).1 (zs.getD (i - 1) t0).1 = true then 8 else 0
def chk (zs : List Tp) (n : Nat) : Int := (((List.range n).map (stepE zs)).find? (fun r => r != 0)).getD 0
theorem chk_at {zs : List Tp} {n k : Nat} {r : Int} (hk : k < n) (h : stepE zs k = r) (hr : r ≠ 0) (hn : ∀ j, j < k → stepE zs j = 0) : chk zs n = r := by
  unfold chk
  have : ((List.range n).map (stepE zs)).find? (fun r => r != 0) = some r := by
    rw [List.find?_map, List.find?_range_eq_some.2 ⟨(by simp [h, hr] : ((fun r => r != 0) ∘ stepE zs) k = true), by simpa using hk, fun j hj => by simp [hn j hj]⟩, Option.map_some, h]
  rw [this]; rfl
theorem chk_no {zs : List Tp} {n : Nat} (hn : ∀ j, j < n → stepE zs j = 0) : chk zs n = 0 := by
  unfold chk
  have : ((List.range n).map (stepE zs)).find? (fun r => r != 0) = none := by
    rw [List.find?_eq_none]
    intro x hx
    obtain ⟨j, hj, rfl⟩ := List.mem_map.1 hx
    rw [hn j (by simpa using hj)]
    decide
  rw [this]; rfl
def ChkR (zs : List Tp) (n : Nat) (e : Ending) : Prop := e = .returned (.int .i64 (chk zs n))
theorem stepE_user {zs : List Tp} {i : Nat} (h : I.mkd 64 (bys (zs.getD i t0).1) = false) : stepE zs i = 3 := if_pos h
theorem stepE_range {zs : List Tp} {i : Nat} (h : I.mkd 64 (bys (zs.getD i t0).1) = true) (h2 : (zs.getD i t0).2 < 1 ∨ 1000030000 < (zs.getD i t0).2) : stepE zs i = 2 := by unfold stepE; rw [if_neg (by rw [h]; decide), if_pos h2]
theorem stepE_order {zs : List Tp} {i : Nat} (h : I.mkd 64 (bys (zs.getD i t0).1) = true) (h2 : ¬ ((zs.getD i t0).2 < 1 ∨ 1000030000 < (zs.getD i t0).2)) (h3 : 0 < i) (h4 : leS (zs.getD i t0).1 (zs.getD (i - 1) t0).1 = true) : stepE zs i = 8 := by
  unfold stepE; rw [if_neg (by rw [h]; decide), if_neg h2, if_pos ⟨h3, h4⟩]
theorem stepE_zero {zs : List Tp} {i : Nat} (h : I.mkd 64 (bys (zs.getD i t0).1) = true) (h2 : ¬ ((zs.getD i t0).2 < 1 ∨ 1000030000 < (zs.getD i t0).2)) (h3 : ¬ (0 < i ∧ leS (zs.getD i t0).1 (zs.getD (i - 1) t0).1 = true)) : stepE zs i = 0 := by
  unfold stepE; rw [if_neg (by rw [h]; decide), if_neg h2, if_neg h3]
set_option maxRecDepth 100000 in
set_option maxHeartbeats 4000000 in
theorem check10 (A : Option Addr) (n c : Nat) (zs : List Tp) (w : World) (h : Tps w A n c zs) (hn : n ≤ 1000000) : Calls Try.prog 10 #[.slice A n c] w fun e w' => ChkR zs n e ∧ Below w.heap.size w w' := by
  have H := Lib.hid h
  clear h
  go_enter Try.func10, Try.ntmps10
  go_wp2
  go_loopg [3, 4, 5, 8] n (fun gg _ _ _ s8 wr => ∃ kk : Nat, kk ≤ n ∧ n - kk ≤ gg ∧ s8 = .int .i64 kk ∧ Hid (∀ j, j < kk → stepE zs j = 0) ∧ Hid (Below w.heap.size w wr))
  case atStart => exact ⟨0, Nat.zero_le _, by omega, rfl, Lib.hid (fun j hj => absurd hj (Nat.not_lt_zero _)), Lib.hid (Below.refl _ _)⟩
  case round =>
    obtain ⟨kk, hkk, hg, rfl, HO, BW⟩ := hrel
    by_cases hlt : kk < n
    · have hltz : (kk : Int) < (n : Int) := by omega
      obtain ⟨b, off, eA, hbl, k0, k1, hsz⟩ := (H.out.below BW.out).get hlt
      have HU := Lib.hid (stepE_user (zs := zs) (i := kk))
      have HR := Lib.hid (stepE_range (zs := zs) (i := kk))
      have HR2 := Lib.hid (stepE_order (zs := zs) (i := kk))
      have HZ := Lib.hid (stepE_zero (zs := zs) (i := kk))
      have HP := Lib.hid (fun (h : 0 < kk) u (hb : Below w.heap.size w u) => (H.out.below hb).get (k := kk - 1) (by omega))
      subst eA
      generalize zs.getD kk t0 = p at k0 k1 hsz HU HR HR2 HZ
      generalize zs.getD (kk - 1) t0 = pp at HR2 HZ HP
      have BA := Lib.hid (BW.out.alloc BW.out.size (.cells #[.string p.1, .int .i64 p.2] 44))
      have XN := Lib.hid (blk_new wr [.string p.1, .int .i64 p.2] 44)
      have UC := Lib.hid (user_any p.1 hsz (wr.alloc (.cells #[.string p.1, .int .i64 p.2] 44)))
      cases hm : I.mkd 64 (bys p.1)
      · have HF := Lib.hid (HU.out hm)
        clear HU HR HR2 HZ HP
        rw [hm, err_f] at UC
        clear hm
        go_wp2_with (go_at_call 25; (with_reducible refine UC.out.mono ?_); rintro e w3 ⟨rfl, hb3⟩; have B3 := Lib.hid (BA.out.trans (hb3.mono BA.out.size)); have c0 := (XN.out.below hb3).cell (i := 0) rfl; have c1 := (XN.out.below hb3).cell (i := 1) rfl)
        go_ret
        exact ⟨ret_i64 (chk_at hlt HF.out (by decide) HO.out).symm, B3.out⟩
      · have HM := Lib.hid hm
        rw [hm, err_t] at UC
        clear hm
        by_cases r1 : p.2 < 1
        · have HF := Lib.hid (HR.out HM.out (.inl r1))
          clear HU HR HR2 HZ HP
          go_wp2_with (go_at_call 25; (with_reducible refine UC.out.mono ?_); rintro e w3 ⟨rfl, hb3⟩; have B3 := Lib.hid (BA.out.trans (hb3.mono BA.out.size)); have c0 := (XN.out.below hb3).cell (i := 0) rfl; have c1 := (XN.out.below hb3).cell (i := 1) rfl)
          go_ret
          exact ⟨ret_i64 (chk_at hlt HF.out (by decide) HO.out).symm, B3.out⟩
        · by_cases r2 : 1000030000 < p.2
          · have HF := Lib.hid (HR.out HM.out (.inr r2))
            clear HU HR HR2 HZ HP
            go_wp2_with (go_at_call 25; (with_reducible refine UC.out.mono ?_); rintro e w3 ⟨rfl, hb3⟩; have B3 := Lib.hid (BA.out.trans (hb3.mono BA.out.size)); have c0 := (XN.out.below hb3).cell (i := 0) rfl; have c1 := (XN.out.below hb3).cell (i := 1) rfl)
            go_ret
            exact ⟨ret_i64 (chk_at hlt HF.out (by decide) HO.out).symm, B3.out⟩
          · have HNR := Lib.hid (show ¬ (p.2 < 1 ∨ 1000030000 < p.2) from fun h => by rcases h with h | h; exact r1 h; exact r2 h)
            by_cases hk0 : 0 < kk
            · have hgz : (0 : Int) < (kk : Int) := by omega
              have hgd : decide ((0 : Int) < (kk : Int)) = true := by simpa using hk0
              have e1 : IntKind.i64.wrap ((kk : Int) - 1) = (kk : Int) - 1 := IntWalk.i64_in _ (by omega)
              have e2 : ((kk : Int) - 1).toNat = kk - 1 := by omega
              have e3 : (0 : Int) ≤ (kk : Int) - 1 := by omega
              have e4 : (kk : Int) - 1 < (n : Int) := by omega
              have HB3 := Lib.hid (HP.out hk0)
              cases ho : leS p.1 pp.1
              · have HF := Lib.hid (HZ.out HM.out HNR.out (by rw [ho]; rintro ⟨_, h⟩; cases h))
                obtain ⟨o1, o2⟩ := Bool.or_eq_false_iff.1 (show (Op.bytesLess p.1.toList pp.1.toList || p.1.toList == pp.1.toList) = false from ho)
                clear HU HR HR2 HZ HP ho
                go_wp2_with (go_at_call 25; (with_reducible refine UC.out.mono ?_); rintro e w3 ⟨rfl, hb3⟩; have B3 := Lib.hid (BA.out.trans (hb3.mono BA.out.size)); have c0 := (XN.out.below hb3).cell (i := 0) rfl; have c1 := (XN.out.below hb3).cell (i := 1) rfl)
                obtain ⟨b2, off2, e5, _, m0, _, _⟩ := HB3.out _ B3.out; simp only [Option.some.injEq, Addr.mk.injEq, and_true] at e5; obtain ⟨rfl, rfl⟩ := e5
                go_quiet (fail)
                clear e1 e2 e3 e4 m0
                go_wp2
                go_roundg (n - (kk + 1))
                case measure => omega
                case rel =>
                  refine ⟨kk + 1, by omega, by omega, by go_num, Lib.hid (fun j hj => ?_), Lib.hid (below_drewN B3.out _)⟩
                  by_cases e : j = kk
                  · subst e; exact HF.out
                  · exact HO.out j (by omega)
              · have HF := Lib.hid (HR2.out HM.out HNR.out hk0 ho)
                have o1 : (Op.bytesLess p.1.toList pp.1.toList || p.1.toList == pp.1.toList) = true := ho
                clear HU HR HR2 HZ HP ho
                go_wp2_with (go_at_call 25; (with_reducible refine UC.out.mono ?_); rintro e w3 ⟨rfl, hb3⟩; have B3 := Lib.hid (BA.out.trans (hb3.mono BA.out.size)); have c0 := (XN.out.below hb3).cell (i := 0) rfl; have c1 := (XN.out.below hb3).cell (i := 1) rfl)
                obtain ⟨b2, off2, e5, _, m0, _, _⟩ := HB3.out _ B3.out; simp only [Option.some.injEq, Addr.mk.injEq, and_true] at e5; obtain ⟨rfl, rfl⟩ := e5
                go_quiet (fail)
                go_wp2
                go_ret
                exact ⟨ret_i64 (chk_at hlt HF.out (by decide) HO.out).symm, below_drewN B3.out _⟩
            · have hgz : ¬ (0 : Int) < (kk : Int) := by omega
              have hgd : decide ((0 : Int) < (kk : Int)) = false := by simpa using hk0
              have HF := Lib.hid (HZ.out HM.out HNR.out (fun h => hk0 h.1))
              clear HU HR HR2 HZ HP
              go_wp2_with (go_at_call 25; (with_reducible refine UC.out.mono ?_); rintro e w3 ⟨rfl, hb3⟩; have B3 := Lib.hid (BA.out.trans (hb3.mono BA.out.size)); have c0 := (XN.out.below hb3).cell (i := 0) rfl; have c1 := (XN.out.below hb3).cell (i := 1) rfl)
              go_quiet (fail)
              go_wp2
              go_roundg (n - (kk + 1))
              case measure => omega
              case rel =>
                refine ⟨kk + 1, by omega, by omega, by go_num, Lib.hid (fun j hj => ?_), Lib.hid (below_drewN B3.out _)⟩
                by_cases e : j = kk
                · subst e; exact HF.out
                · exact HO.out j (by omega)
    · have hltz : ¬ (kk : Int) < (n : Int) := by omega
      obtain rfl : kk = n := by omega
      have HF := Lib.hid (chk_no HO.out)
      go_wp2
      go_ret
      exact ⟨ret_i64 HF.out.symm, BW.out⟩
set_option maxRecDepth 100000 in
set_option maxHeartbeats 4000000 in
theorem rcheck11 (A : Option Addr) (n c : Nat) (zs : List Tp) (w : World) (h : Tps w A n c zs) (hn : n ≤ 1000000) : Calls Try.prog 11 #[.slice A n c] w fun e w' => ChkR zs n e ∧ Below w.heap.size w w' := by
  have H := Lib.hid h
  clear h
  go_enter Try.func11, Try.ntmps11
  go_wp2
  go_loopg [3] n (fun gg s8 wr => ∃ kk : Nat, kk ≤ n ∧ n - kk ≤ gg ∧ s8 = .int .i64 kk ∧ Hid (∀ j, j < kk → stepE zs j = 0) ∧ Hid (Below w.heap.size w wr))
  case atStart => exact ⟨0, Nat.zero_le _, by omega, rfl, Lib.hid (fun j hj => absurd hj (Nat.not_lt_zero _)), Lib.hid (Below.refl _ _)⟩
  case round =>
    obtain ⟨kk, hkk, hg, rfl, HO, BW⟩ := hrel
    by_cases hlt : kk < n
    · have hltz : (kk : Int) < (n : Int) := by omega
      obtain ⟨b, off, eA, hbl, k0, k1, hsz⟩ := (H.out.below BW.out).get hlt
      have HU := Lib.hid (stepE_user (zs := zs) (i := kk))
      have HR := Lib.hid (stepE_range (zs := zs) (i := kk))
      have HR2 := Lib.hid (stepE_order (zs := zs) (i := kk))
      have HZ := Lib.hid (stepE_zero (zs := zs) (i := kk))
      have HP := Lib.hid (fun (h : 0 < kk) u (hb : Below w.heap.size w u) => (H.out.below hb).get (k := kk - 1) (by omega))
      subst eA
      generalize zs.getD kk t0 = p at k0 k1 hsz HU HR HR2 HZ
      generalize zs.getD (kk - 1) t0 = pp at HR2 HZ HP
      have UC := Lib.hid (ruser_any p.1 hsz wr)
      cases hm : I.mkd 64 (bys p.1)
      · have HF := Lib.hid (HU.out hm)
        clear HU HR HR2 HZ HP
        rw [hm, err_f] at UC
        clear hm
        go_wp2_with (go_at_call 26; (with_reducible refine UC.out.mono ?_); rintro e w3 ⟨rfl, rfl⟩)
        go_ret
        exact ⟨ret_i64 (chk_at hlt HF.out (by decide) HO.out).symm, BW.out⟩
      · have HM := Lib.hid hm
        rw [hm, err_t] at UC
        clear hm
        by_cases r1 : p.2 < 1
        · have HF := Lib.hid (HR.out HM.out (.inl r1))
          clear HU HR HR2 HZ HP
          go_wp2_with (go_at_call 26; (with_reducible refine UC.out.mono ?_); rintro e w3 ⟨rfl, rfl⟩)
          go_ret
          exact ⟨ret_i64 (chk_at hlt HF.out (by decide) HO.out).symm, BW.out⟩
        · by_cases r2 : 1000030000 < p.2
          · have HF := Lib.hid (HR.out HM.out (.inr r2))
            clear HU HR HR2 HZ HP
            go_wp2_with (go_at_call 26; (with_reducible refine UC.out.mono ?_); rintro e w3 ⟨rfl, rfl⟩)
            go_ret
            exact ⟨ret_i64 (chk_at hlt HF.out (by decide) HO.out).symm, BW.out⟩
          · have HNR := Lib.hid (show ¬ (p.2 < 1 ∨ 1000030000 < p.2) from fun h => by rcases h with h | h; exact r1 h; exact r2 h)
            by_cases hk0 : 0 < kk
            · have hgz : (0 : Int) < (kk : Int) := by omega
              have hgd : decide ((0 : Int) < (kk : Int)) = true := by simpa using hk0
              have e1 : IntKind.i64.wrap ((kk : Int) - 1) = (kk : Int) - 1 := IntWalk.i64_in _ (by omega)
              have e2 : ((kk : Int) - 1).toNat = kk - 1 := by omega
              have e3 : (0 : Int) ≤ (kk : Int) - 1 := by omega
              have e4 : (kk : Int) - 1 < (n : Int) := by omega
              have HB3 := Lib.hid (HP.out hk0)
              cases ho : leS p.1 pp.1
              · have HF := Lib.hid (HZ.out HM.out HNR.out (by rw [ho]; rintro ⟨_, h⟩; cases h))
                obtain ⟨o1, o2⟩ := Bool.or_eq_false_iff.1 (show (Op.bytesLess p.1.toList pp.1.toList || p.1.toList == pp.1.toList) = false from ho)
                clear HU HR HR2 HZ HP ho
                go_wp2_with (go_at_call 26; (with_reducible refine UC.out.mono ?_); rintro e w3 ⟨rfl, rfl⟩)
                obtain ⟨b2, off2, e5, _, m0, _, _⟩ := HB3.out _ BW.out; simp only [Option.some.injEq, Addr.mk.injEq, and_true] at e5; obtain ⟨rfl, rfl⟩ := e5
                go_quiet (fail)
                clear e1 e2 e3 e4 m0
                go_wp2
                go_roundg (n - (kk + 1))
                case measure => omega
                case rel =>
                  refine ⟨kk + 1, by omega, by omega, by go_num, Lib.hid (fun j hj => ?_), Lib.hid (below_drewN BW.out _)⟩
                  by_cases e : j = kk
                  · subst e; exact HF.out
                  · exact HO.out j (by omega)
              · have HF := Lib.hid (HR2.out HM.out HNR.out hk0 ho)
                have o1 : (Op.bytesLess p.1.toList pp.1.toList || p.1.toList == pp.1.toList) = true := ho
                clear HU HR HR2 HZ HP ho
                go_wp2_with (go_at_call 26; (with_reducible refine UC.out.mono ?_); rintro e w3 ⟨rfl, rfl⟩)
                obtain ⟨b2, off2, e5, _, m0, _, _⟩ := HB3.out _ BW.out; simp only [Option.some.injEq, Addr.mk.injEq, and_true] at e5; obtain ⟨rfl, rfl⟩ := e5
                go_quiet (fail)
                go_wp2
                go_ret
                exact ⟨ret_i64 (chk_at hlt HF.out (by decide) HO.out).symm, below_drewN BW.out _⟩
            · have hgz : ¬ (0 : Int) < (kk : Int) := by omega
              have hgd : decide ((0 : Int) < (kk : Int)) = false := by simpa using hk0
              have HF := Lib.hid (HZ.out HM.out HNR.out (fun h => hk0 h.1))
              clear HU HR HR2 HZ HP
              go_wp2_with (go_at_call 26; (with_reducible refine UC.out.mono ?_); rintro e w3 ⟨rfl, rfl⟩)
              go_quiet (fail)
              go_wp2
              go_roundg (n - (kk + 1))
              case measure => omega
              case rel =>
                refine ⟨kk + 1, by omega, by omega, by go_num, Lib.hid (fun j hj => ?_), Lib.hid (below_drewN BW.out _)⟩
                by_cases e : j = kk
                · subst e; exact HF.out
                · exact HO.out j (by omega)
    · have hltz : ¬ (kk : Int) < (n : Int) := by omega
      obtain rfl : kk = n := by omega
      have HF := Lib.hid (chk_no HO.out)
      go_wp2
      go_ret
      exact ⟨ret_i64 HF.out.symm, BW.out⟩
end Go.Proofs.Ytjifohepbmaebaa
