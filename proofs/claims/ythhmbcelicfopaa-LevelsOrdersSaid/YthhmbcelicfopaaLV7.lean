/- The reference's Of (levels): its walk. -/
import Derived.Test.YthhmbcelicfopaaLV6
namespace Go.Proofs.Ythhmbcelicfopaa
open Go.RowKit
set_option linter.unusedVariables false

theorem CreatorPost.none {E : Nat → Ev} {n : Nat} {s : ByteArray} (h : CreatorPost E n s) (hn : ∀ j, j < n → (E j).kd ≠ 1) : s = ⟨#[]⟩ := by
  rcases h with ⟨i, ⟨k, hk, h1, _⟩ | ⟨_, e⟩, _⟩ | ⟨_, e⟩
  · exact absurd h1 (hn k hk)
  · omega
  · exact e
theorem CreatorPost.some {E : Nat → Ev} {n : Nat} {s : ByteArray} (h : CreatorPost E n s) {k : Nat} (hk : k < n) (h1 : (E k).kd = 1) (hl : ∀ j, j < k → (E j).kd ≠ 1) : (E k).snd = s := by
  have hf : FirstPost E 1 n k := .inl ⟨k, hk, h1, hl, rfl⟩
  rcases h with ⟨i, hi, _, e⟩ | ⟨hi, _⟩
  · have : (k : Int) = (i : Int) := hf.one hi
    have : k = i := by omega
    rw [e, this]
  · have := hf.one hi
    omega
theorem LevelsPost.none {E : Nat → Ev} {LV : Nat → Lvl} {n : Nat} {s : ByteArray} {L : Lvl} (h : LevelsPost E LV n s L) (hn : ∀ j, j < n → (E j).kd ≠ 3) : L = defLv s := by
  rcases h with ⟨i, ⟨k, hk, h1, _⟩ | ⟨_, e⟩, _⟩ | ⟨_, e⟩
  · exact absurd h1 (hn k hk)
  · omega
  · exact e
theorem LevelsPost.some {E : Nat → Ev} {LV : Nat → Lvl} {n : Nat} {s : ByteArray} {L : Lvl} (h : LevelsPost E LV n s L) {k : Nat} (hk : k < n) (h1 : (E k).kd = 3) (hl : ∀ j, j < k → (E j).kd ≠ 3) : LV k = L := by
  have hf : FirstPost E 3 n k := .inl ⟨k, hk, h1, hl, rfl⟩
  rcases h with ⟨i, hi, _, e⟩ | ⟨hi, _⟩
  · have : (k : Int) = (i : Int) := hf.one hi
    have : k = i := by omega
    rw [e, this]
  · have := hf.one hi
    omega

set_option maxHeartbeats 4000000 in
theorem rof22 {W : World} {A : Option Addr} {n : Nat} {E : Nat → Ev} {LV : Nat → Lvl} {s : ByteArray} {L : Lvl} (c : Nat) (hbig : n ≤ 9223372036854775807) (hE : EvsA W A n E) (hV : Leveled W n E LV) (hs : CreatorPost E n s) (hL : LevelsPost E LV n s L) :
    Calls Try.prog 19 #[.slice A n c] W (OfP W s L) := by
  have HW := Lib.hid (Below.alloc (Below.refl W.heap.size W) (Nat.le_refl _) (.cells lzc.toArray 25))
  have HT := Lib.hid (blk_new W lzc 25)
  have HE := Lib.hid (hE.below HW.out)
  have HS := Lib.hid hs
  have HL := Lib.hid hL
  have HOld := Lib.hid (fun (j : Nat) (hj : j < n) => hV j hj)
  clear hE hV hs hL
  go_enter Try.func19, Try.ntmps19
  go_wp2
  generalize hw0 : (W.alloc _) = w0 at HW HT HE ⊢
  clear hw0
  go_loopg [4, 5, 6] n (fun gg s4 s5 s6 wr => ∃ kk : Nat, kk ≤ n ∧ n - kk ≤ gg ∧ s6 = .int .i64 kk ∧ w0 = wr ∧ ((s5 = .bool false ∧ s4 = .string ⟨#[]⟩ ∧ Hid (∀ j, j < kk → (E j).kd ≠ 1)) ∨ (s5 = .bool true ∧ s4 = .string s)))
  case atStart => exact ⟨0, Nat.zero_le _, by omega, rfl, rfl, .inl ⟨rfl, rfl, Lib.hid (fun j hj => absurd hj (Nat.not_lt_zero _))⟩⟩
  case round =>
    obtain ⟨kk, hkk, hg, rfl, rfl, ⟨rfl, rfl, A⟩ | ⟨rfl, rfl⟩⟩ := hrel
    · by_cases hlt : kk < n
      · have hltz : (kk : Int) < (n : Int) := by omega
        obtain ⟨b, off, rfl, hev⟩ := HE.out.at_ hlt
        have ck := hev.kd hlt
        have cs := hev.snd hlt
        generalize hkd : (E kk).kd = kd at ck
        by_cases q : kd = 1
        · have HSk := HS.out.some hlt (by rw [hkd]; exact q) A.out
          rw [HSk] at cs
          clear hkd hev HSk
          subst q
          go_wp2
          go_roundg (n - (kk + 1))
          case measure => omega
          case rel => exact ⟨kk + 1, by omega, by omega, by go_num, rfl, .inr ⟨rfl, rfl⟩⟩
        · have q1 : (kd == 1) = false := by simpa using q
          have HF := Lib.hid (show (E kk).kd ≠ 1 by rw [hkd]; exact q)
          clear q hkd hev cs
          go_wp2
          go_roundg (n - (kk + 1))
          case measure => omega
          case rel =>
            refine ⟨kk + 1, by omega, by omega, by go_num, rfl, .inl ⟨rfl, rfl, Lib.hid (fun j hj => ?_)⟩⟩
            by_cases e : j = kk
            · subst e; exact HF.out
            · exact A.out j (by omega)
      · have hltz : ¬ (kk : Int) < (n : Int) := by omega
        obtain rfl : n = kk := by omega
        have hsn := HS.out.none A.out
        rw [← hsn]
        clear hsn
        go_wp2
        go_loopg [7] n (fun gg s7 wr => ∃ kk : Nat, kk ≤ n ∧ n - kk ≤ gg ∧ s7 = .int .i64 kk ∧ w0 = wr ∧ Hid (∀ j, j < kk → (E j).kd ≠ 3))
        case atStart => exact ⟨0, Nat.zero_le _, by omega, rfl, rfl, Lib.hid (fun j hj => absurd hj (Nat.not_lt_zero _))⟩
        case round =>
          obtain ⟨kk, hkk, hg2, rfl, rfl, A2⟩ := hrel
          by_cases hlt2 : kk < n
          · have hltz2 : (kk : Int) < (n : Int) := by omega
            obtain ⟨b, off, rfl, hev⟩ := HE.out.at_ hlt2
            have ck := hev.kd hlt2
            generalize hkd : (E kk).kd = kd at ck
            by_cases q : kd = 3
            · have HLk := Lib.hid (HL.out.some hlt2 (by rw [hkd]; exact q) A2.out)
              obtain ⟨uA, uC, kA, kC, hcs, RU, RK⟩ := HOld.out kk hlt2
              rw [HLk.out] at hcs RU RK
              have HR := Lib.hid (show World.rangeAt w0 b (off + kk * 29 + 10 + 7) (lvc uA L.nU uC kA L.nK kC L.d L.x3 L.x4 L.x5 L.x6 L.x7 L.x8) by rw [← hcs]; exact hev.lvr hlt2)
              have HRU := Lib.hid RU
              have HRK := Lib.hid RK
              clear hcs RU RK hkd hev
              subst q
              go_wp2_with (first
                | (refine wpList_load_mid rfl 25 _ rfl b (off + kk * 29 + 10 + 7) rfl (lvc uA L.nU uC kA L.nK kC L.d L.x3 L.x4 L.x5 L.x6 L.x7 L.x8) _ HR.out Try.underlying25 rfl size28 ?_)
                | (refine wpList_store_mid rfl 25 _ _ rfl W.heap.size 0 (lvc uA L.nU uC kA L.nK kC L.d L.x3 L.x4 L.x5 L.x6 L.x7 L.x8).toArray rfl rfl (Blk.there (n := 9) HT.out (by decide)) size28 (lvc_one _ _ _ _ _ _ _ _ _ _ _ _ _) ?_))
              (try simp only [Exit.inBlock, Exit.then])
              refine bodyPost_ret (results_cell_tmp_blk rfl _ _ W.heap.size (lvc uA L.nU uC kA L.nK kC L.d L.x3 L.x4 L.x5 L.x6 L.x7 L.x8) 25 _ rfl (HT.out.setAll _ rfl) Try.underlying25 rfl size28) rfl ?_
              exact ⟨_, rfl, ⟨uA, uC, kA, kC, rfl, (HRU.out.below HW.out).otherAll _ _ _ (HRU.out.old (Nat.le_refl _)), (HRK.out.below HW.out).otherAll _ _ _ (HRK.out.old (Nat.le_refl _))⟩, below_setAll (Nat.le_refl _) _ _ _ HW.out⟩
            · have q1 : (kd == 3) = false := by simpa using q
              have HF := Lib.hid (show (E kk).kd ≠ 3 by rw [hkd]; exact q)
              clear q hkd hev
              go_wp2
              go_roundg (n - (kk + 1))
              case measure => omega
              case rel =>
                refine ⟨kk + 1, by omega, by omega, by go_num, rfl, Lib.hid (fun j hj => ?_)⟩
                by_cases e : j = kk
                · subst e; exact HF.out
                · exact A2.out j (by omega)
          · have hltz2 : ¬ (kk : Int) < (n : Int) := by omega
            have : kk = n := by omega
            subst this
            obtain rfl := HL.out.none A2.out
            go_wp2_with (first
              | (go_at_call 17; refine (default28 s _).mono ?_; rintro e w3 ⟨uA3, uC3, kA3, kC3, rfl, hu3, hk3, hb3, nu3, nk3⟩; have U3 := Lib.hid hu3; have K3 := Lib.hid hk3; have B3 := Lib.hid hb3; have NU := Lib.hid nu3; have NK := Lib.hid nk3; have T3 := Lib.hid (HT.out.below hb3); clear hu3 hk3 hb3 nu3 nk3)
              | (refine wpList_store_mid rfl 25 _ _ rfl W.heap.size 0 (lvc uA3 (defLv s).nU uC3 kA3 (defLv s).nK kC3 (defLv s).d (defLv s).x3 (defLv s).x4 (defLv s).x5 (defLv s).x6 (defLv s).x7 (defLv s).x8).toArray rfl rfl (Blk.there (n := 9) T3.out (by decide)) size28 (lvc_one _ _ _ _ _ _ _ _ _ _ _ _ _) ?_))
            (try simp only [Exit.inBlock, Exit.then])
            refine bodyPost_ret (results_cell_tmp_blk rfl _ _ W.heap.size (lvc uA3 (defLv s).nU uC3 kA3 (defLv s).nK kC3 (defLv s).d (defLv s).x3 (defLv s).x4 (defLv s).x5 (defLv s).x6 (defLv s).x7 (defLv s).x8) 25 _ rfl (T3.out.setAll _ rfl) Try.underlying25 rfl size28) rfl ?_
            exact ⟨_, rfl, ⟨uA3, uC3, kA3, kC3, rfl, U3.out.otherAll _ _ _ (NU.out.ne HT.out.lt), K3.out.otherAll _ _ _ (NK.out.ne HT.out.lt)⟩, below_setAll (Nat.le_refl _) _ _ _ (HW.out.trans (B3.out.mono HW.out.size))⟩
    · by_cases hlt : kk < n
      · have hltz : (kk : Int) < (n : Int) := by omega
        go_wp2
        go_loopg [7] n (fun gg s7 wr => ∃ kk : Nat, kk ≤ n ∧ n - kk ≤ gg ∧ s7 = .int .i64 kk ∧ w0 = wr ∧ Hid (∀ j, j < kk → (E j).kd ≠ 3))
        case atStart => exact ⟨0, Nat.zero_le _, by omega, rfl, rfl, Lib.hid (fun j hj => absurd hj (Nat.not_lt_zero _))⟩
        case round =>
          obtain ⟨kk, hkk, hg2, rfl, rfl, A2⟩ := hrel
          by_cases hlt2 : kk < n
          · have hltz2 : (kk : Int) < (n : Int) := by omega
            obtain ⟨b, off, rfl, hev⟩ := HE.out.at_ hlt2
            have ck := hev.kd hlt2
            generalize hkd : (E kk).kd = kd at ck
            by_cases q : kd = 3
            · have HLk := Lib.hid (HL.out.some hlt2 (by rw [hkd]; exact q) A2.out)
              obtain ⟨uA, uC, kA, kC, hcs, RU, RK⟩ := HOld.out kk hlt2
              rw [HLk.out] at hcs RU RK
              have HR := Lib.hid (show World.rangeAt w0 b (off + kk * 29 + 10 + 7) (lvc uA L.nU uC kA L.nK kC L.d L.x3 L.x4 L.x5 L.x6 L.x7 L.x8) by rw [← hcs]; exact hev.lvr hlt2)
              have HRU := Lib.hid RU
              have HRK := Lib.hid RK
              clear hcs RU RK hkd hev
              subst q
              go_wp2_with (first
                | (refine wpList_load_mid rfl 25 _ rfl b (off + kk * 29 + 10 + 7) rfl (lvc uA L.nU uC kA L.nK kC L.d L.x3 L.x4 L.x5 L.x6 L.x7 L.x8) _ HR.out Try.underlying25 rfl size28 ?_)
                | (refine wpList_store_mid rfl 25 _ _ rfl W.heap.size 0 (lvc uA L.nU uC kA L.nK kC L.d L.x3 L.x4 L.x5 L.x6 L.x7 L.x8).toArray rfl rfl (Blk.there (n := 9) HT.out (by decide)) size28 (lvc_one _ _ _ _ _ _ _ _ _ _ _ _ _) ?_))
              (try simp only [Exit.inBlock, Exit.then])
              refine bodyPost_ret (results_cell_tmp_blk rfl _ _ W.heap.size (lvc uA L.nU uC kA L.nK kC L.d L.x3 L.x4 L.x5 L.x6 L.x7 L.x8) 25 _ rfl (HT.out.setAll _ rfl) Try.underlying25 rfl size28) rfl ?_
              exact ⟨_, rfl, ⟨uA, uC, kA, kC, rfl, (HRU.out.below HW.out).otherAll _ _ _ (HRU.out.old (Nat.le_refl _)), (HRK.out.below HW.out).otherAll _ _ _ (HRK.out.old (Nat.le_refl _))⟩, below_setAll (Nat.le_refl _) _ _ _ HW.out⟩
            · have q1 : (kd == 3) = false := by simpa using q
              have HF := Lib.hid (show (E kk).kd ≠ 3 by rw [hkd]; exact q)
              clear q hkd hev
              go_wp2
              go_roundg (n - (kk + 1))
              case measure => omega
              case rel =>
                refine ⟨kk + 1, by omega, by omega, by go_num, rfl, Lib.hid (fun j hj => ?_)⟩
                by_cases e : j = kk
                · subst e; exact HF.out
                · exact A2.out j (by omega)
          · have hltz2 : ¬ (kk : Int) < (n : Int) := by omega
            have : kk = n := by omega
            subst this
            obtain rfl := HL.out.none A2.out
            go_wp2_with (first
              | (go_at_call 17; refine (default28 s _).mono ?_; rintro e w3 ⟨uA3, uC3, kA3, kC3, rfl, hu3, hk3, hb3, nu3, nk3⟩; have U3 := Lib.hid hu3; have K3 := Lib.hid hk3; have B3 := Lib.hid hb3; have NU := Lib.hid nu3; have NK := Lib.hid nk3; have T3 := Lib.hid (HT.out.below hb3); clear hu3 hk3 hb3 nu3 nk3)
              | (refine wpList_store_mid rfl 25 _ _ rfl W.heap.size 0 (lvc uA3 (defLv s).nU uC3 kA3 (defLv s).nK kC3 (defLv s).d (defLv s).x3 (defLv s).x4 (defLv s).x5 (defLv s).x6 (defLv s).x7 (defLv s).x8).toArray rfl rfl (Blk.there (n := 9) T3.out (by decide)) size28 (lvc_one _ _ _ _ _ _ _ _ _ _ _ _ _) ?_))
            (try simp only [Exit.inBlock, Exit.then])
            refine bodyPost_ret (results_cell_tmp_blk rfl _ _ W.heap.size (lvc uA3 (defLv s).nU uC3 kA3 (defLv s).nK kC3 (defLv s).d (defLv s).x3 (defLv s).x4 (defLv s).x5 (defLv s).x6 (defLv s).x7 (defLv s).x8) 25 _ rfl (T3.out.setAll _ rfl) Try.underlying25 rfl size28) rfl ?_
            exact ⟨_, rfl, ⟨uA3, uC3, kA3, kC3, rfl, U3.out.otherAll _ _ _ (NU.out.ne HT.out.lt), K3.out.otherAll _ _ _ (NK.out.ne HT.out.lt)⟩, below_setAll (Nat.le_refl _) _ _ _ (HW.out.trans (B3.out.mono HW.out.size))⟩
      · have hltz : ¬ (kk : Int) < (n : Int) := by omega
        go_wp2
        go_loopg [7] n (fun gg s7 wr => ∃ kk : Nat, kk ≤ n ∧ n - kk ≤ gg ∧ s7 = .int .i64 kk ∧ w0 = wr ∧ Hid (∀ j, j < kk → (E j).kd ≠ 3))
        case atStart => exact ⟨0, Nat.zero_le _, by omega, rfl, rfl, Lib.hid (fun j hj => absurd hj (Nat.not_lt_zero _))⟩
        case round =>
          obtain ⟨kk, hkk, hg2, rfl, rfl, A2⟩ := hrel
          by_cases hlt2 : kk < n
          · have hltz2 : (kk : Int) < (n : Int) := by omega
            obtain ⟨b, off, rfl, hev⟩ := HE.out.at_ hlt2
            have ck := hev.kd hlt2
            generalize hkd : (E kk).kd = kd at ck
            by_cases q : kd = 3
            · have HLk := Lib.hid (HL.out.some hlt2 (by rw [hkd]; exact q) A2.out)
              obtain ⟨uA, uC, kA, kC, hcs, RU, RK⟩ := HOld.out kk hlt2
              rw [HLk.out] at hcs RU RK
              have HR := Lib.hid (show World.rangeAt w0 b (off + kk * 29 + 10 + 7) (lvc uA L.nU uC kA L.nK kC L.d L.x3 L.x4 L.x5 L.x6 L.x7 L.x8) by rw [← hcs]; exact hev.lvr hlt2)
              have HRU := Lib.hid RU
              have HRK := Lib.hid RK
              clear hcs RU RK hkd hev
              subst q
              go_wp2_with (first
                | (refine wpList_load_mid rfl 25 _ rfl b (off + kk * 29 + 10 + 7) rfl (lvc uA L.nU uC kA L.nK kC L.d L.x3 L.x4 L.x5 L.x6 L.x7 L.x8) _ HR.out Try.underlying25 rfl size28 ?_)
                | (refine wpList_store_mid rfl 25 _ _ rfl W.heap.size 0 (lvc uA L.nU uC kA L.nK kC L.d L.x3 L.x4 L.x5 L.x6 L.x7 L.x8).toArray rfl rfl (Blk.there (n := 9) HT.out (by decide)) size28 (lvc_one _ _ _ _ _ _ _ _ _ _ _ _ _) ?_))
              (try simp only [Exit.inBlock, Exit.then])
              refine bodyPost_ret (results_cell_tmp_blk rfl _ _ W.heap.size (lvc uA L.nU uC kA L.nK kC L.d L.x3 L.x4 L.x5 L.x6 L.x7 L.x8) 25 _ rfl (HT.out.setAll _ rfl) Try.underlying25 rfl size28) rfl ?_
              exact ⟨_, rfl, ⟨uA, uC, kA, kC, rfl, (HRU.out.below HW.out).otherAll _ _ _ (HRU.out.old (Nat.le_refl _)), (HRK.out.below HW.out).otherAll _ _ _ (HRK.out.old (Nat.le_refl _))⟩, below_setAll (Nat.le_refl _) _ _ _ HW.out⟩
            · have q1 : (kd == 3) = false := by simpa using q
              have HF := Lib.hid (show (E kk).kd ≠ 3 by rw [hkd]; exact q)
              clear q hkd hev
              go_wp2
              go_roundg (n - (kk + 1))
              case measure => omega
              case rel =>
                refine ⟨kk + 1, by omega, by omega, by go_num, rfl, Lib.hid (fun j hj => ?_)⟩
                by_cases e : j = kk
                · subst e; exact HF.out
                · exact A2.out j (by omega)
          · have hltz2 : ¬ (kk : Int) < (n : Int) := by omega
            have : kk = n := by omega
            subst this
            obtain rfl := HL.out.none A2.out
            go_wp2_with (first
              | (go_at_call 17; refine (default28 s _).mono ?_; rintro e w3 ⟨uA3, uC3, kA3, kC3, rfl, hu3, hk3, hb3, nu3, nk3⟩; have U3 := Lib.hid hu3; have K3 := Lib.hid hk3; have B3 := Lib.hid hb3; have NU := Lib.hid nu3; have NK := Lib.hid nk3; have T3 := Lib.hid (HT.out.below hb3); clear hu3 hk3 hb3 nu3 nk3)
              | (refine wpList_store_mid rfl 25 _ _ rfl W.heap.size 0 (lvc uA3 (defLv s).nU uC3 kA3 (defLv s).nK kC3 (defLv s).d (defLv s).x3 (defLv s).x4 (defLv s).x5 (defLv s).x6 (defLv s).x7 (defLv s).x8).toArray rfl rfl (Blk.there (n := 9) T3.out (by decide)) size28 (lvc_one _ _ _ _ _ _ _ _ _ _ _ _ _) ?_))
            (try simp only [Exit.inBlock, Exit.then])
            refine bodyPost_ret (results_cell_tmp_blk rfl _ _ W.heap.size (lvc uA3 (defLv s).nU uC3 kA3 (defLv s).nK kC3 (defLv s).d (defLv s).x3 (defLv s).x4 (defLv s).x5 (defLv s).x6 (defLv s).x7 (defLv s).x8) 25 _ rfl (T3.out.setAll _ rfl) Try.underlying25 rfl size28) rfl ?_
            exact ⟨_, rfl, ⟨uA3, uC3, kA3, kC3, rfl, U3.out.otherAll _ _ _ (NU.out.ne HT.out.lt), K3.out.otherAll _ _ _ (NK.out.ne HT.out.lt)⟩, below_setAll (Nat.le_refl _) _ _ _ (HW.out.trans (B3.out.mono HW.out.size))⟩
end Go.Proofs.Ythhmbcelicfopaa
