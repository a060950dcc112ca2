/- The checks of the two lists of power levels. No condition. -/
import Derived.Test.YtablocpcgknmaaaGreatDoorPK1
import Derived.Test.YtablocpcgknmaaaGreatDoorRows
namespace Go.Proofs.YtablocpcgknmaaaGreatDoor
open Go Go.RowKit
set_option linter.unusedVariables false
set_option linter.unusedSimpArgs false
set_option maxRecDepth 100000

theorem Rws.kind {w : World} {A : Option Addr} {n c : Nat} {U : Nat → Int × Int} (h : Rws w A n c 2 (rowK U)) {j : Nat} (hj : j < n) :
    ∃ b off, A = some ⟨b, off, none⟩ ∧ w.cell? ⟨b, off + j * 2, none⟩ = some (.int .i64 (U j).1) ∧ w.cell? ⟨b, off + j * 2 + 1, none⟩ = some (.int .i64 (U j).2) := by
  obtain ⟨b, off, e, _, hr⟩ := h.get hj
  exact ⟨b, off, e, hr 0 _ rfl, hr 1 _ rfl⟩
theorem kind_q (F : Nat) (hF : F = 94) (k : Int) (q : Bool) (hq : kdB k = q) (w : World) : Calls Tryz.prog 94 #[.int .i64 k] w fun e w' => e = .returned (.bool q) ∧ w = w' := by
  have HQ := Lib.hid hq
  clear hq hF
  by_cases h1 : 1 ≤ k
  · by_cases h2 : k ≤ 14
    · obtain rfl : q = true := HQ.out.symm.trans (decide_eq_true ⟨h1, h2⟩)
      have d1 : decide (k ≤ 14) = true := decide_eq_true h2
      go_enter Tryz.func94, Tryz.ntmps94
      go_wp2
      go_ret
      exact ⟨rfl, rfl⟩
    · obtain rfl : q = false := HQ.out.symm.trans (decide_eq_false (by omega))
      have d1 : decide (k ≤ 14) = false := decide_eq_false h2
      go_enter Tryz.func94, Tryz.ntmps94
      go_wp2
      go_ret
      exact ⟨rfl, rfl⟩
  · obtain rfl : q = false := HQ.out.symm.trans (decide_eq_false (by omega))
    have d1 : decide (1 ≤ k) = false := decide_eq_false h1
    go_enter Tryz.func94, Tryz.ntmps94
    go_wp2
    go_ret
    exact ⟨rfl, rfl⟩
theorem known_q (F : Nat) (hF : F = 103) (k : Int) (q : Bool) (hq : kdB k = q) (w : World) : Calls Tryz.prog 103 #[.int .i64 k] w fun e w' => e = .returned (.bool q) ∧ w = w' := by
  have HQ := Lib.hid hq
  clear hq hF
  by_cases h1 : 1 ≤ k
  · by_cases h2 : k ≤ 14
    · obtain rfl : q = true := HQ.out.symm.trans (decide_eq_true ⟨h1, h2⟩)
      have d1 : decide (k ≤ 14) = true := decide_eq_true h2
      go_enter Tryz.func103, Tryz.ntmps103
      go_wp2
      go_ret
      exact ⟨rfl, rfl⟩
    · obtain rfl : q = false := HQ.out.symm.trans (decide_eq_false (by omega))
      have d1 : decide (k ≤ 14) = false := decide_eq_false h2
      go_enter Tryz.func103, Tryz.ntmps103
      go_wp2
      go_ret
      exact ⟨rfl, rfl⟩
  · obtain rfl : q = false := HQ.out.symm.trans (decide_eq_false (by omega))
    have d1 : decide (1 ≤ k) = false := decide_eq_false h1
    go_enter Tryz.func103, Tryz.ntmps103
    go_wp2
    go_ret
    exact ⟨rfl, rfl⟩
set_option maxHeartbeats 8000000 in
theorem users48 (A : Option Addr) (n c : Nat) (us : List (ByteArray × Int)) (w : World) (h : Rws w A n c 2 (rowU (fU us))) (hl : us.length = n) (hf : ∀ p ∈ us, p.1.size ≤ 9223372036854775807 ∧ i64B p.2) : Calls Tryz.prog 215 #[.slice A n c] w fun e w' => e = .returned (.int .i64 (chkU us)) ∧ Below w.heap.size w w' := by
  have hbig := h.big
  unfold maxLen at hbig
  have HC := Lib.hid (show chkU us = if 100 < us.length then 7 else chkUs none us from rfl)
  generalize chkU us = r at HC ⊢
  have H := Lib.hid h
  have HL := Lib.hid hl
  have HF := Lib.hid hf
  by_cases hn : (100 : Int) < (n : Int)
  · have HE := Lib.hid (HC.out.trans (if_pos (by omega)))
    clear h hl hf
    go_enter Tryz.func215, Tryz.ntmps215
    go_wp2
    go_ret
    exact ⟨ret_i HE.out, Below.refl _ _⟩
  · have HE := Lib.hid (HC.out.trans (if_neg (by omega)))
    clear h hl hf HC
    go_enter Tryz.func215, Tryz.ntmps215
    go_wp2
    go_loopg [11] n (fun gg s11 wr => ∃ (k : Nat), k ≤ n ∧ n - k ≤ gg ∧ s11 = .int .i64 (k : Int) ∧ Hid (r = chkUs (prU us k) (us.drop k)) ∧ Hid (Below w.heap.size w wr))
    case atStart => exact ⟨0, Nat.zero_le _, by omega, by go_num, HE, Lib.hid (Below.refl _ _)⟩
    case round =>
      clear HE
      obtain ⟨k, hk, hg, rfl, HR, BW⟩ := hrel
      by_cases hlt : k < n
      · have hltz : (k : Int) < (n : Int) := by omega
        have hk0 : (0 : Int) ≤ (k : Int) := by omega
        have hku : k < us.length := by have := HL.out; omega
        have HS := Lib.hid (HR.out.trans (stepU hku))
        have HPr := Lib.hid (fun (h0 : 0 < k) => (H.out.below BW.out).user (j := k - 1) (by omega))
        obtain ⟨b, off, rfl, hb0, hr⟩ := (H.out.below BW.out).get hlt
        have HB0 := Lib.hid hb0
        clear hb0
        have HP := Lib.hid (HF.out _ (by rw [fU_at hku]; exact List.getElem_mem hku) : (fU us k).1.size ≤ 9223372036854775807 ∧ i64B (fU us k).2)
        have RG := Lib.hid (show World.rangeAt wr b (off + k * 2) [.string (fU us k).1, .int .i64 (fU us k).2] from hr)
        have HLe := Lib.hid (fun (h0 : ¬ 0 < k) => leO_none (x := (fU us k).1) (us := us) h0)
        have HLs := Lib.hid (fun (h0 : 0 < k) => leO_some (x := (fU us k).1) (us := us) h0)
        clear hr HR hku
        generalize hfu : fU us k = p at RG HP HS HLe HLs
        obtain ⟨u, z⟩ := p
        dsimp only at RG HP HS HLe HLs
        have HU := Lib.hid HP.out.1
        clear HP hfu
        rcases hq : I.mkd 64 (bys u) with _ | _
        · have HQ := Lib.hid hq
          have HE := Lib.hid (HS.out.trans (if_pos hq))
          clear hq HS
          go_wp2_with (first
            | (refine wpList_load_mid rfl 73 _ rfl b (off + k * 2) rfl [.string u, .int .i64 z] _ RG.out Tryz.underlying73 rfl size60 ?_)
            | (refine store_as rfl 73 _ _ rfl [.string ⟨#[]⟩, .int .i64 0] [.string u, .int .i64 z] rfl rfl rfl size60 (by simp [Value.oneCell']) ?_; intro w1 hx hb; have X1 := Lib.hid hx; have C1 := Lib.hid hb; have B1 := Lib.hid (BW.out.trans (hb.mono BW.out.size)); clear hx hb; have x0 := X1.out.cell (i := 0) rfl; have x1 := X1.out.cell (i := 1) rfl)
            | (go_at_call 91; (with_reducible refine (user_no u HU.out HQ.out _).mono ?_); rintro e w2 ⟨rfl, hb⟩; have X2 := Lib.hid (X1.out.below hb); have B2 := Lib.hid (B1.out.trans (hb.mono B1.out.size)); have C2 := Lib.hid (C1.out.trans (hb.mono C1.out.size)); clear hb x0 x1; have x0 := X2.out.cell (i := 0) rfl; have x1 := X2.out.cell (i := 1) rfl)
            | fail)
          go_ret
          exact ⟨ret_i HE.out, B2.out⟩
        · have HQ := Lib.hid hq
          have HS2 := Lib.hid (HS.out.trans (if_neg (by rw [hq]; simp)))
          clear hq HS
          go_upto_region 8 with (first
            | (refine wpList_load_mid rfl 73 _ rfl b (off + k * 2) rfl [.string u, .int .i64 z] _ RG.out Tryz.underlying73 rfl size60 ?_)
            | (refine store_as rfl 73 _ _ rfl [.string ⟨#[]⟩, .int .i64 0] [.string u, .int .i64 z] rfl rfl rfl size60 (by simp [Value.oneCell']) ?_; intro w1 hx hb; have X1 := Lib.hid hx; have C1 := Lib.hid hb; have B1 := Lib.hid (BW.out.trans (hb.mono BW.out.size)); clear hx hb; have x0 := X1.out.cell (i := 0) rfl; have x1 := X1.out.cell (i := 1) rfl)
            | (go_at_call 91; (with_reducible refine (user_ok u HU.out HQ.out _).mono ?_); rintro e w2 ⟨rfl, hb⟩; have X2 := Lib.hid (X1.out.below hb); have B2 := Lib.hid (B1.out.trans (hb.mono B1.out.size)); have C2 := Lib.hid (C1.out.trans (hb.mono C1.out.size)); clear hb x0 x1; have x0 := X2.out.cell (i := 0) rfl; have x1 := X2.out.cell (i := 1) rfl)
            | fail)
          by_cases h0 : 0 < k
          · have h0z : (0 : Int) < (k : Int) := by omega
            have d0 : decide (0 < k) = true := decide_eq_true h0
            have d1 : decide ((0 : Int) < (k : Int)) = true := decide_eq_true h0z
            have hk1 : ((k : Int) - 1).toNat = k - 1 := by omega
            have hk2 : (0 : Int) ≤ (k : Int) - 1 := by omega
            have hk3 : (k : Int) - 1 < (n : Int) := by omega
            have hk4 : (1 : Int) ≤ (k : Int) := by omega
            obtain ⟨b', off', hAd, hp0, _⟩ := HPr.out h0
            simp only [Option.some.injEq, Addr.mk.injEq, and_true] at hAd
            obtain ⟨rfl, rfl⟩ := hAd
            have HLt := Lib.hid (HLs.out h0)
            clear HLs HLe HPr
            have q0 : w2.cell? ⟨b, off + (k - 1) * 2, none⟩ = some (.string (fU us (k - 1)).1) := (C2.out.cell (p := ⟨b, _, none⟩) HB0.out).trans hp0
            clear hp0
            generalize (fU us (k - 1)).1 = v at q0 HLt
            unfold leS at HLt
            cases e1 : Op.bytesLess u.toList v.toList
            · cases e2 : u.toList == v.toList
              · rw [e1, e2] at HLt
                have HS3 := Lib.hid (HS2.out.trans (if_neg (by rw [HLt.out]; simp)))
                clear HS2 HLt
                go_quiet (fail)
                generalize hwd : World.drewN w2 _ = wd
                have y1 : wd.cell? ⟨wr.heap.size, 1, none⟩ = some (.int .i64 z) := by rw [← hwd]; exact x1
                have BD := Lib.hid (show Below w.heap.size w wd by rw [← hwd]; exact bel_dn B2.out _)
                clear hwd x0 x1
                rcases hz : wdB z with _ | _
                · have HV := Lib.hid hz
                  have HR2 := Lib.hid (HS3.out.trans (if_neg (by rw [hz]; simp)))
                  clear hz HS3
                  go_wp2_with (first | (go_at_call 217; (with_reducible refine (level_ok z HV.out _).mono ?_); rintro e w3 ⟨rfl, rfl⟩) | fail)
                  go_roundg (n - (k + 1))
                  case measure => omega
                  case rel => exact ⟨k + 1, by omega, by omega, by go_num, HR2, BD⟩
                · have HV := Lib.hid hz
                  have HE := Lib.hid (HS3.out.trans (if_pos hz))
                  clear hz HS3
                  go_wp2_with (first | (go_at_call 217; (with_reducible refine (level_no z HV.out _).mono ?_); rintro e w3 ⟨rfl, rfl⟩) | fail)
                  go_ret
                  exact ⟨ret_i HE.out, BD.out⟩
              · rw [e1, e2] at HLt
                have HE := Lib.hid (HS2.out.trans (if_pos HLt.out))
                clear HS2 HLt
                go_quiet (fail)
                go_wp2
                go_ret
                exact ⟨ret_i HE.out, bel_dn B2.out _⟩
            · rw [e1] at HLt
              have HE := Lib.hid (HS2.out.trans (if_pos HLt.out))
              clear HS2 HLt
              go_quiet (fail)
              go_wp2
              go_ret
              exact ⟨ret_i HE.out, bel_dn B2.out _⟩
          · have h0z : ¬ (0 : Int) < (k : Int) := by omega
            have d0 : decide (0 < k) = false := decide_eq_false h0
            have d1 : decide ((0 : Int) < (k : Int)) = false := decide_eq_false h0z
            have HLt := Lib.hid (HLe.out h0)
            clear HLs HLe HPr
            have HS3 := Lib.hid (HS2.out.trans (if_neg (by rw [HLt.out]; simp)))
            clear HS2 HLt
            go_quiet (fail)
            generalize hwd : World.drewN w2 _ = wd
            have y1 : wd.cell? ⟨wr.heap.size, 1, none⟩ = some (.int .i64 z) := by rw [← hwd]; exact x1
            have BD := Lib.hid (show Below w.heap.size w wd by rw [← hwd]; exact bel_dn B2.out _)
            clear hwd x0 x1
            rcases hz : wdB z with _ | _
            · have HV := Lib.hid hz
              have HR2 := Lib.hid (HS3.out.trans (if_neg (by rw [hz]; simp)))
              clear hz HS3
              go_wp2_with (first | (go_at_call 217; (with_reducible refine (level_ok z HV.out _).mono ?_); rintro e w3 ⟨rfl, rfl⟩) | fail)
              go_roundg (n - (k + 1))
              case measure => omega
              case rel => exact ⟨k + 1, by omega, by omega, by go_num, HR2, BD⟩
            · have HV := Lib.hid hz
              have HE := Lib.hid (HS3.out.trans (if_pos hz))
              clear hz HS3
              go_wp2_with (first | (go_at_call 217; (with_reducible refine (level_no z HV.out _).mono ?_); rintro e w3 ⟨rfl, rfl⟩) | fail)
              go_ret
              exact ⟨ret_i HE.out, BD.out⟩
      · have hltz : ¬ (k : Int) < (n : Int) := by omega
        have HE := Lib.hid (HR.out.trans (doneU (by have := HL.out; omega)))
        go_wp2
        go_ret
        exact ⟨ret_i HE.out, BW.out⟩
set_option maxHeartbeats 8000000 in
theorem kinds49 (A : Option Addr) (n c : Nat) (us : List (Int × Int)) (w : World) (h : Rws w A n c 2 (rowK (fK us))) (hl : us.length = n) (hf : ∀ p ∈ us, i64B p.1 ∧ i64B p.2) : Calls Tryz.prog 216 #[.slice A n c] w fun e w' => e = .returned (.int .i64 (chkK us)) ∧ Below w.heap.size w w' := by
  have hbig := h.big
  unfold maxLen at hbig
  have HC := Lib.hid (show chkK us = if 100 < us.length then 7 else chkKs none us from rfl)
  generalize chkK us = r at HC ⊢
  have H := Lib.hid h
  have HL := Lib.hid hl
  have HF := Lib.hid hf
  by_cases hn : (100 : Int) < (n : Int)
  · have HE := Lib.hid (HC.out.trans (if_pos (by omega)))
    clear h hl hf
    go_enter Tryz.func216, Tryz.ntmps216
    go_wp2
    go_ret
    exact ⟨ret_i HE.out, Below.refl _ _⟩
  · have HE := Lib.hid (HC.out.trans (if_neg (by omega)))
    clear h hl hf HC
    go_enter Tryz.func216, Tryz.ntmps216
    go_wp2
    go_loopg [11] n (fun gg s11 wr => ∃ (k : Nat), k ≤ n ∧ n - k ≤ gg ∧ s11 = .int .i64 (k : Int) ∧ Hid (r = chkKs (prK us k) (us.drop k)) ∧ Hid (Below w.heap.size w wr))
    case atStart => exact ⟨0, Nat.zero_le _, by omega, by go_num, HE, Lib.hid (Below.refl _ _)⟩
    case round =>
      clear HE
      obtain ⟨k, hk, hg, rfl, HR, BW⟩ := hrel
      by_cases hlt : k < n
      · have hltz : (k : Int) < (n : Int) := by omega
        have hk0 : (0 : Int) ≤ (k : Int) := by omega
        have hku : k < us.length := by have := HL.out; omega
        have HS := Lib.hid (HR.out.trans (stepK hku))
        have HPr := Lib.hid (fun (h0 : 0 < k) => (H.out.below BW.out).kind (j := k - 1) (by omega))
        obtain ⟨b, off, rfl, hb0, hr⟩ := (H.out.below BW.out).get hlt
        have HB0 := Lib.hid hb0
        clear hb0
        have HP := Lib.hid (HF.out _ (by rw [fK_at hku]; exact List.getElem_mem hku) : i64B (fK us k).1 ∧ i64B (fK us k).2)
        have RG := Lib.hid (show World.rangeAt wr b (off + k * 2) [.int .i64 (fK us k).1, .int .i64 (fK us k).2] from hr)
        have HLe := Lib.hid (fun (h0 : ¬ 0 < k) => leI_none (x := (fK us k).1) (us := us) h0)
        have HLs := Lib.hid (fun (h0 : 0 < k) => leI_some (x := (fK us k).1) (us := us) h0)
        clear hr HR hku
        generalize hfu : fK us k = p at RG HP HS HLe HLs
        obtain ⟨u, z⟩ := p
        dsimp only at RG HP HS HLe HLs
        have HU := Lib.hid HP.out.1
        clear HP hfu
        rcases hq : kdB u with _ | _
        · have HQ := Lib.hid hq
          have HE := Lib.hid (HS.out.trans (if_pos hq))
          clear hq HS
          go_wp2_with (first
            | (refine wpList_load_mid rfl 131 _ rfl b (off + k * 2) rfl [.int .i64 u, .int .i64 z] _ RG.out Tryz.underlying131 rfl size88 ?_)
            | (refine store_as rfl 131 _ _ rfl [.int .i64 0, .int .i64 0] [.int .i64 u, .int .i64 z] rfl rfl rfl size88 (by simp [Value.oneCell']) ?_; intro w1 hx hb; have X1 := Lib.hid hx; have C1 := Lib.hid hb; have B1 := Lib.hid (BW.out.trans (hb.mono BW.out.size)); clear hx hb; have x0 := X1.out.cell (i := 0) rfl; have x1 := X1.out.cell (i := 1) rfl)
            | (go_at_call 94; (with_reducible refine (kind_q 94 rfl u false HQ.out _).mono ?_); rintro e w2 ⟨rfl, rfl⟩)
            | fail)
          go_ret
          exact ⟨ret_i HE.out, B1.out⟩
        · have HQ := Lib.hid hq
          have HS2 := Lib.hid (HS.out.trans (if_neg (by rw [hq]; simp)))
          clear hq HS
          go_upto_region 8 with (first
            | (refine wpList_load_mid rfl 131 _ rfl b (off + k * 2) rfl [.int .i64 u, .int .i64 z] _ RG.out Tryz.underlying131 rfl size88 ?_)
            | (refine store_as rfl 131 _ _ rfl [.int .i64 0, .int .i64 0] [.int .i64 u, .int .i64 z] rfl rfl rfl size88 (by simp [Value.oneCell']) ?_; intro w1 hx hb; have X1 := Lib.hid hx; have C1 := Lib.hid hb; have B1 := Lib.hid (BW.out.trans (hb.mono BW.out.size)); clear hx hb; have x0 := X1.out.cell (i := 0) rfl; have x1 := X1.out.cell (i := 1) rfl)
            | (go_at_call 94; (with_reducible refine (kind_q 94 rfl u true HQ.out _).mono ?_); rintro e w2 ⟨rfl, rfl⟩)
            | fail)
          by_cases h0 : 0 < k
          · have h0z : (0 : Int) < (k : Int) := by omega
            have d0 : decide (0 < k) = true := decide_eq_true h0
            have d1 : decide ((0 : Int) < (k : Int)) = true := decide_eq_true h0z
            have hk1 : ((k : Int) - 1).toNat = k - 1 := by omega
            have hk2 : (0 : Int) ≤ (k : Int) - 1 := by omega
            have hk3 : (k : Int) - 1 < (n : Int) := by omega
            have hk4 : (1 : Int) ≤ (k : Int) := by omega
            obtain ⟨b', off', hAd, hp0, _⟩ := HPr.out h0
            simp only [Option.some.injEq, Addr.mk.injEq, and_true] at hAd
            obtain ⟨rfl, rfl⟩ := hAd
            have HLt := Lib.hid (HLs.out h0)
            clear HLs HLe HPr
            have q0 : w1.cell? ⟨b, off + (k - 1) * 2, none⟩ = some (.int .i64 (fK us (k - 1)).1) := (C1.out.cell (p := ⟨b, _, none⟩) HB0.out).trans hp0
            clear hp0
            generalize (fK us (k - 1)).1 = v at q0 HLt
            by_cases e1 : u ≤ v
            · rw [decide_eq_true e1] at HLt
              have HE := Lib.hid (HS2.out.trans (if_pos HLt.out))
              clear HS2 HLt
              go_quiet (fail)
              go_wp2
              go_ret
              exact ⟨ret_i HE.out, bel_dn B1.out _⟩
            · rw [decide_eq_false e1] at HLt
              have HS3 := Lib.hid (HS2.out.trans (if_neg (by rw [HLt.out]; simp)))
              clear HS2 HLt
              go_quiet (fail)
              generalize hwd : World.drewN w1 _ = wd
              have y1 : wd.cell? ⟨wr.heap.size, 1, none⟩ = some (.int .i64 z) := by rw [← hwd]; exact x1
              have BD := Lib.hid (show Below w.heap.size w wd by rw [← hwd]; exact bel_dn B1.out _)
              clear hwd x0 x1
              rcases hz : wdB z with _ | _
              · have HV := Lib.hid hz
                have HR2 := Lib.hid (HS3.out.trans (if_neg (by rw [hz]; simp)))
                clear hz HS3
                go_wp2_with (first | (go_at_call 217; (with_reducible refine (level_ok z HV.out _).mono ?_); rintro e w3 ⟨rfl, rfl⟩) | fail)
                go_roundg (n - (k + 1))
                case measure => omega
                case rel => exact ⟨k + 1, by omega, by omega, by go_num, HR2, BD⟩
              · have HV := Lib.hid hz
                have HE := Lib.hid (HS3.out.trans (if_pos hz))
                clear hz HS3
                go_wp2_with (first | (go_at_call 217; (with_reducible refine (level_no z HV.out _).mono ?_); rintro e w3 ⟨rfl, rfl⟩) | fail)
                go_ret
                exact ⟨ret_i HE.out, BD.out⟩
          · have h0z : ¬ (0 : Int) < (k : Int) := by omega
            have d0 : decide (0 < k) = false := decide_eq_false h0
            have d1 : decide ((0 : Int) < (k : Int)) = false := decide_eq_false h0z
            have HLt := Lib.hid (HLe.out h0)
            clear HLs HLe HPr
            have HS3 := Lib.hid (HS2.out.trans (if_neg (by rw [HLt.out]; simp)))
            clear HS2 HLt
            go_quiet (fail)
            generalize hwd : World.drewN w1 _ = wd
            have y1 : wd.cell? ⟨wr.heap.size, 1, none⟩ = some (.int .i64 z) := by rw [← hwd]; exact x1
            have BD := Lib.hid (show Below w.heap.size w wd by rw [← hwd]; exact bel_dn B1.out _)
            clear hwd x0 x1
            rcases hz : wdB z with _ | _
            · have HV := Lib.hid hz
              have HR2 := Lib.hid (HS3.out.trans (if_neg (by rw [hz]; simp)))
              clear hz HS3
              go_wp2_with (first | (go_at_call 217; (with_reducible refine (level_ok z HV.out _).mono ?_); rintro e w3 ⟨rfl, rfl⟩) | fail)
              go_roundg (n - (k + 1))
              case measure => omega
              case rel => exact ⟨k + 1, by omega, by omega, by go_num, HR2, BD⟩
            · have HV := Lib.hid hz
              have HE := Lib.hid (HS3.out.trans (if_pos hz))
              clear hz HS3
              go_wp2_with (first | (go_at_call 217; (with_reducible refine (level_no z HV.out _).mono ?_); rintro e w3 ⟨rfl, rfl⟩) | fail)
              go_ret
              exact ⟨ret_i HE.out, BD.out⟩
      · have hltz : ¬ (k : Int) < (n : Int) := by omega
        have HE := Lib.hid (HR.out.trans (doneK (by have := HL.out; omega)))
        go_wp2
        go_ret
        exact ⟨ret_i HE.out, BW.out⟩
end Go.Proofs.YtablocpcgknmaaaGreatDoor
namespace Go.Proofs.YtablocpcgknmaaaGreatDoor
open Go Go.RowKit
set_option linter.unusedVariables false
set_option linter.unusedSimpArgs false
set_option maxRecDepth 100000

theorem wide_q (n : Int) (q : Bool) (hq : wdB n = q) (w : World) : Calls Tryz.prog 179 #[.int .i64 n] w fun e w' => e = .returned (.bool q) ∧ w = w' := by
  have := wide54 n w
  rwa [hq] at this
set_option maxHeartbeats 8000000 in
theorem users52 (A : Option Addr) (n c : Nat) (us : List (ByteArray × Int)) (w : World) (h : Rws w A n c 2 (rowU (fU us))) (hl : us.length = n) (hf : ∀ p ∈ us, p.1.size ≤ 9223372036854775807 ∧ i64B p.2) : Calls Tryz.prog 177 #[.slice A n c] w fun e w' => e = .returned (.int .i64 (chkU us)) ∧ Below w.heap.size w w' := by
  have hbig := h.big
  unfold maxLen at hbig
  have HC := Lib.hid (show chkU us = if 100 < us.length then 7 else chkUs none us from rfl)
  generalize chkU us = r at HC ⊢
  have H := Lib.hid h
  have HL := Lib.hid hl
  have HF := Lib.hid hf
  by_cases hn : (100 : Int) < (n : Int)
  · have HE := Lib.hid (HC.out.trans (if_pos (by omega)))
    clear h hl hf
    go_enter Tryz.func177, Tryz.ntmps177
    go_wp2
    go_ret
    exact ⟨ret_i HE.out, Below.refl _ _⟩
  · have HE := Lib.hid (HC.out.trans (if_neg (by omega)))
    clear h hl hf HC
    go_enter Tryz.func177, Tryz.ntmps177
    go_wp2
    go_loopg [3] n (fun gg s3 wr => ∃ (k : Nat), k ≤ n ∧ n - k ≤ gg ∧ s3 = .int .i64 (k : Int) ∧ Hid (r = chkUs (prU us k) (us.drop k)) ∧ Hid (Below w.heap.size w wr))
    case atStart => exact ⟨0, Nat.zero_le _, by omega, by go_num, HE, Lib.hid (Below.refl _ _)⟩
    case round =>
      clear HE
      obtain ⟨k, hk, hg, rfl, HR, BW⟩ := hrel
      by_cases hlt : k < n
      · have hltz : (k : Int) < (n : Int) := by omega
        have hk0 : (0 : Int) ≤ (k : Int) := by omega
        have hku : k < us.length := by have := HL.out; omega
        have HS := Lib.hid (HR.out.trans (stepU hku))
        have HPr := Lib.hid (fun (h0 : 0 < k) => (H.out.below BW.out).user (j := k - 1) (by omega))
        obtain ⟨b, off, rfl, x0, x1⟩ := (H.out.below BW.out).user hlt
        have HP := Lib.hid (HF.out _ (by rw [fU_at hku]; exact List.getElem_mem hku) : (fU us k).1.size ≤ 9223372036854775807 ∧ i64B (fU us k).2)
        have HLe := Lib.hid (fun (h0 : ¬ 0 < k) => leO_none (x := (fU us k).1) (us := us) h0)
        have HLs := Lib.hid (fun (h0 : 0 < k) => leO_some (x := (fU us k).1) (us := us) h0)
        clear HR hku
        generalize hfu : fU us k = p at x0 x1 HP HS HLe HLs
        obtain ⟨u, z⟩ := p
        dsimp only at x0 x1 HP HS HLe HLs
        have HU := Lib.hid HP.out.1
        clear HP hfu
        rcases hq : I.mkd 64 (bys u) with _ | _
        · have HQ := Lib.hid hq
          have HE := Lib.hid (HS.out.trans (if_pos hq))
          clear hq HS
          go_wp2_with (first | (go_at_call 100; (with_reducible refine (ruser_no u HU.out HQ.out _).mono ?_); rintro e w2 ⟨rfl, rfl⟩) | fail)
          go_ret
          exact ⟨ret_i HE.out, BW.out⟩
        · have HQ := Lib.hid hq
          have HS2 := Lib.hid (HS.out.trans (if_neg (by rw [hq]; simp)))
          clear hq HS
          go_upto_region 7 with (first | (go_at_call 100; (with_reducible refine (ruser_ok u HU.out HQ.out _).mono ?_); rintro e w2 ⟨rfl, rfl⟩) | fail)
          by_cases h0 : 0 < k
          · have h0z : (0 : Int) < (k : Int) := by omega
            have d0 : decide (0 < k) = true := decide_eq_true h0
            have d1 : decide ((0 : Int) < (k : Int)) = true := decide_eq_true h0z
            have hk1 : ((k : Int) - 1).toNat = k - 1 := by omega
            have hk2 : (0 : Int) ≤ (k : Int) - 1 := by omega
            have hk3 : (k : Int) - 1 < (n : Int) := by omega
            have hk4 : (1 : Int) ≤ (k : Int) := by omega
            obtain ⟨b', off', hAd, q0, _⟩ := HPr.out h0
            simp only [Option.some.injEq, Addr.mk.injEq, and_true] at hAd
            obtain ⟨rfl, rfl⟩ := hAd
            have HLt := Lib.hid (HLs.out h0)
            clear HLs HLe HPr
            generalize (fU us (k - 1)).1 = v at q0 HLt
            unfold leS at HLt
            cases e1 : Op.bytesLess u.toList v.toList
            · cases e2 : u.toList == v.toList
              · rw [e1, e2] at HLt
                have HS3 := Lib.hid (HS2.out.trans (if_neg (by rw [HLt.out]; simp)))
                clear HS2 HLt
                go_quiet (fail)
                generalize hwd : World.drewN wr _ = wd
                have y0 : wd.cell? ⟨b, off + k * 2 + 1, none⟩ = some (.int .i64 z) := by rw [← hwd]; exact x1
                have BD := Lib.hid (show Below w.heap.size w wd by rw [← hwd]; exact bel_dn BW.out _)
                clear hwd x0 x1
                rcases hz : wdB z with _ | _
                · have HV := Lib.hid hz
                  have HR2 := Lib.hid (HS3.out.trans (if_neg (by rw [hz]; simp)))
                  clear hz HS3
                  go_wp2_with (first | (go_at_call 179; (with_reducible refine (wide_q z _ HV.out _).mono ?_); rintro e w3 ⟨rfl, rfl⟩) | fail)
                  go_roundg (n - (k + 1))
                  case measure => omega
                  case rel => exact ⟨k + 1, by omega, by omega, by go_num, HR2, BD⟩
                · have HV := Lib.hid hz
                  have HE := Lib.hid (HS3.out.trans (if_pos hz))
                  clear hz HS3
                  go_wp2_with (first | (go_at_call 179; (with_reducible refine (wide_q z _ HV.out _).mono ?_); rintro e w3 ⟨rfl, rfl⟩) | fail)
                  go_ret
                  exact ⟨ret_i HE.out, BD.out⟩
              · rw [e1, e2] at HLt
                have HE := Lib.hid (HS2.out.trans (if_pos HLt.out))
                clear HS2 HLt
                go_quiet (fail)
                go_wp2
                go_ret
                exact ⟨ret_i HE.out, bel_dn BW.out _⟩
            · rw [e1] at HLt
              have HE := Lib.hid (HS2.out.trans (if_pos HLt.out))
              clear HS2 HLt
              go_quiet (fail)
              go_wp2
              go_ret
              exact ⟨ret_i HE.out, bel_dn BW.out _⟩
          · have h0z : ¬ (0 : Int) < (k : Int) := by omega
            have d0 : decide (0 < k) = false := decide_eq_false h0
            have d1 : decide ((0 : Int) < (k : Int)) = false := decide_eq_false h0z
            have HLt := Lib.hid (HLe.out h0)
            clear HLs HLe HPr
            have HS3 := Lib.hid (HS2.out.trans (if_neg (by rw [HLt.out]; simp)))
            clear HS2 HLt
            go_quiet (fail)
            generalize hwd : World.drewN wr _ = wd
            have y0 : wd.cell? ⟨b, off + k * 2 + 1, none⟩ = some (.int .i64 z) := by rw [← hwd]; exact x1
            have BD := Lib.hid (show Below w.heap.size w wd by rw [← hwd]; exact bel_dn BW.out _)
            clear hwd x0 x1
            rcases hz : wdB z with _ | _
            · have HV := Lib.hid hz
              have HR2 := Lib.hid (HS3.out.trans (if_neg (by rw [hz]; simp)))
              clear hz HS3
              go_wp2_with (first | (go_at_call 179; (with_reducible refine (wide_q z _ HV.out _).mono ?_); rintro e w3 ⟨rfl, rfl⟩) | fail)
              go_roundg (n - (k + 1))
              case measure => omega
              case rel => exact ⟨k + 1, by omega, by omega, by go_num, HR2, BD⟩
            · have HV := Lib.hid hz
              have HE := Lib.hid (HS3.out.trans (if_pos hz))
              clear hz HS3
              go_wp2_with (first | (go_at_call 179; (with_reducible refine (wide_q z _ HV.out _).mono ?_); rintro e w3 ⟨rfl, rfl⟩) | fail)
              go_ret
              exact ⟨ret_i HE.out, BD.out⟩
      · have hltz : ¬ (k : Int) < (n : Int) := by omega
        have HE := Lib.hid (HR.out.trans (doneU (by have := HL.out; omega)))
        go_wp2
        go_ret
        exact ⟨ret_i HE.out, BW.out⟩
set_option maxHeartbeats 8000000 in
theorem kinds53 (A : Option Addr) (n c : Nat) (us : List (Int × Int)) (w : World) (h : Rws w A n c 2 (rowK (fK us))) (hl : us.length = n) (hf : ∀ p ∈ us, i64B p.1 ∧ i64B p.2) : Calls Tryz.prog 178 #[.slice A n c] w fun e w' => e = .returned (.int .i64 (chkK us)) ∧ Below w.heap.size w w' := by
  have hbig := h.big
  unfold maxLen at hbig
  have HC := Lib.hid (show chkK us = if 100 < us.length then 7 else chkKs none us from rfl)
  generalize chkK us = r at HC ⊢
  have H := Lib.hid h
  have HL := Lib.hid hl
  have HF := Lib.hid hf
  by_cases hn : (100 : Int) < (n : Int)
  · have HE := Lib.hid (HC.out.trans (if_pos (by omega)))
    clear h hl hf
    go_enter Tryz.func178, Tryz.ntmps178
    go_wp2
    go_ret
    exact ⟨ret_i HE.out, Below.refl _ _⟩
  · have HE := Lib.hid (HC.out.trans (if_neg (by omega)))
    clear h hl hf HC
    go_enter Tryz.func178, Tryz.ntmps178
    go_wp2
    go_loopg [3] n (fun gg s3 wr => ∃ (k : Nat), k ≤ n ∧ n - k ≤ gg ∧ s3 = .int .i64 (k : Int) ∧ Hid (r = chkKs (prK us k) (us.drop k)) ∧ Hid (Below w.heap.size w wr))
    case atStart => exact ⟨0, Nat.zero_le _, by omega, by go_num, HE, Lib.hid (Below.refl _ _)⟩
    case round =>
      clear HE
      obtain ⟨k, hk, hg, rfl, HR, BW⟩ := hrel
      by_cases hlt : k < n
      · have hltz : (k : Int) < (n : Int) := by omega
        have hk0 : (0 : Int) ≤ (k : Int) := by omega
        have hku : k < us.length := by have := HL.out; omega
        have HS := Lib.hid (HR.out.trans (stepK hku))
        have HPr := Lib.hid (fun (h0 : 0 < k) => (H.out.below BW.out).kind (j := k - 1) (by omega))
        obtain ⟨b, off, rfl, x0, x1⟩ := (H.out.below BW.out).kind hlt
        have HP := Lib.hid (HF.out _ (by rw [fK_at hku]; exact List.getElem_mem hku) : i64B (fK us k).1 ∧ i64B (fK us k).2)
        have HLe := Lib.hid (fun (h0 : ¬ 0 < k) => leI_none (x := (fK us k).1) (us := us) h0)
        have HLs := Lib.hid (fun (h0 : 0 < k) => leI_some (x := (fK us k).1) (us := us) h0)
        clear HR hku
        generalize hfu : fK us k = p at x0 x1 HP HS HLe HLs
        obtain ⟨u, z⟩ := p
        dsimp only at x0 x1 HP HS HLe HLs
        have HU := Lib.hid HP.out.1
        clear HP hfu
        rcases hq : kdB u with _ | _
        · have HQ := Lib.hid hq
          have HE := Lib.hid (HS.out.trans (if_pos hq))
          clear hq HS
          go_wp2_with (first | (go_at_call 103; (with_reducible refine (known_q 103 rfl u false HQ.out _).mono ?_); rintro e w2 ⟨rfl, rfl⟩) | fail)
          go_ret
          exact ⟨ret_i HE.out, BW.out⟩
        · have HQ := Lib.hid hq
          have HS2 := Lib.hid (HS.out.trans (if_neg (by rw [hq]; simp)))
          clear hq HS
          go_upto_region 7 with (first | (go_at_call 103; (with_reducible refine (known_q 103 rfl u true HQ.out _).mono ?_); rintro e w2 ⟨rfl, rfl⟩) | fail)
          by_cases h0 : 0 < k
          · have h0z : (0 : Int) < (k : Int) := by omega
            have d0 : decide (0 < k) = true := decide_eq_true h0
            have d1 : decide ((0 : Int) < (k : Int)) = true := decide_eq_true h0z
            have hk1 : ((k : Int) - 1).toNat = k - 1 := by omega
            have hk2 : (0 : Int) ≤ (k : Int) - 1 := by omega
            have hk3 : (k : Int) - 1 < (n : Int) := by omega
            have hk4 : (1 : Int) ≤ (k : Int) := by omega
            obtain ⟨b', off', hAd, q0, _⟩ := HPr.out h0
            simp only [Option.some.injEq, Addr.mk.injEq, and_true] at hAd
            obtain ⟨rfl, rfl⟩ := hAd
            have HLt := Lib.hid (HLs.out h0)
            clear HLs HLe HPr
            generalize (fK us (k - 1)).1 = v at q0 HLt
            by_cases e1 : u ≤ v
            · rw [decide_eq_true e1] at HLt
              have HE := Lib.hid (HS2.out.trans (if_pos HLt.out))
              clear HS2 HLt
              go_quiet (fail)
              go_wp2
              go_ret
              exact ⟨ret_i HE.out, bel_dn BW.out _⟩
            · rw [decide_eq_false e1] at HLt
              have HS3 := Lib.hid (HS2.out.trans (if_neg (by rw [HLt.out]; simp)))
              clear HS2 HLt
              go_quiet (fail)
              generalize hwd : World.drewN wr _ = wd
              have y0 : wd.cell? ⟨b, off + k * 2 + 1, none⟩ = some (.int .i64 z) := by rw [← hwd]; exact x1
              have BD := Lib.hid (show Below w.heap.size w wd by rw [← hwd]; exact bel_dn BW.out _)
              clear hwd x0 x1
              rcases hz : wdB z with _ | _
              · have HV := Lib.hid hz
                have HR2 := Lib.hid (HS3.out.trans (if_neg (by rw [hz]; simp)))
                clear hz HS3
                go_wp2_with (first | (go_at_call 179; (with_reducible refine (wide_q z _ HV.out _).mono ?_); rintro e w3 ⟨rfl, rfl⟩) | fail)
                go_roundg (n - (k + 1))
                case measure => omega
                case rel => exact ⟨k + 1, by omega, by omega, by go_num, HR2, BD⟩
              · have HV := Lib.hid hz
                have HE := Lib.hid (HS3.out.trans (if_pos hz))
                clear hz HS3
                go_wp2_with (first | (go_at_call 179; (with_reducible refine (wide_q z _ HV.out _).mono ?_); rintro e w3 ⟨rfl, rfl⟩) | fail)
                go_ret
                exact ⟨ret_i HE.out, BD.out⟩
          · have h0z : ¬ (0 : Int) < (k : Int) := by omega
            have d0 : decide (0 < k) = false := decide_eq_false h0
            have d1 : decide ((0 : Int) < (k : Int)) = false := decide_eq_false h0z
            have HLt := Lib.hid (HLe.out h0)
            clear HLs HLe HPr
            have HS3 := Lib.hid (HS2.out.trans (if_neg (by rw [HLt.out]; simp)))
            clear HS2 HLt
            go_quiet (fail)
            generalize hwd : World.drewN wr _ = wd
            have y0 : wd.cell? ⟨b, off + k * 2 + 1, none⟩ = some (.int .i64 z) := by rw [← hwd]; exact x1
            have BD := Lib.hid (show Below w.heap.size w wd by rw [← hwd]; exact bel_dn BW.out _)
            clear hwd x0 x1
            rcases hz : wdB z with _ | _
            · have HV := Lib.hid hz
              have HR2 := Lib.hid (HS3.out.trans (if_neg (by rw [hz]; simp)))
              clear hz HS3
              go_wp2_with (first | (go_at_call 179; (with_reducible refine (wide_q z _ HV.out _).mono ?_); rintro e w3 ⟨rfl, rfl⟩) | fail)
              go_roundg (n - (k + 1))
              case measure => omega
              case rel => exact ⟨k + 1, by omega, by omega, by go_num, HR2, BD⟩
            · have HV := Lib.hid hz
              have HE := Lib.hid (HS3.out.trans (if_pos hz))
              clear hz HS3
              go_wp2_with (first | (go_at_call 179; (with_reducible refine (wide_q z _ HV.out _).mono ?_); rintro e w3 ⟨rfl, rfl⟩) | fail)
              go_ret
              exact ⟨ret_i HE.out, BD.out⟩
      · have hltz : ¬ (k : Int) < (n : Int) := by omega
        have HE := Lib.hid (HR.out.trans (doneK (by have := HL.out; omega)))
        go_wp2
        go_ret
        exact ⟨ret_i HE.out, BW.out⟩
end Go.Proofs.YtablocpcgknmaaaGreatDoor
