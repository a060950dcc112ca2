/- The fields that a kind uses; which kinds are of states. No condition. -/
import Derived.Test.YtdacjnlfjaegiaaGreatDoorPK21
import Derived.Test.YtdacjnlfjaegiaaGreatDoorPTc
namespace Go.Proofs.YtdacjnlfjaegiaaGreatDoor
open Go Go.RowKit
set_option linter.unusedVariables false
set_option linter.unusedSimpArgs false
set_option maxRecDepth 100000

def usesL (s : Int) (j : Nat) : List ByteArray := ((List.range j).filter (fun i : Nat => hasB s (i : Int))).map (fun i => nmsL.getD i ByteArray.empty)
theorem usesL_yes {s : Int} {j : Nat} (h : hasB s (j : Int) = true) : usesL s (j + 1) = usesL s j ++ [nmsL.getD j ByteArray.empty] := by
  unfold usesL
  rw [List.range_succ, List.filter_append, List.map_append]
  simp [h]
theorem usesL_no {s : Int} {j : Nat} (h : hasB s (j : Int) = false) : usesL s (j + 1) = usesL s j := by
  unfold usesL
  rw [List.range_succ, List.filter_append, List.map_append]
  simp [h]
theorem usesL_len (s : Int) (j : Nat) : (usesL s j).length ≤ j := by
  unfold usesL
  rw [List.length_map]
  exact Nat.le_trans (List.length_filter_le _ _) (Nat.le_of_eq List.length_range)
theorem ua_1 : usesL (usT 1) 8 = unL 1 := by kernel_rfl
theorem ua_2 : usesL (usT 2) 8 = unL 2 := by kernel_rfl
theorem ua_3 : usesL (usT 3) 8 = unL 3 := by kernel_rfl
theorem ua_4 : usesL (usT 4) 8 = unL 4 := by kernel_rfl
theorem ua_5 : usesL (usT 5) 8 = unL 5 := by kernel_rfl
theorem ua_6 : usesL (usT 6) 8 = unL 6 := by kernel_rfl
theorem ua_7 : usesL (usT 7) 8 = unL 7 := by kernel_rfl
theorem ua_8 : usesL (usT 8) 8 = unL 8 := by kernel_rfl
theorem ua_9 : usesL (usT 9) 8 = unL 9 := by kernel_rfl
theorem ua_10 : usesL (usT 10) 8 = unL 10 := by kernel_rfl
theorem ua_11 : usesL (usT 11) 8 = unL 11 := by kernel_rfl
theorem ua_12 : usesL (usT 12) 8 = unL 12 := by kernel_rfl
theorem ua_13 : usesL (usT 13) 8 = unL 13 := by kernel_rfl
theorem ua_14 : usesL (usT 14) 8 = unL 14 := by kernel_rfl
theorem usesL_all {k : Int} (hk : kdB k = true) : usesL (usT k) 8 = unL k := by
  have := of_decide_eq_true hk
  rcases (show k = 1 ∨ k = 2 ∨ k = 3 ∨ k = 4 ∨ k = 5 ∨ k = 6 ∨ k = 7 ∨ k = 8 ∨ k = 9 ∨ k = 10 ∨ k = 11 ∨ k = 12 ∨ k = 13 ∨ k = 14 by omega) with rfl | rfl | rfl | rfl | rfl | rfl | rfl | rfl | rfl | rfl | rfl | rfl | rfl | rfl
  · exact ua_1
  · exact ua_2
  · exact ua_3
  · exact ua_4
  · exact ua_5
  · exact ua_6
  · exact ua_7
  · exact ua_8
  · exact ua_9
  · exact ua_10
  · exact ua_11
  · exact ua_12
  · exact ua_13
  · exact ua_14
theorem flat_str (zs : List ByteArray) : flat zs.length (rowS zs) = zs.map .string := by
  refine List.ext_getElem? (fun i => ?_)
  by_cases hi : i < zs.length
  · have := flat_get (n := zs.length) (sz := 1) (L := rowS zs) (fun j hj => rfl) hi (show 0 < 1 by decide)
    rw [Nat.mul_one, Nat.add_zero] at this
    rw [this, List.getElem?_map, List.getElem?_eq_getElem hi]
    unfold rowS
    rw [List.getD_eq_getElem?_getD, List.getElem?_eq_getElem hi]
    rfl
  · rw [List.getElem?_eq_none (by rw [flat_len (sz := 1) (fun j hj => rfl)]; omega), List.getElem?_eq_none (by rw [List.length_map]; omega)]
theorem own_txs {w : World} {B : Nat} {A : Option Addr} {c n : Nat} {xs : List ByteArray} (h : w.ownsRow B 9 1 (.slice A n c) xs.length (xs.map Value.string)) (hn : n = xs.length) (hl : xs.length ≤ 1000) (hf : ∀ s ∈ xs, s.size ≤ 9223372036854775807) : Txs w A n c xs := by
  subst hn
  refine ⟨?_, rfl, ?_, hf⟩
  · refine own_rows (L := rowS xs) (by rw [flat_str]; exact h) (fun j hj => rfl) (fun j hj u hu => by unfold rowS at hu; rw [List.mem_singleton] at hu; rw [hu]; rfl) (by unfold maxLen; omega)
  · rcases h.2 with ⟨hv, h1⟩ | ⟨g, cap, cur, hv, _, _, hnc, _⟩
    · omega
    · simp only [Value.slice.injEq, true_and] at hv
      rw [hv.2]; exact hnc
theorem size69 : (Tryz.prog.info? 69).map (·.size) = some 8 := by kernel_rfl
theorem nms_fit : ∀ s ∈ nmsL, s.size ≤ 9223372036854775807 := by decide
theorem usesL_fit (s : Int) (j : Nat) : ∀ t ∈ usesL s j, t.size ≤ 9223372036854775807 := by
  intro t ht
  unfold usesL at ht
  obtain ⟨i, _, rfl⟩ := List.mem_map.1 ht
  rcases Nat.lt_or_ge i 8 with h | h
  · rw [List.getD_eq_getElem?_getD, List.getElem?_eq_getElem (show i < nmsL.length from h)]
    exact nms_fit _ (List.getElem_mem _)
  · rw [List.getD_eq_getElem?_getD, List.getElem?_eq_none (show nmsL.length ≤ i from h)]
    decide
theorem Lt.at_ {w w1 : World} {B : Nat} (h : Lt w) (hb : Below B w w1) (hB : 2 < B) : Lt w1 :=
  ⟨Nat.lt_of_lt_of_le h.lt hb.size, fun j hj => (hb.cell (p := ⟨0, j, none⟩) (by show 0 < B; omega)).trans (h.us j hj), fun j hj => (hb.cell (p := ⟨1, j, none⟩) (by show 1 < B; omega)).trans (h.kp j hj), fun j hj => (hb.cell (p := ⟨2, j, none⟩) hB).trans (h.nm j hj)⟩
theorem Lt.range69 {w : World} (h : Lt w) : World.rangeAt w 2 0 [.string nText, .string nN, .string nTarget, .string nThread, .string nVia, .string nAllow, .string nDeny, .string nLevels] := by
  intro j v hv
  rw [Nat.zero_add]
  have hj : j < 8 := by
    rcases Nat.lt_or_ge j 8 with h1 | h1
    · exact h1
    · rw [List.getElem?_eq_none (by simpa using h1)] at hv; cases hv
  rw [h.nm j hj]
  match j, hj, hv with
  | 0, _, hv => exact hv
  | 1, _, hv => exact hv
  | 2, _, hv => exact hv
  | 3, _, hv => exact hv
  | 4, _, hv => exact hv
  | 5, _, hv => exact hv
  | 6, _, hv => exact hv
  | 7, _, hv => exact hv
theorem ix69_0 (w : World) : (Instr.index 69 (.agg #[.string nText, .string nN, .string nTarget, .string nThread, .string nVia, .string nAllow, .string nDeny, .string nLevels]) (.int .i64 0)).run Tryz.prog w = .ok (.string (nmsL.getD 0 ByteArray.empty)) w := by kernel_rfl
theorem ix69_1 (w : World) : (Instr.index 69 (.agg #[.string nText, .string nN, .string nTarget, .string nThread, .string nVia, .string nAllow, .string nDeny, .string nLevels]) (.int .i64 1)).run Tryz.prog w = .ok (.string (nmsL.getD 1 ByteArray.empty)) w := by kernel_rfl
theorem ix69_2 (w : World) : (Instr.index 69 (.agg #[.string nText, .string nN, .string nTarget, .string nThread, .string nVia, .string nAllow, .string nDeny, .string nLevels]) (.int .i64 2)).run Tryz.prog w = .ok (.string (nmsL.getD 2 ByteArray.empty)) w := by kernel_rfl
theorem ix69_3 (w : World) : (Instr.index 69 (.agg #[.string nText, .string nN, .string nTarget, .string nThread, .string nVia, .string nAllow, .string nDeny, .string nLevels]) (.int .i64 3)).run Tryz.prog w = .ok (.string (nmsL.getD 3 ByteArray.empty)) w := by kernel_rfl
theorem ix69_4 (w : World) : (Instr.index 69 (.agg #[.string nText, .string nN, .string nTarget, .string nThread, .string nVia, .string nAllow, .string nDeny, .string nLevels]) (.int .i64 4)).run Tryz.prog w = .ok (.string (nmsL.getD 4 ByteArray.empty)) w := by kernel_rfl
theorem ix69_5 (w : World) : (Instr.index 69 (.agg #[.string nText, .string nN, .string nTarget, .string nThread, .string nVia, .string nAllow, .string nDeny, .string nLevels]) (.int .i64 5)).run Tryz.prog w = .ok (.string (nmsL.getD 5 ByteArray.empty)) w := by kernel_rfl
theorem ix69_6 (w : World) : (Instr.index 69 (.agg #[.string nText, .string nN, .string nTarget, .string nThread, .string nVia, .string nAllow, .string nDeny, .string nLevels]) (.int .i64 6)).run Tryz.prog w = .ok (.string (nmsL.getD 6 ByteArray.empty)) w := by kernel_rfl
theorem ix69_7 (w : World) : (Instr.index 69 (.agg #[.string nText, .string nN, .string nTarget, .string nThread, .string nVia, .string nAllow, .string nDeny, .string nLevels]) (.int .i64 7)).run Tryz.prog w = .ok (.string (nmsL.getD 7 ByteArray.empty)) w := by kernel_rfl
theorem ix69 (j : Nat) (hj : j < 8) (w : World) : (Instr.index 69 (.agg #[.string nText, .string nN, .string nTarget, .string nThread, .string nVia, .string nAllow, .string nDeny, .string nLevels]) (.int .i64 (j : Int))).run Tryz.prog w = .ok (.string (nmsL.getD j ByteArray.empty)) w := by
  match j, hj with
  | 0, _ => exact ix69_0 w
  | 1, _ => exact ix69_1 w
  | 2, _ => exact ix69_2 w
  | 3, _ => exact ix69_3 w
  | 4, _ => exact ix69_4 w
  | 5, _ => exact ix69_5 w
  | 6, _ => exact ix69_6 w
  | 7, _ => exact ix69_7 w
set_option maxHeartbeats 16000000 in
theorem uses25 (k : Int) (w : World) (hl : Lt w) : Calls Tryz.prog 25 #[.int .i64 k] w (UsP w (unL k)) := by
  unfold UsP
  have HO := Lib.hid (World.ownsRow_made (base := w.heap.size) (e := 9) (size := 1) w #[] 0 (Nat.le_refl _) (by decide) (by simp))
  have BA := Lib.hid ((Below.refl w.heap.size w).alloc (Nat.le_refl _) (.cells #[] 9))
  have HL := Lib.hid (hl.below BA.out)
  have hlw := Lib.hid hl.lt
  clear hl
  generalize hW : w.alloc (.cells #[] 9) = W0 at HO BA HL
  cases hk : kdB k with
  | false =>
    have HU := Lib.hid (unL_none (by rw [hk]; decide : ¬ kdB k = true))
    have HK := Lib.hid (fun w => kind_q 35 rfl k false hk w)
    clear hk
    generalize unL k = r at HU ⊢
    go_enter Tryz.func25, Tryz.ntmps25
    go_wp2_with (first
      | (go_at_call 35; (with_reducible refine (HK.out _).mono ?_); rintro e w2 ⟨rfl, rfl⟩)
      | fail)
    go_ret
    rw [HU.out]
    exact ⟨_, 0, rfl, ⟨Rws.zero _ _ _ _ _ (fun _ => rfl), rfl, Nat.le_refl _, by simp⟩, BA.out⟩
  | true =>
    have HU := Lib.hid (usesL_all hk)
    have HK := Lib.hid (fun w => kind_q 35 rfl k true hk w)
    obtain ⟨kn, rfl, hkn⟩ : ∃ kn : Nat, k = (kn : Int) ∧ kn < 15 := by
      have := of_decide_eq_true hk
      exact ⟨k.toNat, by omega, by omega⟩
    have hk0 : (0 : Int) ≤ (kn : Int) := by omega
    have hk1 : (kn : Int) < 15 := by omega
    clear hk
    generalize unL (kn : Int) = r at HU ⊢
    go_enter Tryz.func25, Tryz.ntmps25
    go_wp2_with (first
      | (go_at_call 35; (with_reducible refine (HK.out _).mono ?_); rintro e w2 ⟨rfl, rfl⟩)
      | (refine wpList_load_mid rfl 69 _ rfl 2 0 rfl [.string nText, .string nN, .string nTarget, .string nThread, .string nVia, .string nAllow, .string nDeny, .string nLevels] _ HL.out.range69 Tryz.underlying69 rfl size69 ?_)
      | fail)
    go_loopw [12, 3] (fun s v wr => ∃ (j : Nat) (A : Option Addr) (c : Nat), j ≤ 8 ∧ s = .int .i64 (j : Int) ∧ v = .slice A (usesL (usT (kn : Int)) j).length c ∧ Hid (wr.ownsRow w.heap.size 9 1 (.slice A (usesL (usT (kn : Int)) j).length c) (usesL (usT (kn : Int)) j).length ((usesL (usT (kn : Int)) j).map Value.string)) ∧ Hid (Below w.heap.size w wr) ∧ Hid (Lt wr)) (fun s _ _ => 8 - (intOf s).toNat)
    case atStart => exact ⟨0, _, 0, by omega, rfl, rfl, HO, BA, HL⟩
    case round =>
      clear HL HO BA hW
      obtain ⟨j, A, c, hj, rfl, rfl, OW, BR, LR⟩ := hrel
      have HLN := Lib.hid (show (usesL (usT (kn : Int)) j).length ≤ 999000 from Nat.le_trans (usesL_len _ _) (by omega))
      by_cases hlt : j < 8
      · have hltz : (j : Int) < 8 := by omega
        have hj0 : (0 : Int) ≤ (j : Int) := by omega
        have ix := ix69 j hlt
        have u0 := LR.out.us kn hkn
        rw [show usL.getD kn 0 = usT (kn : Int) from rfl] at u0
        have HH0 := Lib.hid (fun q hq w => has37 (usT (kn : Int)) (j : Int) hj0 hltz q hq w)
        cases e1 : hasB (usT (kn : Int)) (j : Int) with
        | false =>
          have HH := Lib.hid (HH0.out false e1)
          have HN := Lib.hid (usesL_no e1)
          clear HH0 e1
          generalize nmsL.getD j ByteArray.empty = nm at ix
          go_wp2_with (first
            | (go_at_call 37; (with_reducible refine (HH.out _).mono ?_); rintro e w5 ⟨rfl, rfl⟩)
            | (at_builtin; (with_reducible refine Cd.app_oneT rfl (.tmp 21) (.tmp 23) ?_ _ (usesL (usT (kn : Int)) j) ?_ OW.out BR.out.size nm _ _ ?_ HLN.out ?_); (rfl); (rfl); (rfl); intro v2 w2 hv hb; obtain ⟨A2, c2, rfl⟩ := Cd.row_shapeT hv; have OW2 := Lib.hid hv; have B2 := Lib.hid (BR.out.trans hb); have B2x := Lib.hid hb; clear hv hb)
            | fail)
          go_roundw
          case rel => exact ⟨j + 1, A, c, by omega, by go_num, by rw [HN.out], Lib.hid (by rw [HN.out]; exact OW.out), BR, LR⟩
          case measure => simp [intOf]; omega
        | true =>
          have HH := Lib.hid (HH0.out true e1)
          have HN := Lib.hid (usesL_yes e1)
          clear HH0 e1
          generalize nmsL.getD j ByteArray.empty = nm at ix HN
          go_wp2_with (first
            | (go_at_call 37; (with_reducible refine (HH.out _).mono ?_); rintro e w5 ⟨rfl, rfl⟩)
            | (at_builtin; (with_reducible refine Cd.app_oneT rfl (.tmp 21) (.tmp 23) ?_ _ (usesL (usT (kn : Int)) j) ?_ OW.out BR.out.size nm _ _ ?_ HLN.out ?_); (rfl); (rfl); (rfl); intro v2 w2 hv hb; obtain ⟨A2, c2, rfl⟩ := Cd.row_shapeT hv; have OW2 := Lib.hid hv; have B2 := Lib.hid (BR.out.trans hb); have B2x := Lib.hid hb; clear hv hb)
            | fail)
          go_roundw
          case rel => exact ⟨j + 1, A2, c2, by omega, by go_num, by rw [HN.out, List.length_append]; rfl, Lib.hid (by rw [HN.out]; exact OW2.out), B2, Lib.hid (LR.out.at_ B2x.out hlw.out)⟩
          case measure => simp [intOf]; omega
      · have hltz : ¬ (j : Int) < 8 := by omega
        have hj8 : j = 8 := by omega
        have HE : Hid (usesL (usT (kn : Int)) j = r) := Lib.hid (by rw [hj8]; exact HU.out)
        have HLN2 := Lib.hid (usesL_len (usT (kn : Int)) j)
        have HF := Lib.hid (usesL_fit (usT (kn : Int)) j)
        clear hj8 HU
        generalize usesL (usT (kn : Int)) j = l at OW HLN HE HLN2 HF
        go_wp2
        go_ret
        have e := HE.out
        subst e
        exact ⟨A, c, rfl, own_txs OW.out rfl (Nat.le_trans HLN2.out (Nat.le_trans hj (by decide))) HF.out, BR.out⟩
end Go.Proofs.YtdacjnlfjaegiaaGreatDoor
namespace Go.Proofs.YtdacjnlfjaegiaaGreatDoor
open Go Go.RowKit
set_option linter.unusedVariables false
set_option linter.unusedSimpArgs false
set_option maxRecDepth 100000

def eI (n : Int) : List Int := Cd.C.enc (Cd.C.zig n)
def encU (l : List (ByteArray × Int)) : List Int := (l.map fun p => Cd.ent p.1 ++ eI p.2).flatten
def encK (l : List (Int × Int)) : List Int := (l.map fun p => eI p.1 ++ eI p.2).flatten
def encN (l : List Int) : List Int := (l.map eI).flatten
def encL (us : List (ByteArray × Int)) (ks : List (Int × Int)) (ns : List Int) : List Int := ((eI us.length ++ encU us) ++ (eI ks.length ++ encK ks)) ++ encN ns
theorem eI_bd {n : Int} (h : i64B n) : (∀ z ∈ eI n, 0 ≤ z ∧ z ≤ 255) ∧ (eI n).length ≤ 11 := by
  have := Cd.C.enc_bd (Cd.C.zig_lt ((Cd.C.in64_iff n).2 h))
  exact ⟨this.1, this.2.2⟩
theorem len64 {n : Nat} (h : n ≤ 1000000) : i64B (n : Int) := by unfold i64B; omega
theorem ent_bd2 {s : ByteArray} (h : s.size ≤ 1000) : (∀ z ∈ Cd.ent s, 0 ≤ z ∧ z ≤ 255) ∧ (Cd.ent s).length ≤ 1011 := by
  have h1 := Cd.ent_bd (show Cd.Small s by unfold Cd.Small; omega)
  have h2 := (eI_bd (len64 (show s.size ≤ 1000000 by omega))).2
  unfold eI at h2
  exact ⟨h1.1, by rw [h1.2]; omega⟩
theorem encU_succ {us : List (ByteArray × Int)} {k : Nat} (h : k < us.length) : encU (us.take (k + 1)) = (encU (us.take k) ++ Cd.ent (fU us k).1) ++ eI (fU us k).2 := by
  rw [fU_at h, List.take_succ_eq_append_getElem h]
  unfold encU
  rw [List.map_append, List.flatten_append]
  simp
theorem encK_succ {us : List (Int × Int)} {k : Nat} (h : k < us.length) : encK (us.take (k + 1)) = (encK (us.take k) ++ eI (fK us k).1) ++ eI (fK us k).2 := by
  rw [fK_at h, List.take_succ_eq_append_getElem h]
  unfold encK
  rw [List.map_append, List.flatten_append]
  simp
theorem encN_succ {us : List Int} {k : Nat} (h : k < us.length) : encN (us.take (k + 1)) = encN (us.take k) ++ eI (us.getD k 0) := by
  rw [List.take_succ_eq_append_getElem h, List.getD_eq_getElem?_getD, List.getElem?_eq_getElem h]
  unfold encN
  rw [List.map_append, List.flatten_append]
  simp
theorem own_sl {w : World} {B : Nat} {A : Option Addr} {n c : Nat} {zs : List Int} (h : Cd.Own w B (.slice A n c) zs) (hz : ∀ z ∈ zs, 0 ≤ z ∧ z ≤ 255) (hn : n = zs.length) : Cd.Sl w A zs.length c zs := by
  obtain ⟨A', c', e, hs⟩ := h.sl hz
  injection e with e1 e2 e3
  subst e1 e3
  exact hs
/-- A function gave these bytes, in memory of its own. -/
def SlP (w : World) (zs : List Int) (e : Ending) (w' : World) : Prop := ∃ A c, e = .returned (.slice A zs.length c) ∧ Cd.Sl w' A zs.length c zs ∧ Cd.Own w' w.heap.size (.slice A zs.length c) zs ∧ Below w.heap.size w w'
theorem pI (n : Int) (hn : i64B n) (w : World) : Calls Tryz.prog 59 #[.slice none 0 0, .int .i64 n] w (SlP w (eI n)) := by
  refine (Cd.putInt_any none 0 0 [] n ((Cd.C.in64_iff n).2 hn) (by decide) w (Cd.Sl.empty w none 0 (fun _ => rfl))).mono ?_
  rintro e w' ⟨A, c, rfl, ho, hb⟩
  exact ⟨A, c, rfl, own_sl ho (eI_bd hn).1 rfl, ho, hb⟩
theorem pT (s : ByteArray) (hs : s.size ≤ 1000) (w : World) : Calls Tryz.prog 58 #[.slice none 0 0, .string s] w (SlP w (Cd.ent s)) := by
  refine (Cd.putText_any none 0 0 [] s (show Cd.Small s by unfold Cd.Small; omega) (by omega) w (Cd.Sl.empty w none 0 (fun _ => rfl))).mono ?_
  rintro e w' ⟨A, c, rfl, ho, hb⟩
  exact ⟨A, c, rfl, own_sl ho (ent_bd2 hs).1 rfl, ho, hb⟩
theorem pB (b : Bool) (w : World) : Calls Tryz.prog 60 #[.slice none 0 0, .bool b] w (SlP w [if b then (1 : Int) else 0]) := by
  refine (Cd.putBool_any none 0 0 [] b (by decide) w (Cd.Sl.empty w none 0 (fun _ => rfl))).mono ?_
  rintro e w' ⟨A, c, rfl, ho, hb⟩
  exact ⟨A, c, rfl, own_sl ho (by cases b <;> simp) rfl, ho, hb⟩
/-- Small levels. -/
structure SmL (us : List (ByteArray × Int)) (ks : List (Int × Int)) : Prop where
  lu : us.length ≤ 200
  lk : ks.length ≤ 200
  nm : ∀ p ∈ us, p.1.size ≤ 1000
theorem encU_len {us : List (ByteArray × Int)} (h : ∀ p ∈ us, p.1.size ≤ 1000 ∧ i64B p.2) : (∀ z ∈ encU us, 0 ≤ z ∧ z ≤ 255) ∧ (encU us).length ≤ 1022 * us.length := by
  induction us with
  | nil => exact ⟨by simp [encU], by simp [encU]⟩
  | cons p r ih =>
    have h1 := ih (fun q hq => h q (List.mem_cons_of_mem _ hq))
    have h2 := h p List.mem_cons_self
    have h3 := ent_bd2 h2.1
    have h4 := eI_bd h2.2
    have e : encU (p :: r) = (Cd.ent p.1 ++ eI p.2) ++ encU r := rfl
    rw [e]
    refine ⟨fun z hz => ?_, by simp only [List.length_append, List.length_cons]; omega⟩
    rcases List.mem_append.1 hz with hz | hz
    · rcases List.mem_append.1 hz with hz | hz
      · exact h3.1 z hz
      · exact h4.1 z hz
    · exact h1.1 z hz
theorem encK_len {us : List (Int × Int)} (h : ∀ p ∈ us, i64B p.1 ∧ i64B p.2) : (∀ z ∈ encK us, 0 ≤ z ∧ z ≤ 255) ∧ (encK us).length ≤ 22 * us.length := by
  induction us with
  | nil => exact ⟨by simp [encK], by simp [encK]⟩
  | cons p r ih =>
    have h1 := ih (fun q hq => h q (List.mem_cons_of_mem _ hq))
    have h2 := h p List.mem_cons_self
    have h3 := eI_bd h2.1
    have h4 := eI_bd h2.2
    have e : encK (p :: r) = (eI p.1 ++ eI p.2) ++ encK r := rfl
    rw [e]
    refine ⟨fun z hz => ?_, by simp only [List.length_append, List.length_cons]; omega⟩
    rcases List.mem_append.1 hz with hz | hz
    · rcases List.mem_append.1 hz with hz | hz
      · exact h3.1 z hz
      · exact h4.1 z hz
    · exact h1.1 z hz
theorem encN_len {us : List Int} (h : ∀ p ∈ us, i64B p) : (∀ z ∈ encN us, 0 ≤ z ∧ z ≤ 255) ∧ (encN us).length ≤ 11 * us.length := by
  induction us with
  | nil => exact ⟨by simp [encN], by simp [encN]⟩
  | cons p r ih =>
    have h1 := ih (fun q hq => h q (List.mem_cons_of_mem _ hq))
    have h3 := eI_bd (h p List.mem_cons_self)
    have e : encN (p :: r) = eI p ++ encN r := rfl
    rw [e]
    refine ⟨fun z hz => ?_, by simp only [List.length_append, List.length_cons]; omega⟩
    rcases List.mem_append.1 hz with hz | hz
    · exact h3.1 z hz
    · exact h1.1 z hz
def X1 (us : List (ByteArray × Int)) (k : Nat) : List Int := eI us.length ++ encU (us.take k)
def X2 (xs : List Int) (ks : List (Int × Int)) (k : Nat) : List Int := (xs ++ eI ks.length) ++ encK (ks.take k)
def X3 (xs : List Int) (ns : List Int) (k : Nat) : List Int := xs ++ encN (ns.take k)
theorem X1_len {us : List (ByteArray × Int)} (h : ∀ p ∈ us, p.1.size ≤ 1000 ∧ i64B p.2) (hl : us.length ≤ 200) (k : Nat) : (X1 us k).length ≤ 204500 := by
  unfold X1
  have h1 := (encU_len (us := us.take k) (fun p hp => h p (List.mem_of_mem_take hp))).2
  have h2 := (eI_bd (len64 (show us.length ≤ 1000000 by omega))).2
  have h3 : (us.take k).length ≤ us.length := List.length_take_le' k us
  simp only [List.length_append]; omega
theorem X2_len {xs : List Int} {ks : List (Int × Int)} (hx : xs.length ≤ 204500) (h : ∀ p ∈ ks, i64B p.1 ∧ i64B p.2) (hl : ks.length ≤ 200) (k : Nat) : (X2 xs ks k).length ≤ 209000 := by
  unfold X2
  have h1 := (encK_len (us := ks.take k) (fun p hp => h p (List.mem_of_mem_take hp))).2
  have h2 := (eI_bd (len64 (show ks.length ≤ 1000000 by omega))).2
  have h3 : (ks.take k).length ≤ ks.length := List.length_take_le' k ks
  simp only [List.length_append]; omega
theorem X3_len {xs : List Int} {ns : List Int} (hx : xs.length ≤ 209000) (h : ∀ p ∈ ns, i64B p) (hl : ns.length = 7) (k : Nat) : (X3 xs ns k).length ≤ 209100 := by
  unfold X3
  have h1 := (encN_len (us := ns.take k) (fun p hp => h p (List.mem_of_mem_take hp))).2
  have h3 : (ns.take k).length ≤ ns.length := List.length_take_le' k ns
  simp only [List.length_append]; omega
theorem X1_succ {us : List (ByteArray × Int)} {k : Nat} (h : k < us.length) : X1 us (k + 1) = (X1 us k ++ Cd.ent (fU us k).1) ++ eI (fU us k).2 := by
  unfold X1; rw [encU_succ h]; simp only [List.append_assoc]
theorem X2_succ {xs : List Int} {us : List (Int × Int)} {k : Nat} (h : k < us.length) : X2 xs us (k + 1) = (X2 xs us k ++ eI (fK us k).1) ++ eI (fK us k).2 := by
  unfold X2; rw [encK_succ h]; simp only [List.append_assoc]
theorem X3_succ {xs : List Int} {us : List Int} {k : Nat} (h : k < us.length) : X3 xs us (k + 1) = X3 xs us k ++ eI (us.getD k 0) := by
  unfold X3; rw [encN_succ h]; simp only [List.append_assoc]
theorem X_all (us : List (ByteArray × Int)) (ks : List (Int × Int)) (ns : List Int) (h : ns.length = 7) : X3 (X2 (X1 us us.length) ks ks.length) ns 7 = encL us ks ns := by
  unfold X3 X2 X1 encL
  rw [← h, List.take_length, List.take_length, List.take_length]
  simp only [List.append_assoc]
theorem encL_bd {us : List (ByteArray × Int)} {ks : List (Int × Int)} {ns : List Int} (hu : ∀ p ∈ us, p.1.size ≤ 1000 ∧ i64B p.2) (hk : ∀ p ∈ ks, i64B p.1 ∧ i64B p.2) (hn : ∀ p ∈ ns, i64B p) (lu : us.length ≤ 200) (lk : ks.length ≤ 200) : ∀ z ∈ encL us ks ns, 0 ≤ z ∧ z ≤ 255 := by
  intro z hz
  unfold encL at hz
  rcases List.mem_append.1 hz with hz | hz
  · rcases List.mem_append.1 hz with hz | hz
    · rcases List.mem_append.1 hz with hz | hz
      · exact (eI_bd (len64 (show us.length ≤ 1000000 by omega))).1 z hz
      · exact (encU_len hu).1 z hz
    · rcases List.mem_append.1 hz with hz | hz
      · exact (eI_bd (len64 (show ks.length ≤ 1000000 by omega))).1 z hz
      · exact (encK_len hk).1 z hz
  · exact (encN_len hn).1 z hz
end Go.Proofs.YtdacjnlfjaegiaaGreatDoor
