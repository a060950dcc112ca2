/- The walk of the reference's Match. Condition: the text has at most 2 to the 62nd bytes. -/
import Derived.Test.YtokofmolbdpklaaGL6
import Derived.RegionTactic
import Derived.BigRegion
import Derived.ChangeAlike
namespace Go.Proofs.Ytokofmolbdpklaa.GL
open Go.RowKit
set_option linter.unusedVariables false

theorem info4 : (Try.prog.info? 4).map (fun i => (i.zero, i.size, i.bytes)) = some (some (.bool false), 1, 1) := by kernel_rfl

/-- Block g has n + 1 cells, which hold the Bools of f, and may be written. -/
structure Bools (w : World) (g n : Nat) (f : Nat → Bool) : Prop where
  lt : g < w.heap.size
  cell : ∀ i, i ≤ n → w.cell? ⟨g, i, none⟩ = some (.bool (f i))
  fz : ∀ i, i ≤ n → w.frozen? ⟨g, i, none⟩ = false
theorem Bools.below {w w' : World} {B g n : Nat} {f : Nat → Bool} (h : Bools w g n f) (hb : Below B w w') (hl : g < B) : Bools w' g n f :=
  ⟨Nat.lt_of_lt_of_le h.lt hb.size, fun i hi => (hb.cell (p := ⟨g, i, none⟩) hl).trans (h.cell i hi), fun i hi => (hb.frozen (p := ⟨g, i, none⟩) hl).trans (h.fz i hi)⟩
theorem Bools.set {w : World} {g n k : Nat} {f f' : Nat → Bool} {v : Bool} (h : Bools w g n f) (hk : k ≤ n) (hv : f' k = v) (hf : ∀ i, i ≤ n → i ≠ k → f' i = f i) : Bools (w.setCell ⟨g, k, none⟩ (.bool v)) g n f' := by
  obtain ⟨h1, h2, h3⟩ := h
  have hc := h2 k hk
  refine ⟨by simpa using h1, fun i hi => ?_, fun i hi => ?_⟩
  · by_cases e : i = k
    · subst e; rw [hv]; go_simp
    · rw [hf i hi e, ← h2 i hi]
      have hne : (⟨g, k, none⟩ : Addr) ≠ ⟨g, i, none⟩ := by intro h; injection h with _ h; exact e h.symm
      have := h2 i hi
      go_simp
  · have := h3 i hi; go_simp
theorem Bools.ext {w : World} {g n : Nat} {f f' : Nat → Bool} (h : Bools w g n f) (hf : ∀ i, i ≤ n → f i = f' i) : Bools w g n f' :=
  ⟨h.lt, fun i hi => by rw [← hf i hi]; exact h.cell i hi, h.fz⟩
theorem Bools.made {w : World} {base g n : Nat} (h : w.ownsRow base 4 1 (.slice (some ⟨g, 0, none⟩) (n + 1) (n + 1)) (n + 1) (madeCells #[.bool false] ((n + 1) * 1)).toList) : Bools w g n (fun _ => false) := by
  refine ⟨(h.lt g rfl).2, fun i hi => ?_, fun i hi => h.frozenAt i⟩
  rw [h.cellAt i (by omega), Nat.mul_one, toList_madeCells_one, List.getElem?_replicate, if_pos (by omega)]
/-- The row of the reference's table: which prefixes of the pattern match. -/
def pre (P S : List Int) (i : Nat) : Bool := G.mt (P.take i) S
theorem pre_star {p : ByteArray} {k : Nat} (h : k < p.size) (hc : (p[k].toNat : Int) = 42) (S : List Int) (c : Int) : pre (bys p) (S ++ [c]) (k + 1) = (pre (bys p) (S ++ [c]) k || pre (bys p) S (k + 1)) := by
  unfold pre; rw [bys_snoc p k h, hc, G.row_star]
theorem pre_byte {p : ByteArray} {k : Nat} (h : k < p.size) (hc : (p[k].toNat : Int) ≠ 42) (S : List Int) (c : Int) : pre (bys p) (S ++ [c]) (k + 1) = (pre (bys p) S k && ((p[k].toNat : Int) == 63 || (p[k].toNat : Int) == c)) := by
  unfold pre; rw [bys_snoc p k h, G.row_byte _ _ _ _ hc]
theorem pre_nil {p : ByteArray} {k : Nat} (h : k < p.size) : pre (bys p) [] (k + 1) = (pre (bys p) [] k && (p[k].toNat : Int) == 42) := by
  unfold pre; rw [bys_snoc p k h, G.row_nil]
theorem pre_zero (P S : List Int) (c : Int) : pre P (S ++ [c]) 0 = false := by unfold pre; rw [List.take_zero, G.row_none]
/-- The first k + 1 entries of a row are done. -/
def upto (F : Nat → Bool) (k i : Nat) : Bool := decide (i ≤ k) && F i
theorem upto_at (F : Nat → Bool) (k : Nat) : upto F k k = F k := by simp [upto]
theorem upto_past (F : Nat → Bool) (k i : Nat) (h : k < i) : upto F k i = false := by unfold upto; rw [decide_eq_false (by omega)]; rfl
theorem Bools.step {w : World} {g n k : Nat} {F : Nat → Bool} {v : Bool} (h : Bools w g n (upto F k)) (hk : k + 1 ≤ n) (hv : F (k + 1) = v) : Bools (w.setCell ⟨g, k + 1, none⟩ (.bool v)) g n (upto F (k + 1)) :=
  h.set hk (by rw [upto_at]; exact hv) (fun i hi hne => by
    unfold upto
    by_cases e : i ≤ k
    · rw [decide_eq_true e, decide_eq_true (show i ≤ k + 1 by omega)]
    · rw [decide_eq_false e, decide_eq_false (show ¬ i ≤ k + 1 by omega)])
theorem Bools.other {w : World} {g g' n k : Nat} {F : Nat → Bool} {v : Value} (h : Bools w g n F) (hne : g < g') : Bools (w.setCell ⟨g', k, none⟩ v) g n F :=
  h.below ((Below.refl g' w).setCell (Nat.le_refl _) _) hne
theorem Bools.drew {w : World} {g n : Nat} {f : Nat → Bool} (h : Bools w g n f) : Bools w.drew g n f := ⟨h.lt, h.cell, h.fz⟩
theorem bytes4 : ∀ i : TypeInfo, i.bytes = 1 → i.bytes * 1 = 1 := fun i h => by rw [h]

set_option maxHeartbeats 1600000 in
theorem rmatch_any (p s : ByteArray) (hp : p.size ≤ 9223372036854775807) (hs : s.size ≤ 4611686018427387903) (w : World) :
    Calls Try.prog 30 #[.string p, .string s] w fun e w' => e = .returned (.bool (gm (bys p) (bys s))) ∧ Below w.heap.size w w' := by
  have c1 := rcheck_any p hp
  by_cases h0 : chk (bys p) = 0
  · rw [h0] at c1
    have C1 := Lib.hid c1
    have HG : Hid (gm (bys p) (bys s) = G.mt (bys p) (bys s)) := Lib.hid (by unfold gm; rw [h0]; rfl)
    obtain ⟨k1, k2, k3⟩ := chk_ok h0
    rw [bys_len] at k1 k2
    obtain ⟨i0, hi, hz0, hz1, hz2⟩ := info_parts info4
    have Hz2 := Lib.hid hz2
    clear c1 h0 k1 k3 hz2
    go_enter Try.func30, Try.ntmps30
    go_wp2_with (first
      | (go_at_call 34; refine (C1.out _).mono ?_; rintro e w' ⟨rfl, rfl⟩)
      | (at_make; refine wpList_make_full _ rfl _ _ 66 rfl w.heap.size 4 i0 (.bool false) 1 Try.underlying66 hi hz0 hz1 .i64 .i64 ((p.size : Int) + 1) ((p.size : Int) + 1) (p.size + 1) rfl rfl (by omega) (by omega) (by rw [Hz2.out]; omega) (by unfold maxLen; omega) (Nat.le_refl _) ?_; intro w1 hown hg; have HM := Lib.hid (Bools.made hown); have HB := Lib.hid ((Below.refl w.heap.size w).grown hg (Nat.le_refl _) (fun k hk => by cases hk)); clear hown hg; have hc0 := HM.out.cell 0 (by omega); have hf0 := HM.out.fz 0 (by omega)))
    clear hc0 hf0
    have hBw := HB.out.size
    have hgl := HM.out.lt
    go_loopw [6] (fun i wr => ∃ k : Nat, k ≤ p.size ∧ i = .int .i64 k ∧ Hid (Bools wr w.heap.size p.size (upto (pre (bys p) []) k)) ∧ Hid (Below w.heap.size w wr)) (fun i _ => p.size - (intOf i).toNat)
    case atStart =>
      exact ⟨0, Nat.zero_le _, rfl, Lib.hid (HM.out.set (Nat.zero_le _) rfl (fun i hi hne => upto_past _ _ _ (by omega))), Lib.hid (HB.out.setCell (Nat.le_refl _) _)⟩
    case round =>
      obtain ⟨k, hk, rfl, HR, HBr⟩ := hrel
      by_cases hlt : k < p.size
      · have hck := HR.out.cell k (by omega)
        rw [upto_at] at hck
        have hcn := HR.out.cell (k + 1) (by omega)
        rw [upto_past _ _ _ (by omega)] at hcn
        have hfn := HR.out.fz (k + 1) (by omega)
        have hst := pre_nil hlt
        have hbl := byte_lt p k hlt
        obtain ⟨hb0, hb1⟩ := hbl
        cases hv : pre (bys p) [] k
        · rw [hv] at hck hst
          have HV := Lib.hid (show pre (bys p) [] (k + 1) = false by rw [hst]; rfl)
          clear hst hv
          go_wp2
          go_roundw
          case rel => exact ⟨k + 1, by omega, by go_num, Lib.hid (HR.out.step (by omega) HV.out), Lib.hid (HBr.out.setCell (Nat.le_refl _) _)⟩
          case measure => simp [intOf]; omega
        · rw [hv] at hck hst
          by_cases hc : (p[k].toNat : Int) = 42
          · have HV := Lib.hid (show pre (bys p) [] (k + 1) = true by rw [hst, hc]; rfl)
            have e1 : ((p[k].toNat : Int) == 42) = true := beq_iff_eq.2 hc
            clear hst hv hc
            go_wp2
            go_roundw
            case rel => exact ⟨k + 1, by omega, by go_num, Lib.hid (HR.out.step (by omega) HV.out), Lib.hid (HBr.out.setCell (Nat.le_refl _) _)⟩
            case measure => simp [intOf]; omega
          · have e1 : ((p[k].toNat : Int) == 42) = false := beq_eq_false_iff_ne.2 hc
            have HV := Lib.hid (show pre (bys p) [] (k + 1) = false by rw [hst, e1]; rfl)
            clear hst hv hc
            go_wp2
            go_roundw
            case rel => exact ⟨k + 1, by omega, by go_num, Lib.hid (HR.out.step (by omega) HV.out), Lib.hid (HBr.out.setCell (Nat.le_refl _) _)⟩
            case measure => simp [intOf]; omega
      · obtain rfl : k = p.size := by omega
        have HR0 : Hid (Bools wr w.heap.size p.size (pre (bys p) [])) := Lib.hid (HR.out.ext (fun i hi => by unfold upto; rw [decide_eq_true hi]; rfl))
        clear HR HM HB hBw hgl hlt hk
        go_wp2
        go_loopw [5, 7, 8, 9] (fun v j _ _ wr => ∃ k g : Nat, k ≤ s.size ∧ j = .int .i64 k ∧ v = .slice (some ⟨g, 0, none⟩) (p.size + 1) (p.size + 1) ∧ w.heap.size ≤ g ∧ Hid (Bools wr g p.size (pre (bys p) ((bys s).take k))) ∧ Hid (Below w.heap.size w wr)) (fun _ j _ _ _ => s.size - (intOf j).toNat)
        case atStart => exact ⟨0, w.heap.size, Nat.zero_le _, rfl, rfl, Nat.le_refl _, Lib.hid (by rw [List.take_zero]; exact HR0.out), HBr⟩
        case round =>
          clear HR0 HBr
          obtain ⟨j, g, hj, rfl, rfl, hg, HR, HBr⟩ := hrel
          by_cases hlt : j < s.size
          · have hgl := HR.out.lt
            have hsn := Lib.hid (bys_snoc s j hlt)
            have hwr := HBr.out.size
            obtain ⟨wo, rfl⟩ : ∃ wo : World, wo = wr := ⟨_, rfl⟩
            go_wp2_with (at_make; refine wpList_make_full _ rfl _ _ 66 rfl wo.heap.size 4 i0 (.bool false) 1 Try.underlying66 hi hz0 hz1 .i64 .i64 ((p.size : Int) + 1) ((p.size : Int) + 1) (p.size + 1) rfl rfl (by omega) (by omega) (by rw [Hz2.out]; omega) (by unfold maxLen; omega) (Nat.le_refl _) ?_; intro w2 hown hg2; have HM := Lib.hid (Bools.made hown); have HB2 := Lib.hid ((Below.refl wo.heap.size wo).grown hg2 (Nat.le_refl _) (fun k hk => by cases hk)); clear hown hg2)
            have HR2 := Lib.hid (HR.out.below HB2.out hgl)
            have HBw := Lib.hid (HBr.out.trans (HB2.out.mono hwr))
            go_loopw [9] (fun i wr => ∃ k : Nat, k ≤ p.size ∧ i = .int .i64 k ∧ Hid (Bools wr g p.size (pre (bys p) ((bys s).take j))) ∧ Hid (Bools wr wo.heap.size p.size (upto (pre (bys p) ((bys s).take (j + 1))) k)) ∧ Hid (Below w.heap.size w wr)) (fun i _ => p.size - (intOf i).toNat)
            case atStart => exact ⟨0, Nat.zero_le _, rfl, HR2, Lib.hid (HM.out.ext (fun i hi => by
              rcases Nat.eq_zero_or_pos i with rfl | h
              · rw [upto_at, hsn.out, pre_zero]
              · rw [upto_past _ _ _ h])), HBw⟩
            case round =>
              clear HR2 HBw HM HB2
              obtain ⟨k, hk, rfl, HA, HN, HBn⟩ := hrel
              by_cases hkl : k < p.size
              · have hak := HA.out.cell k (by omega)
                have hak1 := HA.out.cell (k + 1) (by omega)
                have hnk := HN.out.cell k (by omega)
                rw [upto_at] at hnk
                have hnn := HN.out.cell (k + 1) (by omega)
                rw [upto_past _ _ _ (by omega)] at hnn
                have hfn := HN.out.fz (k + 1) (by omega)
                have hbl := byte_lt p k hkl
                obtain ⟨hb0, hb1⟩ := hbl
                by_cases hc : (p[k].toNat : Int) = 42
                · have hst := pre_star hkl hc ((bys s).take j) (s[j].toNat : Int)
                  rw [← hsn.out] at hst
                  have e1 : ((p[k].toNat : Int) == 42) = true := beq_iff_eq.2 hc
                  clear hc
                  cases hv : pre (bys p) ((bys s).take (j + 1)) k
                  · rw [hv] at hnk hst
                    cases hu : pre (bys p) ((bys s).take j) (k + 1)
                    all_goals
                      rw [hu] at hak1 hst
                      have HV := Lib.hid hst
                      clear hst hv hu
                      go_wp2
                      go_roundw
                      case rel => exact ⟨k + 1, by omega, by go_num, Lib.hid (HA.out.other hgl), Lib.hid (HN.out.step (by omega) HV.out), Lib.hid (HBn.out.setCell hwr _)⟩
                      case measure => simp [intOf]; omega
                  · rw [hv] at hnk hst
                    have HV := Lib.hid hst
                    clear hst hv
                    go_wp2
                    go_roundw
                    case rel => exact ⟨k + 1, by omega, by go_num, Lib.hid (HA.out.other hgl), Lib.hid (HN.out.step (by omega) HV.out), Lib.hid (HBn.out.setCell hwr _)⟩
                    case measure => simp [intOf]; omega
                · have hst := pre_byte hkl hc ((bys s).take j) (s[j].toNat : Int)
                  rw [← hsn.out] at hst
                  have e1 : ((p[k].toNat : Int) == 42) = false := beq_eq_false_iff_ne.2 hc
                  clear hc
                  cases hv : pre (bys p) ((bys s).take j) k
                  · rw [hv] at hak hst
                    have HV := Lib.hid hst
                    clear hst hv
                    go_wp2
                    go_region
                    all_goals go_wp2
                    all_goals
                      go_roundw
                      case rel => exact ⟨k + 1, by omega, by go_num, Lib.hid ((HA.out.other hgl).drew), Lib.hid ((HN.out.step (by omega) HV.out).drew), Lib.hid ((HBn.out.setCell hwr _).drew)⟩
                      case measure => simp [intOf]; omega
                  · rw [hv] at hak hst
                    have hbs := byte_lt s j hlt
                    obtain ⟨hs0, hs1⟩ := hbs
                    by_cases hq : (p[k].toNat : Int) = 63
                    · have e2 : ((p[k].toNat : Int) == 63) = true := beq_iff_eq.2 hq
                      have HV := Lib.hid (show pre (bys p) ((bys s).take (j + 1)) (k + 1) = true by rw [hst, e2]; rfl)
                      clear hst hv hq
                      go_wp2
                      go_region
                      all_goals go_wp2
                      all_goals
                        go_roundw
                        case rel => exact ⟨k + 1, by omega, by go_num, Lib.hid ((HA.out.other hgl).drew), Lib.hid ((HN.out.step (by omega) HV.out).drew), Lib.hid ((HBn.out.setCell hwr _).drew)⟩
                        case measure => simp [intOf]; omega
                    · have e2 : ((p[k].toNat : Int) == 63) = false := beq_eq_false_iff_ne.2 hq
                      cases hd : ((p[k].toNat : Int) == (s[j].toNat : Int))
                      all_goals
                        rw [e2, hd] at hst
                        have HV := Lib.hid hst
                        clear hst hv hq
                        go_wp2
                        go_region
                        all_goals go_wp2
                        all_goals
                          go_roundw
                          case rel => exact ⟨k + 1, by omega, by go_num, Lib.hid ((HA.out.other hgl).drew), Lib.hid ((HN.out.step (by omega) HV.out).drew), Lib.hid ((HBn.out.setCell hwr _).drew)⟩
                          case measure => simp [intOf]; omega
              · have HE : Hid (Bools wr wo.heap.size p.size (pre (bys p) ((bys s).take (j + 1)))) := Lib.hid (HN.out.ext (fun i hi => by unfold upto; rw [decide_eq_true (by omega)]; rfl))
                clear HA HN
                go_wp2
                go_roundw
                case rel => exact ⟨j + 1, wo.heap.size, by omega, by go_num, rfl, hwr, HE, HBn⟩
                case measure => simp [intOf]; omega
          · have hce := HR.out.cell p.size (Nat.le_refl _)
            have HF : Hid (gm (bys p) (bys s) = pre (bys p) ((bys s).take j) p.size) := Lib.hid (by
              rw [HG.out]; unfold pre
              rw [List.take_of_length_le (by rw [bys_len]; exact Nat.le_refl _), List.take_of_length_le (by rw [bys_len]; omega)])
            go_wp2
            go_ret
            exact ⟨ret_bool HF.out.symm, HBr.out⟩
  · have HF : Hid (gm (bys p) (bys s) = false) := Lib.hid (by unfold gm; rw [beq_eq_false_iff_ne.2 h0]; rfl)
    have e1 : (chk (bys p) != 0) = true := by rw [bne_iff_ne]; exact h0
    clear h0
    generalize chk (bys p) = c at *
    have C1 := Lib.hid c1
    clear c1
    go_enter Try.func30, Try.ntmps30
    go_wp2_with (go_at_call 34; refine (C1.out _).mono ?_; rintro e w' ⟨rfl, rfl⟩)
    go_ret
    exact ⟨ret_bool HF.out.symm, Below.refl _ _⟩
end Go.Proofs.Ytokofmolbdpklaa.GL
