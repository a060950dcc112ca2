/- The helper live of the memberships' statements returns true. Condition: the two tables stand as the program lays them. -/
import Derived.Test.YtnhjbknhbeicfaaDoorW16
import Derived.Test.YtnhjbknhbeicfaaDoorW8
import Derived.Test.YtnhjbknhbeicfaaDoorW9
namespace Go.Proofs.YtnhjbknhbeicfaaDoor
open Go.RowKit
set_option linter.unusedVariables false
set_option linter.unusedSimpArgs false
set_option maxRecDepth 100000

abbrev tA : ByteArray := ⟨#[64, 97, 58, 120]⟩
abbrev tB : ByteArray := ⟨#[64, 98, 58, 121]⟩
abbrev tC : ByteArray := ⟨#[64, 99, 58, 122]⟩
abbrev tY : ByteArray := ⟨#[121]⟩
def evm (i : Int) (key : ByteArray) (n : Int) : Evd := { ev0 with e0 := i, e3 := 2, e5 := key, C := { ev0.C with n := n } }
def LE : Nat → Evd
  | 0 => evm 3 tB 3
  | 1 => evm 2 tA 4
  | _ => evm 1 tA 3
theorem app3 (x y z : List Value) (hx : x.length = 29) (hy : y.length = 29) (hz : z.length = 29) (L : Nat → List Value) (h0 : L 0 = x) (h1 : L 1 = y) (h2 : L 2 = z) :
    ∀ j, j < 3 → ∀ i v, (L j)[i]? = some v → (x ++ (y ++ z))[0 + j * 29 + i]? = some v := by
  intro j hj i v hv
  obtain rfl | rfl | rfl : j = 0 ∨ j = 1 ∨ j = 2 := by omega
  · rw [h0] at hv
    have hi : i < 29 := by rw [← hx]; exact (List.getElem?_eq_some_iff.1 hv).1
    rw [List.getElem?_append_left (by omega), show 0 + 0 * 29 + i = i by omega]; exact hv
  · rw [h1] at hv
    have hi : i < 29 := by rw [← hy]; exact (List.getElem?_eq_some_iff.1 hv).1
    rw [List.getElem?_append_right (by omega), List.getElem?_append_left (by omega), show 0 + 1 * 29 + i - x.length = i by omega]; exact hv
  · rw [h2] at hv
    rw [List.getElem?_append_right (by omega), List.getElem?_append_right (by omega), show 0 + 2 * 29 + i - x.length - y.length = i by omega]; exact hv
abbrev CL : Array Value := #[.int .i64 3, .string ⟨#[]⟩, .string ⟨#[]⟩, .int .i64 2, .bool false, .string ⟨#[64, 98, 58, 121]⟩, .int .i64 0, .int .i64 0, .slice none 0 0, .slice none 0 0, .string ⟨#[]⟩, .int .i64 3, .int .i64 0, .bool false, .string ⟨#[]⟩, .slice none 0 0, .slice none 0 0, .slice none 0 0, .slice none 0 0, .int .i64 0, .int .i64 0, .int .i64 0, .int .i64 0, .int .i64 0, .int .i64 0, .int .i64 0, .int .i64 0, .string ⟨#[]⟩, .int .i64 0, .int .i64 2, .string ⟨#[]⟩, .string ⟨#[]⟩, .int .i64 2, .bool false, .string ⟨#[64, 97, 58, 120]⟩, .int .i64 0, .int .i64 0, .slice none 0 0, .slice none 0 0, .string ⟨#[]⟩, .int .i64 4, .int .i64 0, .bool false, .string ⟨#[]⟩, .slice none 0 0, .slice none 0 0, .slice none 0 0, .slice none 0 0, .int .i64 0, .int .i64 0, .int .i64 0, .int .i64 0, .int .i64 0, .int .i64 0, .int .i64 0, .int .i64 0, .string ⟨#[]⟩, .int .i64 0, .int .i64 1, .string ⟨#[]⟩, .string ⟨#[]⟩, .int .i64 2, .bool false, .string ⟨#[64, 97, 58, 120]⟩, .int .i64 0, .int .i64 0, .slice none 0 0, .slice none 0 0, .string ⟨#[]⟩, .int .i64 3, .int .i64 0, .bool false, .string ⟨#[]⟩, .slice none 0 0, .slice none 0 0, .slice none 0 0, .slice none 0 0, .int .i64 0, .int .i64 0, .int .i64 0, .int .i64 0, .int .i64 0, .int .i64 0, .int .i64 0, .int .i64 0, .string ⟨#[]⟩, .int .i64 0]
theorem cl_eq : CL = (cellsE (LE 0) ++ (cellsE (LE 1) ++ cellsE (LE 2))).toArray := rfl
abbrev w2L (w : World) : World := (w.alloc (.cells CL 48)).alloc (.cells #[.int .i64 2, .string ⟨#[64, 97, 58, 120]⟩, .int .i64 1] 59)
theorem its0 (w : World) : Its w none 0 0 [] := Its.nil w
theorem LE_ct (w : World) (j : Nat) : IsCt w (LE j).C (LE j).a := by
  match j with
  | 0 => exact ⟨Txs.nil w, Txs.nil w, Rws.zero _ _ _ _ _ (fun _ => rfl), Rws.zero _ _ _ _ _ (fun _ => rfl)⟩
  | 1 => exact ⟨Txs.nil w, Txs.nil w, Rws.zero _ _ _ _ _ (fun _ => rfl), Rws.zero _ _ _ _ _ (fun _ => rfl)⟩
  | _ + 2 => exact ⟨Txs.nil w, Txs.nil w, Rws.zero _ _ _ _ _ (fun _ => rfl), Rws.zero _ _ _ _ _ (fun _ => rfl)⟩
theorem evm_wf (i n : Int) (key : ByteArray) (h1 : key.size ≤ 100) (h2 : 0 ≤ i ∧ i ≤ 100) (h3 : 0 ≤ n ∧ n ≤ 100) : Wfe (evm i key n) := by
  constructor <;> first
    | (show (0 : Nat) ≤ 9223372036854775807; omega)
    | (show key.size ≤ 9223372036854775807; omega)
    | (show -9223372036854775808 ≤ i ∧ i ≤ 9223372036854775807; omega)
    | (show -9223372036854775808 ≤ n ∧ n ≤ 9223372036854775807; omega)
    | (show -9223372036854775808 ≤ (2 : Int) ∧ (2 : Int) ≤ 9223372036854775807; omega)
    | (show -9223372036854775808 ≤ (0 : Int) ∧ (0 : Int) ≤ 9223372036854775807; omega)
    | (intro j hj; exact absurd (show j < 0 from hj) (Nat.not_lt_zero _))
theorem LE_wf (j : Nat) : Wfe (LE j) := by
  match j with
  | 0 => exact evm_wf 3 3 tB (by decide) (by omega) (by omega)
  | 1 => exact evm_wf 2 4 tA (by decide) (by omega) (by omega)
  | _ + 2 => exact evm_wf 1 3 tA (by decide) (by omega) (by omega)
theorem LE_pa (w : World) (j : Nat) : Its w (LE j).a8 (LE j).n8 (LE j).c8 (LE j).p8 ∧ Its w (LE j).a9 (LE j).n9 (LE j).c9 (LE j).p9 := by
  match j with
  | 0 => exact ⟨its0 w, its0 w⟩
  | 1 => exact ⟨its0 w, its0 w⟩
  | _ + 2 => exact ⟨its0 w, its0 w⟩
theorem LE_fe (j : Nat) : Fe (LE j) := by
  match j with
  | 0 => exact ⟨Nat.zero_le _, Nat.zero_le _, Nat.zero_le _, Nat.zero_le _, Nat.zero_le _, Nat.zero_le _⟩
  | 1 => exact ⟨Nat.zero_le _, Nat.zero_le _, Nat.zero_le _, Nat.zero_le _, Nat.zero_le _, Nat.zero_le _⟩
  | _ + 2 => exact ⟨Nat.zero_le _, Nat.zero_le _, Nat.zero_le _, Nat.zero_le _, Nat.zero_le _, Nat.zero_le _⟩
theorem live_evs (w : World) : Evx (w2L w) (some ⟨w.heap.size, 0, none⟩) 3 LE := by
  refine ⟨by omega, fun _ => ⟨w.heap.size, 0, rfl, by simp; omega, fun j hj i v hv => ?_⟩, fun j _ => LE_ct _ j, fun j _ => LE_wf j, fun j _ => LE_pa _ j⟩
  rw [cell_of_row _ _ _ _ _ _ (heap_alloc2_old w _ _), cl_eq, List.getElem?_toArray]
  exact app3 _ _ _ rfl rfl rfl (fun j => cellsE (LE j)) rfl rfl rfl j hj i v hv
def LN : Nat → En := fun _ => ⟨2, tA, 1⟩
theorem live_ens (w : World) : Ens (w2L w) (some ⟨w.heap.size + 1, 0, none⟩) 1 1 LN := by
  have hb := blk_new (w.alloc (.cells CL 48)) [.int .i64 2, .string ⟨#[64, 97, 58, 120]⟩, .int .i64 1] 59
  have e : (w.alloc (.cells CL 48)).heap.size = w.heap.size + 1 := by simp
  rw [e] at hb
  refine ⟨⟨fun j _ => rfl, fun j _ u hu => ?_, by unfold maxLen; omega, (fun e => by cases e), .inr ⟨w.heap.size + 1, 0, rfl, hb.lt, fun j hj i v hv => ?_⟩⟩, fun j _ => by show i64B 1; unfold i64B; omega⟩
  · simp only [rowN, LN, enc3, List.mem_cons, List.not_mem_nil, or_false] at hu
    rcases hu with rfl | rfl | rfl <;> rfl
  · obtain rfl : j = 0 := by omega
    rw [show 0 + 0 * 3 + i = i by omega]
    exact hb.cell hv
abbrev LK : Nat → Kc := fun j => kcd (LE j)
theorem m1 : memC (cores 3 LK) tA.data.toList = 4 := by kernel_rfl
theorem m2 : memC (cores 3 LK) tC.data.toList = 0 := by kernel_rfl
theorem nm_one (x : I.Txt) : I.nm [x] = [x] := (I.nm_eq (by unfold I.Srt; simp) (fun _ => Iff.rfl)).symm
theorem nm_none : I.nm [] = [] := (I.nm_eq (by unfold I.Srt; simp) (fun _ => Iff.rfl)).symm
theorem wl3 : wl 3 LK 3 = [tB.data.toList] := by
  unfold wl
  rw [show wlC (cores 3 LK) 3 = [tB.data.toList] by kernel_rfl]
  exact nm_one _
theorem wl0 : wl 3 LK 0 = [] := by
  unfold wl
  rw [show wlC (cores 3 LK) 0 = [] by kernel_rfl]
  exact nm_none
theorem sv3 : svN (bs (wl 3 LK 3)) = [tY.data.toList] := by
  rw [wl3]
  unfold svN
  rw [show txr (svB (bs [tB.data.toList])) = [tY.data.toList] by kernel_rfl]
  exact nm_one _
theorem i1 : inS LE 3 (idl LN 1) tA = 3 := by kernel_rfl
theorem i2 : inS LE 3 (idl LN 1) tB = 0 := by kernel_rfl
theorem mvs : mv 4 0 false = true ∧ mv 4 0 true = false ∧ mv 0 0 true = false ∧ mv 1 2 true = false := by decide
theorem strs_new (w : World) (x : ByteArray) (hx : x.size ≤ 100) : Strs (w.alloc (.cells #[.string x] 9)) (some ⟨w.heap.size, 0, none⟩) 1 [x] := by
  have hb := blk_new w [.string x] 9
  refine ⟨rfl, by omega, fun s hs => ?_, fun _ => ⟨w.heap.size, 0, rfl, by simp, fun i hi => ?_⟩⟩
  · rw [List.mem_singleton] at hs; rw [hs]; omega
  · obtain rfl : i = 0 := by omega
    exact hb.cell rfl
theorem names_one {w w' : World} {l : List I.Txt} {x : ByteArray} {e : Ending} (h : NamesP w l e w') (hl : l = [x.data.toList]) : ∃ A c, e = .returned (.slice A 1 c) ∧ Strs w' A 1 [x] ∧ Below w.heap.size w w' := by
  subst hl
  obtain ⟨A, c, rfl, _, hs, hb⟩ := h
  exact ⟨A, c, rfl, by have : bs [x.data.toList] = [x] := bs_tx [x]
                       rw [this] at hs; exact hs, hb⟩
theorem names_no {w w' : World} {l : List I.Txt} {e : Ending} (h : NamesP w l e w') (hl : l = []) : ∃ A c, e = .returned (.slice A 0 c) ∧ Below w.heap.size w w' := by
  subst hl
  obtain ⟨A, c, rfl, _, _, hb⟩ := h
  exact ⟨A, c, rfl, hb⟩
set_option maxHeartbeats 8000000 in
theorem live_any (w : World) (hM : Mv w) : Calls Tryd.prog 15 #[] w fun e w' => e = .returned (.bool true) ∧ Below w.heap.size w w' := by
  have HB := Lib.hid (show Below w.heap.size w (w2L w) from ((Below.refl _ w).alloc (Nat.le_refl _) _).alloc (by simp) _)
  have HE := Lib.hid (live_evs w)
  have HN := Lib.hid (live_ens w)
  have HM := Lib.hid (hM.below HB.out)
  have C1 := Lib.hid (fun W (hb : Below (w2L w).heap.size (w2L w) W) => (of10 (some ⟨w.heap.size, 0, none⟩) 3 3 LK tA W ((HE.out.below hb).evk)))
  have C2 := Lib.hid (fun W (hb : Below (w2L w).heap.size (w2L w) W) => (of10 (some ⟨w.heap.size, 0, none⟩) 3 3 LK tC W ((HE.out.below hb).evk)))
  have C3 := Lib.hid (fun W (hb : Below (w2L w).heap.size (w2L w) W) => with13 (some ⟨w.heap.size, 0, none⟩) 3 3 LK 3 W ((HE.out.below hb).evk) (by omega))
  have C4 := Lib.hid (fun W (hb : Below (w2L w).heap.size (w2L w) W) => servers16 (some ⟨w.heap.size, 0, none⟩) 3 3 LK W ((HE.out.below hb).evk) (by omega))
  have C5 := Lib.hid (fun W (hb : Below (w2L w).heap.size (w2L w) W) => with13 (some ⟨w.heap.size, 0, none⟩) 3 3 LK 0 W ((HE.out.below hb).evk) (by omega))
  have V1 := Lib.hid (fun W (hb : Below (w2L w).heap.size (w2L w) W) => move18 4 0 false W (HM.out.below hb))
  have V2 := Lib.hid (fun W (hb : Below (w2L w).heap.size (w2L w) W) => move18 4 0 true W (HM.out.below hb))
  have V3 := Lib.hid (fun W (hb : Below (w2L w).heap.size (w2L w) W) => move18 0 0 true W (HM.out.below hb))
  have V4 := Lib.hid (fun W (hb : Below (w2L w).heap.size (w2L w) W) => move18 1 2 true W (HM.out.below hb))
  have S1 := Lib.hid (fun W (hb : Below (w2L w).heap.size (w2L w) W) => instate20 (some ⟨w.heap.size, 0, none⟩) (some ⟨w.heap.size + 1, 0, none⟩) 3 3 1 1 LE LN tA W (HE.out.below hb) (HN.out.below hb) (fun j _ => LE_fe j) (by omega) (by omega))
  have S2 := Lib.hid (fun W (hb : Below (w2L w).heap.size (w2L w) W) => instate20 (some ⟨w.heap.size, 0, none⟩) (some ⟨w.heap.size + 1, 0, none⟩) 3 3 1 1 LE LN tB W (HE.out.below hb) (HN.out.below hb) (fun j _ => LE_fe j) (by omega) (by omega))
  rw [m1] at C1
  rw [m2] at C2
  rw [mvs.1] at V1
  rw [mvs.2.1] at V2
  rw [mvs.2.2.1] at V3
  rw [mvs.2.2.2] at V4
  rw [i1] at S1
  rw [i2] at S2
  have B0 := Lib.hid (Below.refl (w2L w).heap.size (w2L w))
  clear HE HN HM hM
  go_enter Tryd.func15, Tryd.ntmps15
  go_wp2_with (first
    | (go_at_call 10; (with_reducible refine (C1.out _ B0.out).mono ?_); rintro e w' ⟨rfl, rfl⟩)
    | (go_at_call 10; (with_reducible refine (C2.out _ B0.out).mono ?_); rintro e w' ⟨rfl, rfl⟩)
    | (go_at_call 13; (with_reducible refine (C3.out _ B0.out).mono ?_); intro e w3 h3; obtain ⟨A3, c3, rfl, s3, b3⟩ := names_one h3 wl3; have X3 := Lib.hid (s3.below ((Below.refl _ w3).alloc (Nat.le_refl _) (.cells #[.string tB] 9))); have B3 := Lib.hid (b3.alloc b3.size (.cells #[.string tB] 9)); clear h3 s3 b3)
    | (go_at_call 12; (with_reducible refine (same12 A3 _ 1 c3 1 [tB] _ X3.out (strs_new w3 tB (by decide))).mono ?_); rintro e w4 ⟨rfl, hb4⟩; have B4 := Lib.hid (B3.out.trans (hb4.mono B3.out.size)); clear hb4)
    | (go_at_call 16; (with_reducible refine (C4.out _ B4.out).mono ?_); intro e w5 h5; obtain ⟨A5, c5, rfl, s5, b5⟩ := names_one h5 sv3; have X5 := Lib.hid (s5.below ((Below.refl _ w5).alloc (Nat.le_refl _) (.cells #[.string tY] 9))); have B5 := Lib.hid (B4.out.trans ((b5.alloc b5.size (.cells #[.string tY] 9)).mono B4.out.size)); clear h5 s5 b5)
    | (go_at_call 12; (with_reducible refine (same12 A5 _ 1 c5 1 [tY] _ X5.out (strs_new w5 tY (by decide))).mono ?_); rintro e w6 ⟨rfl, hb6⟩; have B6 := Lib.hid (B5.out.trans (hb6.mono B5.out.size)); clear hb6)
    | (go_at_call 13; (with_reducible refine (C5.out _ B6.out).mono ?_); intro e w7 h7; obtain ⟨A7, c7, rfl, b7⟩ := names_no h7 wl0; have B7 := Lib.hid (B6.out.trans (b7.mono B6.out.size)); clear h7 b7)
    | (go_at_call 18; (with_reducible refine (V1.out _ B7.out).mono ?_); rintro e w' ⟨rfl, rfl⟩)
    | (go_at_call 18; (with_reducible refine (V2.out _ B7.out).mono ?_); rintro e w' ⟨rfl, rfl⟩)
    | (go_at_call 18; (with_reducible refine (V3.out _ B7.out).mono ?_); rintro e w' ⟨rfl, rfl⟩)
    | (go_at_call 18; (with_reducible refine (V4.out _ B7.out).mono ?_); rintro e w' ⟨rfl, rfl⟩)
    | (go_at_call 20; (with_reducible refine (S1.out _ B7.out).mono ?_); rintro e w8 ⟨rfl, hb8⟩; have B8 := Lib.hid (B7.out.trans (hb8.mono B7.out.size)); clear hb8)
    | (go_at_call 20; (with_reducible refine (S2.out _ B8.out).mono ?_); rintro e w9 ⟨rfl, hb9⟩; have B9 := Lib.hid (B8.out.trans (hb9.mono B8.out.size)); clear hb9))
  go_ret
  exact ⟨rfl, HB.out.trans (B9.out.mono HB.out.size)⟩
end Go.Proofs.YtnhjbknhbeicfaaDoor
