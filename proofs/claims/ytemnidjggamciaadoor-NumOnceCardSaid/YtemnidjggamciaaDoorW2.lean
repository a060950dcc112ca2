/- The walks of num's texts: Text, of the program and of the reference. -/
import Derived.Test.YtemnidjggamciaaDoorW1
import Derived.Laws.BytesArg
import Derived.Laws.OwnMore
import Derived.Deep.AppendLies
namespace Go.Proofs.YtemnidjggamciaaDoor
open Go.RowKit
set_option linter.unusedVariables false

theorem ret_str {a b : ByteArray} (h : a = b) : Ending.returned (.string a) = .returned (.string b) := by rw [h]
/-- The bytes of a text, as numbers. -/
def bys (s : ByteArray) : List Int := s.data.toList.map fun c => (c.toNat : Int)
theorem bys_len (s : ByteArray) : (bys s).length = s.size := by unfold bys; rw [List.length_map, Array.length_toList]; rfl
theorem bys_getE (s : ByteArray) (k : Nat) (h : k < s.size) : (bys s)[k]'(by rw [bys_len]; exact h) = (s[k].toNat : Int) := by
  unfold bys
  rw [List.getElem_map]
  rfl
theorem bys_getD (s : ByteArray) (k : Nat) (h : k < s.size) : (bys s).getD k 0 = (s[k].toNat : Int) := by
  rw [List.getD_eq_getElem?_getD, List.getElem?_eq_getElem (by rw [bys_len]; exact h), Option.getD_some, bys_getE s k h]
theorem bys_snoc (s : ByteArray) (k : Nat) (h : k < s.size) : (bys s).take (k + 1) = (bys s).take k ++ [(s[k].toNat : Int)] := by
  rw [List.take_succ_eq_append_getElem (by rw [bys_len]; exact h), bys_getE s k h]
theorem bys_all (s : ByteArray) : (bys s).take s.size = bys s := List.take_of_length_le (by rw [bys_len]; exact Nat.le_refl _)
theorem bys_bd (s : ByteArray) : ∀ z ∈ bys s, 0 ≤ z ∧ z ≤ 255 := by
  intro z hz
  simp only [bys, List.mem_map] at hz
  obtain ⟨c, _, rfl⟩ := hz
  have := c.toNat_lt
  omega
theorem byte_lt (s : ByteArray) (k : Nat) (h : k < s.size) : 0 ≤ (s[k].toNat : Int) ∧ (s[k].toNat : Int) ≤ 255 := ⟨by omega, by have := s[k].toNat_lt; omega⟩
theorem bys_strOf (l : List Int) (h : ∀ z ∈ l, 0 ≤ z ∧ z ≤ 255) : bys (strOfNums l) = l := by
  unfold bys strOfNums
  simp only [List.map_map]
  conv => rhs; rw [← List.map_id l]
  refine List.map_congr_left fun z hz => ?_
  have := h z hz
  simp only [Function.comp, id, UInt8.toNat_ofNat']
  omega
theorem strOf_bys (s : ByteArray) : strOfNums (bys s) = s := by
  apply ByteArray.ext
  apply Array.ext'
  unfold bys strOfNums
  simp only [List.map_map]
  conv => rhs; rw [← List.map_id s.data.toList]
  refine List.map_congr_left fun z hz => ?_
  simp
theorem bys_inj {s t : ByteArray} (h : bys s = bys t) : s = t := by rw [← strOf_bys s, h, strOf_bys]
theorem str_cons (c : Int) (l : List Int) : strOfNums [c] ++ strOfNums l = strOfNums (c :: l) := by
  apply ByteArray.ext
  simp [strOfNums]
theorem str_sign (l : List Int) : ({ data := #[45] } : ByteArray) ++ strOfNums l = strOfNums (45 :: l) := str_cons 45 l

theorem info_parts {i? : Option TypeInfo} {z : Value} {s b : Nat} (h : i?.map (fun i => (i.zero, i.size, i.bytes)) = some (some z, s, b)) : ∃ i, i? = some i ∧ i.zero = some z ∧ i.size = s ∧ i.bytes = b := by
  cases i? with
  | none => cases h
  | some i => simp at h; exact ⟨i, rfl, h.1, h.2.1, h.2.2⟩
theorem info5 : (Tryd.prog.info? 5).map (fun i => (i.zero, i.size, i.bytes)) = some (some (.int .u8 0), 1, 1) := by kernel_rfl

/-- Block g has n cells, which hold the bytes of f, and may be written. -/
structure Buf (w : World) (g n : Nat) (f : Nat → Int) : Prop where
  lt : g < w.heap.size
  cell : ∀ i, i < n → w.cell? ⟨g, i, none⟩ = some (.int .u8 (f i))
  fz : ∀ i, i < n → w.frozen? ⟨g, i, none⟩ = false
theorem Buf.below {w w' : World} {B g n : Nat} {f : Nat → Int} (h : Buf w g n f) (hb : Below B w w') (hl : g < B) : Buf w' g n f :=
  ⟨Nat.lt_of_lt_of_le h.lt hb.size, fun i hi => (hb.cell (p := ⟨g, i, none⟩) hl).trans (h.cell i hi), fun i hi => (hb.frozen (p := ⟨g, i, none⟩) hl).trans (h.fz i hi)⟩
theorem Buf.set {w : World} {g n k : Nat} {f f' : Nat → Int} {v : Int} (h : Buf w g n f) (hk : k < n) (hv : f' k = v) (hf : ∀ i, i < n → i ≠ k → f' i = f i) : Buf (w.setCell ⟨g, k, none⟩ (.int .u8 v)) g n f' := by
  obtain ⟨h1, h2, h3⟩ := h
  have hc := h2 k hk
  refine ⟨by simpa using h1, fun i hi => ?_, fun i hi => ?_⟩
  · by_cases e : i = k
    · subst e; rw [hv]; go_simp
    · rw [hf i hi e, ← h2 i hi]
      have hne : (⟨g, k, none⟩ : Addr) ≠ ⟨g, i, none⟩ := by intro h; injection h with _ h; exact e h.symm
      have := h2 i hi
      go_simp
  · have := h3 i hi; go_simp
theorem Buf.made {w : World} {base g n : Nat} (h : w.ownsRow base 5 1 (.slice (some ⟨g, 0, none⟩) n n) n (madeCells #[.int .u8 0] (n * 1)).toList) (h0 : 0 < n) : Buf w g n (fun _ => 0) := by
  refine ⟨(h.lt g rfl).2, fun i hi => ?_, fun i hi => h.frozenAt i⟩
  rw [h.cellAt i (by omega), Nat.mul_one, toList_madeCells_one, List.getElem?_replicate, if_pos (by omega)]
theorem Buf.conv {w : World} {g n : Nat} {l : List Int} (h : Buf w g n (fun i => l.getD i 0)) (hl : l.length = n) : (convert 42 9 (.slice (some ⟨g, 0, none⟩) n n)).run Tryd.prog w = .ok (.string (strOfNums l)) w :=
  run_convert_bytes_arg w 42 5 Tryd.underlying42 Tryd.underlying5 g 0 n n l hl (fun i hi => by rw [Nat.zero_add]; exact h.cell i (by omega)) 9 Tryd.underlying9
/-- What has been filled in from the end. -/
def fil (D : List Int) (j i : Nat) : Int := if i < j then 0 else D.getD i 0
theorem fil_step {w : World} {g n j : Nat} {D : List Int} {v : Int} (h : Buf w g n (fil D (j + 1))) (hj : j < n) (hv : D.getD j 0 = v) : Buf (w.setCell ⟨g, j, none⟩ (.int .u8 v)) g n (fil D j) :=
  h.set hj (by unfold fil; rw [if_neg (by omega)]; exact hv) fun i hi hne => by
    unfold fil
    by_cases e : i < j
    · rw [if_pos e, if_pos (by omega)]
    · rw [if_neg e, if_neg (by omega)]
theorem fil_zero (D : List Int) : fil D 0 = fun i => D.getD i 0 := by funext i; unfold fil; rw [if_neg (by omega)]
/-- One digit more. -/
theorem M.last {D : List Int} {j r : Nat} (hj : j < D.length) (h : D.take (j + 1) = M.dgs r) : D.getD j 0 = 48 + ((r % 10 : Nat) : Int) ∧ (0 < j → D.take j = M.dgs (r / 10)) := by
  rw [List.take_succ_eq_append_getElem hj] at h
  have hd : D.getD j 0 = D[j] := by rw [List.getD_eq_getElem?_getD, List.getElem?_eq_getElem hj]; rfl
  rw [hd]
  by_cases hr : r < 10
  · rw [M.dgs_small hr] at h
    have hl : (D.take j ++ [D[j]]).length = 1 := by rw [h]; rfl
    rw [List.length_append, List.length_singleton, List.length_take] at hl
    have e0 : D.take j = [] := List.eq_nil_of_length_eq_zero (by rw [List.length_take]; omega)
    rw [e0] at h
    simp at h
    exact ⟨by rw [h]; omega, fun h0 => by omega⟩
  · rw [M.dgs_big (by omega)] at h
    obtain ⟨h1, h2⟩ := List.append_inj' h rfl
    simp at h2
    exact ⟨by rw [h2]; omega, fun _ => h1⟩

set_option maxHeartbeats 1600000 in
theorem text_any (n : Int) (h0 : -9223372036854775808 ≤ n) (h1 : n ≤ 9223372036854775807) (w : World) : Calls Tryd.prog 16 #[.int .i64 n] w fun e w' => e = .returned (.string (strOfNums (M.txt n))) ∧ Below w.heap.size w w' := by
  have hL : (M.dgs n.natAbs).length ≤ 20 := M.dgs_len_le 19 n.natAbs (by omega)
  have hp := M.dgs_pos n.natAbs
  obtain ⟨m, hm⟩ : ∃ m, n.natAbs = m := ⟨_, rfl⟩
  have hm1 : m ≤ 18446744073709551615 := by omega
  obtain ⟨Dg, hD⟩ : ∃ Dg, M.dgs m = Dg := ⟨_, rfl⟩
  obtain ⟨L, hl⟩ : ∃ L, Dg.length = L := ⟨_, rfl⟩
  have C1 := Lib.hid (show Calls Tryd.prog 33 #[.int .i64 n] w fun e w' => e = .returned (.int .u64 (m : Int)) ∧ w = w' by have := magnitude_any n h0 h1 w; rw [hm] at this; exact this)
  have C2 := Lib.hid (fun w => (show Calls Tryd.prog 34 #[.int .u64 (m : Int)] w fun e w' => e = .returned (.int .i64 (L : Int)) ∧ w = w' by have := count_any m hm1 w; rw [hD, hl] at this; exact this))
  have HT := Lib.hid (show M.txt n = if n < 0 then 45 :: Dg else Dg by unfold M.txt; rw [hm, hD])
  have HD := Lib.hid hD
  have HL := Lib.hid hl
  rw [hm, hD, hl] at hL hp
  obtain ⟨i0, hi, hz0, hz1, hz2⟩ := info_parts info5
  have Hz2 := Lib.hid hz2
  clear hm hD hl hz2
  go_enter Tryd.func16, Tryd.ntmps16
  go_wp2_with (first
    | (go_at_call 33; refine C1.out.mono ?_; rintro e w' ⟨rfl, rfl⟩)
    | (go_at_call 34; refine (C2.out _).mono ?_; rintro e w' ⟨rfl, rfl⟩)
    | (at_make; refine wpList_make_full _ rfl _ _ 42 rfl w.heap.size 5 i0 (.int .u8 0) 1 Tryd.underlying42 hi hz0 hz1 .i64 .i64 (L : Int) (L : Int) L rfl rfl (by omega) (by omega) (by rw [Hz2.out]; omega) (by unfold maxLen; omega) (Nat.le_refl _) ?_; intro w1 hown hg; have HM := Lib.hid (Buf.made hown (by omega)); have HB := Lib.hid ((Below.refl w.heap.size w).grown hg (Nat.le_refl _) (fun k hk => by cases hk)); clear hown hg))
  go_loopw [3, 14] (fun s3 s14 wr => ∃ k j r : Nat, k + j = L ∧ s14 = .int .i64 k ∧ s3 = .int .u64 r ∧ r ≤ 18446744073709551615 ∧ Hid (Buf wr w.heap.size L (fil Dg j)) ∧ Hid (0 < j → Dg.take j = M.dgs r) ∧ Hid (Below w.heap.size w wr)) (fun _ s14 _ => L - (intOf s14).toNat)
  case atStart => exact ⟨0, L, m, by omega, rfl, rfl, hm1, Lib.hid ⟨HM.out.lt, fun i hi => by rw [HM.out.cell i hi]; unfold fil; rw [if_pos hi], HM.out.fz⟩, Lib.hid (fun _ => by rw [HD.out, List.take_of_length_le (by rw [HL.out]; exact Nat.le_refl _)]), HB⟩
  case round =>
    obtain ⟨k, j, r, hkj, rfl, rfl, hr, HM2, HT2, HB2⟩ := hrel
    have HKJ := Lib.hid hkj
    by_cases hlt : k < L
    · obtain ⟨q, rfl⟩ : ∃ q, j = q + 1 := ⟨j - 1, by omega⟩
      have hidx : (L : Int) - 1 - (k : Int) = (q : Int) := by omega
      have hq : q < L := by omega
      have hqz : (q : Int) < (L : Int) := by omega
      obtain ⟨l1, l2⟩ := M.last (by rw [HL.out]; exact hq) (HT2.out (by omega))
      have HL1 := Lib.hid l1
      have HL2 := Lib.hid l2
      have hc := HM2.out.cell q hq
      have hf := HM2.out.fz q hq
      clear l1 l2 hkj
      go_wp2
      go_roundw
      case rel => exact ⟨k + 1, q, r / 10, by have := HKJ.out; omega, by go_num, by simp, by omega, Lib.hid (fil_step HM2.out hq (by rw [HL1.out]; simp)), Lib.hid HL2.out, Lib.hid (HB2.out.setCell (Nat.le_refl _) _)⟩
      case measure => simp [intOf]; omega
    · obtain rfl : j = 0 := by omega
      have hkL : ¬ (k : Int) < (L : Int) := by omega
      have HBF := Lib.hid (show Buf wr w.heap.size L (fun i => Dg.getD i 0) by rw [← fil_zero]; exact HM2.out)
      have hconv := HBF.out.conv HL.out
      have hsz : (strOfNums Dg).size ≤ 20 := by rw [strOfNums_size, HL.out]; exact hL
      clear hkj hlt
      by_cases hn : n < 0
      · have g : decide (n < 0) = true := by simpa using hn
        have HR := Lib.hid (show M.txt n = 45 :: Dg by rw [HT.out, if_pos hn])
        go_wp2
        go_ret
        exact ⟨ret_str (by rw [HR.out]; exact str_sign Dg), HB2.out⟩
      · have g : decide (n < 0) = false := by simpa using hn
        have HR := Lib.hid (show M.txt n = Dg by rw [HT.out, if_neg hn])
        go_wp2
        go_ret
        exact ⟨ret_str (by rw [HR.out]), HB2.out⟩
end Go.Proofs.YtemnidjggamciaaDoor
