/- The walk of Names of the reference. Bounds: at most 1000000 texts. -/
import Derived.Test.YtbkchcpfnoclhaaIW12
namespace Go.Proofs.Ytbkchcpfnoclhaa
open Go.RowKit Go.Maps Go.Proofs
set_option linter.unusedVariables false

/-- How many texts at the beginning are less. -/
def les (acc : List I.Txt) (x : I.Txt) : Nat := acc.findIdx fun y => !decide (y < x)
theorem les_le (acc : List I.Txt) (x : I.Txt) : les acc x ≤ acc.length := List.findIdx_le_length
theorem les_lt {acc : List I.Txt} {x : I.Txt} {j : Nat} (h : j < les acc x) : acc.getD j [] < x := by
  have hl := les_le acc x
  have := List.not_of_lt_findIdx (p := fun y => !decide (y < x)) h
  rw [List.getD_eq_getElem?_getD, List.getElem?_eq_getElem (by omega)]
  simpa using this
theorem les_at {acc : List I.Txt} {x : I.Txt} (h : les acc x < acc.length) : ¬ acc.getD (les acc x) [] < x := by
  have := List.findIdx_getElem (p := fun y => !decide (y < x)) (w := h)
  rw [List.getD_eq_getElem?_getD, List.getElem?_eq_getElem h]
  rw [Bool.not_eq_true', decide_eq_false_iff_not] at this
  exact this
theorem lt_of_not {a b : I.Txt} (h : ¬ a < b) (hn : a ≠ b) : b < a := by
  have : b ≤ a := List.not_lt.1 h
  exact Std.lt_of_le_of_ne this (Ne.symm hn)
/-- The row while it is shifted: all places above j hold what lay one below. -/
def shf (acc : List I.Txt) (j : Nat) : List I.Txt := (acc ++ [[]]).take (j + 1) ++ acc.drop j
theorem shf_end (acc : List I.Txt) : shf acc acc.length = acc ++ [[]] := by
  unfold shf
  rw [List.take_of_length_le (by simp), List.drop_length, List.append_nil]
theorem shf_len (acc : List I.Txt) {j : Nat} (h : j ≤ acc.length) : (shf acc j).length = acc.length + 1 := by
  unfold shf
  rw [List.length_append, List.length_take, List.length_drop, List.length_append, List.length_singleton]
  omega
theorem shf_get (acc : List I.Txt) {j : Nat} (h : j < acc.length) : (shf acc (j + 1)).getD j [] = acc.getD j [] := by
  unfold shf
  rw [List.getD_eq_getElem?_getD, List.getD_eq_getElem?_getD, List.getElem?_append_left (by rw [List.length_take, List.length_append, List.length_singleton]; omega), List.getElem?_take, if_pos (by omega), List.getElem?_append_left h]
theorem shf_step (acc : List I.Txt) {j : Nat} (h : j < acc.length) : (shf acc (j + 1)).set (j + 1) (acc.getD j []) = shf acc j := by
  unfold shf
  have e1 : ((acc ++ [[]]).take (j + 1 + 1)).length = j + 1 + 1 := by rw [List.length_take, List.length_append, List.length_singleton]; omega
  rw [List.set_append_left _ _ (by rw [e1]; omega)]
  have e2 : (acc ++ [[]]).take (j + 1 + 1) = (acc ++ [[]]).take (j + 1) ++ [(acc ++ [[]])[j + 1]'(by rw [List.length_append, List.length_singleton]; omega)] := List.take_succ_eq_append_getElem _
  have e3 : ((acc ++ [[]]).take (j + 1)).length = j + 1 := by rw [List.length_take, List.length_append, List.length_singleton]; omega
  rw [e2, List.set_append_right _ _ (by rw [e3]; omega), e3, Nat.sub_self, List.set_cons_zero, List.append_assoc]
  congr 1
  rw [List.drop_eq_getElem_cons h, List.getD_eq_getElem?_getD, List.getElem?_eq_getElem h]
  rfl
theorem shf_put (acc : List I.Txt) {k : Nat} (h : k ≤ acc.length) (x : I.Txt) : (shf acc k).set k x = acc.take k ++ x :: acc.drop k := by
  unfold shf
  have e3 : ((acc ++ [[]]).take k).length = k := by rw [List.length_take, List.length_append, List.length_singleton]; omega
  have e2 : (acc ++ [[]]).take (k + 1) = (acc ++ [[]]).take k ++ [(acc ++ [[]])[k]'(by rw [List.length_append, List.length_singleton]; omega)] := List.take_succ_eq_append_getElem _
  rw [e2, List.append_assoc, List.set_append_right _ _ (by rw [e3]; omega), e3, Nat.sub_self, List.singleton_append, List.set_cons_zero, List.take_append_of_le_length h]

theorem bytesLess_eq : ∀ (x y : List UInt8), Op.bytesLess x y = decide (x < y)
  | [], [] => by simp [Op.bytesLess]
  | _ :: _, [] => by simp [Op.bytesLess]
  | [], _ :: _ => by simp [Op.bytesLess]
  | a :: x, b :: y => by
    rw [Op.bytesLess, bytesLess_eq x y]
    simp only [List.cons_lt_cons_iff]
    by_cases h1 : a < b <;> by_cases h2 : a = b <;> by_cases h3 : x < y <;> simp [h1, h2, h3]
theorem less_tx (s t : ByteArray) : Op.bytesLess s.toList t.toList = decide (s.data.toList < t.data.toList) := by
  rw [bytesLess_eq, Lib.toList_data, Lib.toList_data]
theorem own_at {w : World} {B n g c : Nat} {acc : List I.Txt} (h : w.ownsRow B 9 1 (.slice (some ⟨g, 0, none⟩) n c) n (acc.map encStr)) {k : Nat} (hk : k < n) (hl : acc.length = n) : ∃ y : ByteArray, y.data.toList = acc.getD k [] ∧ w.cell? ⟨g, k, none⟩ = some (.string y) := by
  refine ⟨⟨(acc.getD k []).toArray⟩, by simp, ?_⟩
  rw [h.cellAt k (by omega), List.getElem?_map, List.getElem?_eq_getElem (by omega), List.getD_eq_getElem?_getD, List.getElem?_eq_getElem (by omega)]
  rfl
/-- One append of a text to a row of the call's own; the new slice is written out. -/
theorem app_some {w : World} {ops : Array Oper} {rest : List Oper} {o : Oper} {a : Act} {Q : Exit → Act → World → Prop} (hgd : o.guard = none) (s x : Operand)
    (ho : o.op = .call { callee := .builtin .append, args := #[s, x], argTypes := #[35, 35] }) {B n : Nat}
    (v : Value) (acc : List I.Txt) (hs : a.eval s = v) (hown : w.ownsRow B 9 1 v n (acc.map encStr)) (hB : B ≤ w.heap.size)
    (g : Nat) (t : ByteArray) (hx : a.eval x = .slice (some ⟨g, 0, none⟩) 1 1) (hc : ∀ (j : Nat) (u : Value), [Value.string t][j]? = some u → w.cell? ((⟨g, 0, none⟩ : Addr).add j) = some u) (hn : n ≤ 1000000)
    (h : ∀ g' c w', w'.ownsRow B 9 1 (.slice (some ⟨g', 0, none⟩) (n + 1) c) (n + 1) ((acc ++ [t.data.toList]).map encStr) → Below B w w' → wpList Try.prog ops Q rest (a.put o.dst (.slice (some ⟨g', 0, none⟩) (n + 1) c)) w') : wpList Try.prog ops Q (o :: rest) a w := by
  refine app_one hgd s x ho v _ hs hown hB g t hx hc hn ?_
  intro A c w' hr hg
  have hb : Below B w w' := (Below.refl B w).grown hg hB (fun k hk => (hown.lt k hk).1)
  have e : (acc ++ [t.data.toList]).map encStr = acc.map encStr ++ [.string t] := by
    rw [List.map_append, List.map_singleton]
  rw [← e] at hr
  obtain ⟨g', rfl⟩ : ∃ g', A = some ⟨g', 0, none⟩ := by
    rcases hr.2 with ⟨_, h0⟩ | ⟨g', cap, cur, hv, _⟩
    · omega
    · injection hv with h1 h2 h3; exact ⟨g', h1⟩
  exact h g' c w' hr hb
/-- What stands after one text more. -/
theorem ins_mem {acc : List I.Txt} {l : List I.Txt} {x : I.Txt} {k : Nat} (h : ∀ y, y ∈ acc ↔ y ∈ l) : ∀ y, y ∈ acc.take k ++ x :: acc.drop k ↔ y ∈ l ++ [x] := by
  intro y
  rw [I.mem_put, h, List.mem_append, List.mem_singleton]
  exact or_comm
theorem old_mem {acc : List I.Txt} {l : List I.Txt} {x : I.Txt} (h : ∀ y, y ∈ acc ↔ y ∈ l) (hx : x ∈ acc) : ∀ y, y ∈ acc ↔ y ∈ l ++ [x] := by
  intro y
  rw [List.mem_append, List.mem_singleton, ← h]
  constructor
  · exact .inl
  · rintro (h | rfl)
    · exact h
    · exact hx

theorem shf_len' {acc : List I.Txt} {n j : Nat} (h : acc.length = n) (hj : j ≤ n) : (shf acc j).length = n + 1 := by rw [shf_len acc (by omega), h]
set_option maxHeartbeats 3200000 in
theorem rnames_any (a : Option Addr) (len cap : Nat) (ls : List ByteArray) (w : World) (h : Strs w a len ls) (hn : len ≤ 1000000) :
    Calls Try.prog 39 #[.slice a len cap] w (NamesP w (I.nm (tx ls))) := by
  have H := Lib.hid h
  have HL := Lib.hid h.1
  have hm := h.2.1
  have HF := Lib.hid (fit_nm h.fit)
  clear h
  go_enter Try.func39, Try.ntmps39
  go_wp2
  go_loopw [3, 4, 5, 6] (fun v i _ _ wr => ∃ (k : Nat) (acc : List I.Txt), k ≤ len ∧ i = .int .i64 k ∧ Hid (wr.ownsRow w.heap.size 9 1 v acc.length (acc.map encStr)) ∧ Hid (I.Srt acc) ∧ Hid (∀ x, x ∈ acc ↔ x ∈ tx (ls.take k)) ∧ Hid (acc.length ≤ k) ∧ Hid (Below w.heap.size w wr)) (fun _ i _ _ _ => len - (intOf i).toNat)
  case atStart => exact ⟨0, [], Nat.zero_le _, rfl, Lib.hid (World.ownsRow_nil _ _ _ _), Lib.hid List.Pairwise.nil, Lib.hid (fun x => by rw [List.take_zero]; exact Iff.rfl), Lib.hid (Nat.le_refl _), Lib.hid (Below.refl _ _)⟩
  case round =>
    obtain ⟨k, acc, hk, rfl, HR, HS, HM, HN, HB⟩ := hrel
    by_cases hlt : k < len
    · obtain ⟨b, off, rfl, t, ht, hts, hbl, hcell⟩ := (StrsB.below H.out HB.out (Nat.le_refl _)).str hlt
      have HT := Lib.hid (show tx (ls.take (k + 1)) = tx (ls.take k) ++ [t.data.toList] by rw [tx_snoc (by rw [HL.out]; exact hlt), ← ht])
      have hk0 := les_le acc t.data.toList
      have HL1 := Lib.hid (fun j => @les_lt acc t.data.toList j)
      have HL2 := Lib.hid (@les_at acc t.data.toList)
      have Hct0 := Lib.hid ((HB.out.cell (p := ⟨b, off + k, none⟩) hbl).symm.trans hcell)
      clear ht
      generalize les acc t.data.toList = k0 at *
      obtain ⟨n, hnn⟩ : ∃ n, acc.length = n := ⟨_, rfl⟩
      have HNN := Lib.hid hnn
      rw [hnn] at HR HN hk0 HL2
      have hn1 : n ≤ 1000000 := by have := HN.out; omega
      have hrow := HR.out
      clear hnn
      rcases hrow.2 with ⟨rfl, rfl⟩ | ⟨g, cap2, cur, rfl, hbase, hblk, hx1, hx2, hx3, hx4⟩
      · clear hrow
        obtain rfl : k0 = 0 := by omega
        go_wp2
        go_loopw [5] (fun q wq => ∃ (m d : Nat), m ≤ 0 ∧ q = .int .i64 m ∧ wq = wr.drewN d) (fun q _ => 0 - (intOf q).toNat)
        case atStart => exact ⟨0, 0, Nat.zero_le _, rfl, rfl⟩
        case round =>
          obtain ⟨m, d, hmk, rfl, rfl⟩ := hrel
          by_cases hmlt : m < 0
          · omega
          · obtain rfl : m = 0 := by omega
            have HG := Lib.hid (show 0 < 0 → t.data.toList < acc.getD 0 [] from fun h => absurd h (Nat.lt_irrefl _))
            go_wp2
            go_quiet (fail)
            go_wp2
            go_quiet (fail)
            go_wp2_with (at_builtin; refine app_some rfl (.tmp 45) (.tmp 46) rfl (.slice none 0 0) acc rfl (World.ownsRow.alloc (w := wr.drewN _) HR.out _) (by have := HB.out.size; simp; omega) wr.heap.size ⟨#[]⟩ rfl (new_cell1 (wr.drewN _) _) hn1 ?_; intro g' c' w2 hr2 hb2; have HB2 := Lib.hid (((below_dn HB.out _).alloc HB.out.size _).trans hb2); have HR2 := Lib.hid hr2; clear hr2 hb2)
            go_loopw [6] (fun q wq => ∃ (j : Nat), 0 ≤ j ∧ j ≤ 0 ∧ q = .int .i64 j ∧ Hid (wq.ownsRow w.heap.size 9 1 (.slice (some ⟨g', 0, none⟩) (0 + 1) c') (0 + 1) ((shf acc j).map encStr)) ∧ Hid (Below w.heap.size w wq)) (fun q _ => (intOf q).toNat - 0)
            case atStart => exact ⟨0, by omega, Nat.le_refl _, by go_num, Lib.hid (by rw [← HNN.out, shf_end, HNN.out]; exact HR2.out), HB2⟩
            case round =>
              obtain ⟨j, hj1, hj2, rfl, HR3, HB3⟩ := hrel
              by_cases hj : 0 < j
              · omega
              · obtain rfl : j = 0 := by omega
                have hct := (HB3.out.cell (p := ⟨b, off + k, none⟩) hbl).trans Hct0.out
                have hfr := HR3.out.frozenAt 0
                have hz := HR3.out.cellAt 0 (by omega)
                obtain ⟨z, hz2⟩ : ∃ z, ((shf acc 0).map encStr)[0]? = some z := by
                  rw [List.getElem?_eq_getElem (by rw [List.length_map, shf_len' HNN.out (by omega)]; omega)]; exact ⟨_, rfl⟩
                rw [hz2] at hz
                have HST := Lib.hid ((HR3.out.stored 0 (.string t)).1)
                have HY := Lib.hid (show (acc.take 0 ++ t.data.toList :: acc.drop 0).map encStr = ((shf acc 0).map encStr).set 0 (.string t) by
                  rw [← shf_put acc (k := 0) (by rw [HNN.out]; exact hj2), List.map_set])
                have HLen := Lib.hid (show (acc.take 0 ++ t.data.toList :: acc.drop 0).length = 0 + 1 by
                  rw [← shf_put acc (k := 0) (by rw [HNN.out]; exact hj2), List.length_set, shf_len acc (by rw [HNN.out]; exact hj2), HNN.out])
                clear hz2
                go_wp2
                go_roundw
                case rel => exact ⟨k + 1, acc.take 0 ++ t.data.toList :: acc.drop 0, by omega, by go_num, Lib.hid (by rw [HLen.out, HY.out]; exact HST.out), Lib.hid (I.srt_put HS.out (by rw [HNN.out]; exact hj2) _ (fun i hi => HL1.out i hi) (fun hi => HG.out (by rw [HNN.out] at hi; exact hi))), Lib.hid (by rw [HT.out]; exact ins_mem HM.out), Lib.hid (by rw [HLen.out]; have := HN.out; omega), Lib.hid (HB3.out.setCell (by have := (HR3.out.lt g' rfl).1; exact this) _)⟩
                case measure => simp [intOf]; omega
      · clear hrow hbase hblk hx1 hx2 hx3 hx4
        by_cases hkn : k0 < n
        · by_cases hex : acc.getD k0 [] = t.data.toList
          · have HE := Lib.hid hex
            clear hex
            go_wp2
            go_loopw [5] (fun q wq => ∃ (m d : Nat), m ≤ k0 ∧ q = .int .i64 m ∧ wq = wr.drewN d) (fun q _ => k0 - (intOf q).toNat)
            case atStart => exact ⟨0, 0, Nat.zero_le _, rfl, rfl⟩
            case round =>
              obtain ⟨m, d, hmk, rfl, rfl⟩ := hrel
              by_cases hmlt : m < k0
              · obtain ⟨y, hy, hyc⟩ := own_at HR.out (k := m) (by omega) HNN.out
                have hless : Op.bytesLess y.toList t.toList = true := by rw [less_tx, decide_eq_true_iff, hy]; exact HL1.out m hmlt
                have hmn : m < n := by omega
                have hmi : (m : Int) < (n : Int) := by omega
                clear hy
                go_wp2
                go_quiet (fail)
                go_wp2
                go_roundw
                case rel => exact ⟨m + 1, d + _, by omega, by go_num, rfl⟩
                case measure => simp [intOf]; omega
              · obtain rfl : m = k0 := by omega
                obtain ⟨y, hy, hyc⟩ := own_at HR.out (k := m) (by omega) HNN.out
                have hless : Op.bytesLess y.toList t.toList = false := by rw [less_tx, decide_eq_false_iff_not, hy]; exact HL2.out (by omega)
                have heq : (y.toList == t.toList) = true := by rw [beq_tx, hy, HE.out]; simp
                have hmi : (m : Int) < (n : Int) := by omega
                have HM2 := Lib.hid (old_mem HM.out (x := t.data.toList) (by rw [← HE.out]; exact I.getD_mem (by rw [HNN.out]; exact hkn)))
                clear hy
                go_wp2
                go_quiet (fail)
                go_wp2
                go_quiet (fail)
                go_wp2
                go_roundw
                case rel => exact ⟨k + 1, acc, by omega, by go_num, Lib.hid (by rw [HNN.out]; exact HR.out), HS, Lib.hid (by rw [HT.out]; exact HM2.out), Lib.hid (by rw [HNN.out]; have := HN.out; omega), Lib.hid (below_dn HB.out _)⟩
                case measure => simp [intOf]; omega
          · have HE := Lib.hid hex
            clear hex
            go_wp2
            go_loopw [5] (fun q wq => ∃ (m d : Nat), m ≤ k0 ∧ q = .int .i64 m ∧ wq = wr.drewN d) (fun q _ => k0 - (intOf q).toNat)
            case atStart => exact ⟨0, 0, Nat.zero_le _, rfl, rfl⟩
            case round =>
              obtain ⟨m, d, hmk, rfl, rfl⟩ := hrel
              by_cases hmlt : m < k0
              · obtain ⟨y, hy, hyc⟩ := own_at HR.out (k := m) (by omega) HNN.out
                have hless : Op.bytesLess y.toList t.toList = true := by rw [less_tx, decide_eq_true_iff, hy]; exact HL1.out m hmlt
                have hmn : m < n := by omega
                have hmi : (m : Int) < (n : Int) := by omega
                clear hy
                go_wp2
                go_quiet (fail)
                go_wp2
                go_roundw
                case rel => exact ⟨m + 1, d + _, by omega, by go_num, rfl⟩
                case measure => simp [intOf]; omega
              · obtain rfl : m = k0 := by omega
                obtain ⟨y, hy, hyc⟩ := own_at HR.out (k := m) (by omega) HNN.out
                have hless : Op.bytesLess y.toList t.toList = false := by rw [less_tx, decide_eq_false_iff_not, hy]; exact HL2.out (by omega)
                have heq : (y.toList == t.toList) = false := by rw [beq_tx, hy, decide_eq_false_iff_not]; exact HE.out
                have hmi : (m : Int) < (n : Int) := by omega
                have HG := Lib.hid (show m < n → t.data.toList < acc.getD m [] from fun _ => lt_of_not (HL2.out (by omega)) HE.out)
                clear hy
                go_wp2
                go_quiet (fail)
                go_wp2
                go_quiet (fail)
                go_wp2_with (at_builtin; refine app_some rfl (.tmp 45) (.tmp 46) rfl (.slice (some ⟨g, 0, none⟩) n cap2) acc rfl (World.ownsRow.alloc (w := wr.drewN _) HR.out _) (by have := HB.out.size; simp; omega) wr.heap.size ⟨#[]⟩ rfl (new_cell1 (wr.drewN _) _) hn1 ?_; intro g' c' w2 hr2 hb2; have HB2 := Lib.hid (((below_dn HB.out _).alloc HB.out.size _).trans hb2); have HR2 := Lib.hid hr2; clear hr2 hb2)
                go_loopw [6] (fun q wq => ∃ (j : Nat), m ≤ j ∧ j ≤ n ∧ q = .int .i64 j ∧ Hid (wq.ownsRow w.heap.size 9 1 (.slice (some ⟨g', 0, none⟩) (n + 1) c') (n + 1) ((shf acc j).map encStr)) ∧ Hid (Below w.heap.size w wq)) (fun q _ => (intOf q).toNat - m)
                case atStart => exact ⟨n, by omega, Nat.le_refl _, by go_num, Lib.hid (by rw [← HNN.out, shf_end, HNN.out]; exact HR2.out), HB2⟩
                case round =>
                  obtain ⟨j, hj1, hj2, rfl, HR3, HB3⟩ := hrel
                  by_cases hj : m < j
                  · obtain ⟨i, rfl⟩ : ∃ i, j = i + 1 := ⟨j - 1, by omega⟩
                    obtain ⟨y, hy, hyc⟩ := own_at HR3.out (k := i) (by omega) (shf_len' HNN.out (by omega))
                    have hfr := HR3.out.frozenAt (i + 1)
                    have hz := HR3.out.cellAt (i + 1) (by omega)
                    have HST := Lib.hid ((HR3.out.stored (i + 1) (.string y)).1)
                    have HY := Lib.hid (show (shf acc i).map encStr = ((shf acc (i + 1)).map encStr).set (i + 1) (.string y) by
                      rw [← shf_step acc (j := i) (by rw [HNN.out]; omega), ← shf_get acc (j := i) (by rw [HNN.out]; omega), ← hy, List.map_set]
                      )
                    obtain ⟨z, hz2⟩ : ∃ z, ((shf acc (i + 1)).map encStr)[i + 1]? = some z := by
                      rw [List.getElem?_eq_getElem (by rw [List.length_map, shf_len' HNN.out (by omega)]; omega)]; exact ⟨_, rfl⟩
                    rw [hz2] at hz
                    clear hy hz2
                    go_wp2
                    go_roundw
                    case rel => exact ⟨i, by omega, by omega, by go_num, Lib.hid (by rw [HY.out]; exact HST.out), Lib.hid (HB3.out.setCell (by have := (HR3.out.lt g' rfl).1; exact this) _)⟩
                    case measure => simp [intOf]; omega
                  · obtain rfl : j = m := by omega
                    have hct := (HB3.out.cell (p := ⟨b, off + k, none⟩) hbl).trans Hct0.out
                    have hfr := HR3.out.frozenAt j
                    have hz := HR3.out.cellAt j (by omega)
                    obtain ⟨z, hz2⟩ : ∃ z, ((shf acc j).map encStr)[j]? = some z := by
                      rw [List.getElem?_eq_getElem (by rw [List.length_map, shf_len' HNN.out (by omega)]; omega)]; exact ⟨_, rfl⟩
                    rw [hz2] at hz
                    have HST := Lib.hid ((HR3.out.stored j (.string t)).1)
                    have HY := Lib.hid (show (acc.take j ++ t.data.toList :: acc.drop j).map encStr = ((shf acc j).map encStr).set j (.string t) by
                      rw [← shf_put acc (k := j) (by rw [HNN.out]; exact hj2), List.map_set])
                    have HLen := Lib.hid (show (acc.take j ++ t.data.toList :: acc.drop j).length = n + 1 by
                      rw [← shf_put acc (k := j) (by rw [HNN.out]; exact hj2), List.length_set, shf_len acc (by rw [HNN.out]; exact hj2), HNN.out])
                    clear hz2
                    go_wp2
                    go_roundw
                    case rel => exact ⟨k + 1, acc.take j ++ t.data.toList :: acc.drop j, by omega, by go_num, Lib.hid (by rw [HLen.out, HY.out]; exact HST.out), Lib.hid (I.srt_put HS.out (by rw [HNN.out]; exact hj2) _ (fun i hi => HL1.out i hi) (fun hi => HG.out (by rw [HNN.out] at hi; exact hi))), Lib.hid (by rw [HT.out]; exact ins_mem HM.out), Lib.hid (by rw [HLen.out]; have := HN.out; omega), Lib.hid (HB3.out.setCell (by have := (HR3.out.lt g' rfl).1; exact this) _)⟩
                    case measure => simp [intOf]; omega
        · obtain rfl : k0 = n := by omega
          go_wp2
          go_loopw [5] (fun q wq => ∃ (m d : Nat), m ≤ k0 ∧ q = .int .i64 m ∧ wq = wr.drewN d) (fun q _ => k0 - (intOf q).toNat)
          case atStart => exact ⟨0, 0, Nat.zero_le _, rfl, rfl⟩
          case round =>
            obtain ⟨m, d, hmk, rfl, rfl⟩ := hrel
            by_cases hmlt : m < k0
            · obtain ⟨y, hy, hyc⟩ := own_at HR.out (k := m) (by omega) HNN.out
              have hless : Op.bytesLess y.toList t.toList = true := by rw [less_tx, decide_eq_true_iff, hy]; exact HL1.out m hmlt
              have hmn : m < k0 := by omega
              have hmi : (m : Int) < (k0 : Int) := by omega
              clear hy
              go_wp2
              go_quiet (fail)
              go_wp2
              go_roundw
              case rel => exact ⟨m + 1, d + _, by omega, by go_num, rfl⟩
              case measure => simp [intOf]; omega
            · obtain rfl : m = k0 := by omega
              have HG := Lib.hid (show m < m → t.data.toList < acc.getD m [] from fun h => absurd h (Nat.lt_irrefl _))
              go_wp2
              go_quiet (fail)
              go_wp2
              go_quiet (fail)
              go_wp2_with (at_builtin; refine app_some rfl (.tmp 45) (.tmp 46) rfl (.slice (some ⟨g, 0, none⟩) m cap2) acc rfl (World.ownsRow.alloc (w := wr.drewN _) HR.out _) (by have := HB.out.size; simp; omega) wr.heap.size ⟨#[]⟩ rfl (new_cell1 (wr.drewN _) _) hn1 ?_; intro g' c' w2 hr2 hb2; have HB2 := Lib.hid (((below_dn HB.out _).alloc HB.out.size _).trans hb2); have HR2 := Lib.hid hr2; clear hr2 hb2)
              go_loopw [6] (fun q wq => ∃ (j : Nat), m ≤ j ∧ j ≤ m ∧ q = .int .i64 j ∧ Hid (wq.ownsRow w.heap.size 9 1 (.slice (some ⟨g', 0, none⟩) (m + 1) c') (m + 1) ((shf acc j).map encStr)) ∧ Hid (Below w.heap.size w wq)) (fun q _ => (intOf q).toNat - m)
              case atStart => exact ⟨m, by omega, Nat.le_refl _, by go_num, Lib.hid (by rw [← HNN.out, shf_end, HNN.out]; exact HR2.out), HB2⟩
              case round =>
                obtain ⟨j, hj1, hj2, rfl, HR3, HB3⟩ := hrel
                by_cases hj : m < j
                · omega
                · obtain rfl : j = m := by omega
                  have hct := (HB3.out.cell (p := ⟨b, off + k, none⟩) hbl).trans Hct0.out
                  have hfr := HR3.out.frozenAt j
                  have hz := HR3.out.cellAt j (by omega)
                  obtain ⟨z, hz2⟩ : ∃ z, ((shf acc j).map encStr)[j]? = some z := by
                    rw [List.getElem?_eq_getElem (by rw [List.length_map, shf_len' HNN.out (by omega)]; omega)]; exact ⟨_, rfl⟩
                  rw [hz2] at hz
                  have HST := Lib.hid ((HR3.out.stored j (.string t)).1)
                  have HY := Lib.hid (show (acc.take j ++ t.data.toList :: acc.drop j).map encStr = ((shf acc j).map encStr).set j (.string t) by
                    rw [← shf_put acc (k := j) (by rw [HNN.out]; exact hj2), List.map_set])
                  have HLen := Lib.hid (show (acc.take j ++ t.data.toList :: acc.drop j).length = j + 1 by
                    rw [← shf_put acc (k := j) (by rw [HNN.out]; exact hj2), List.length_set, shf_len acc (by rw [HNN.out]; exact hj2), HNN.out])
                  clear hz2
                  go_wp2
                  go_roundw
                  case rel => exact ⟨k + 1, acc.take j ++ t.data.toList :: acc.drop j, by omega, by go_num, Lib.hid (by rw [HLen.out, HY.out]; exact HST.out), Lib.hid (I.srt_put HS.out (by rw [HNN.out]; exact hj2) _ (fun i hi => HL1.out i hi) (fun hi => HG.out (by rw [HNN.out] at hi; exact hi))), Lib.hid (by rw [HT.out]; exact ins_mem HM.out), Lib.hid (by rw [HLen.out]; have := HN.out; omega), Lib.hid (HB3.out.setCell (by have := (HR3.out.lt g' rfl).1; exact this) _)⟩
                  case measure => simp [intOf]; omega
    · have HX := Lib.hid (show acc = I.nm (tx ls) by
        refine I.nm_eq HS.out fun x => ?_
        rw [HM.out, List.take_of_length_le (by rw [HL.out]; omega)])
      have HLE := Lib.hid (show acc.length ≤ 1000000 by have := HN.out; omega)
      go_wp2
      go_ret
      exact names_p (B := w.heap.size) (by rw [← HX.out]; exact HR.out) HF.out HLE.out HB.out
end Go.Proofs.Ytbkchcpfnoclhaa
