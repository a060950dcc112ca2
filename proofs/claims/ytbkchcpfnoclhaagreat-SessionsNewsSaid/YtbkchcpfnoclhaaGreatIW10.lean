/- The walk of Names' closure. Bounds: at most 1000000 texts. -/
import Derived.Test.YtbkchcpfnoclhaaGreatIW7
import Derived.RegionTactic
import Derived.Deep.RegionWith
namespace Go.Proofs.YtbkchcpfnoclhaaGreat
open Go.RowKit Go.Maps Go.Proofs
set_option linter.unusedVariables false

/-- What the closure leaves. -/
def Coll (B C S G M : Nat) (w : World) (acc : List I.Txt) (e : Ending) (w' : World) : Prop := e = .returned (.tuple #[]) ∧ ∃ v, St B C S G M w' v acc ∧ Below B w w'
theorem St.sz {B C S G M : Nat} {w : World} {v : Value} {acc : List I.Txt} (h : St B C S G M w v acc) : C < w.heap.size ∧ S < w.heap.size ∧ G < w.heap.size := ⟨lt_of_block h.hc, lt_of_block h.hs, lt_of_block h.hg⟩
theorem ddp_snoc (acc l : List I.Txt) (x : I.Txt) : I.ddp acc (l ++ [x]) = I.addNew (I.ddp acc l) x := by unfold I.ddp; rw [List.foldl_append]; rfl
theorem St.frees {B C S G M : Nat} {w : World} {v : Value} {acc : List I.Txt} (h : St B C S G M w v acc) :
    w.cell? ⟨C, 0, none⟩ = some (.func (.func 59) #[] #[.pointer (some ⟨C, 0, none⟩), .pointer (some ⟨S, 0, none⟩), .pointer (some ⟨G, 0, none⟩)]) ∧ w.cell? ⟨S, 0, none⟩ = some (.map (some M)) ∧ w.cell? ⟨G, 0, none⟩ = some v :=
  ⟨cell_of_one h.hc, cell_of_one h.hs, cell_of_one h.hg⟩
theorem st_map {B C S G M : Nat} {w w1 : World} {v : Value} {acc : List I.Txt} (h : St B C S G M w v acc) (g1 : w.grownBy w1 (some M)) :
    w1.heap[G]? = some (.cells #[v] 56 (0, 0)) ∧ w1.ownsRow B 9 1 v acc.length (acc.map encStr) :=
  ⟨grown_block g1 h.hg (block_map h.hm h.hg), h.hr.kept g1 (.inr (row_map h.hr h.hm))⟩
theorem st_row {B C S G M : Nat} {w w1 w2 : World} {v : Value} {acc : List I.Txt} {t : ByteArray} (h : St B C S G M w v acc) (g1 : w.grownBy w1 (some M)) (g2 : (w1.alloc (.cells #[.string t] 9)).grownBy w2 v.ownBlock) :
    w2.cell? ⟨G, 0, none⟩ = some v ∧ w2.frozen? ⟨G, 0, none⟩ = false := by
  have c3 := grown_block g1 h.hg (block_map h.hm h.hg)
  have := grown_block g2 ((Below.heap_alloc w1 _ G (lt_of_block c3)).trans c3) (row_apart h.hr h.hg (by decide))
  exact ⟨cell_of_one this, free_of_one this⟩
theorem new_cell1 (w : World) (t : ByteArray) : ∀ (j : Nat) (u : Value), [Value.string t][j]? = some u → (w.alloc (.cells #[.string t] 9)).cell? ((⟨w.heap.size, 0, none⟩ : Addr).add j) = some u := by
  intro j u hu
  match j, hu with
  | 0, hu =>
    rw [Addr.add_lit]
    have := cell_of_row (w.alloc (.cells #[.string t] 9)) w.heap.size 0 #[.string t] 9 (0, 0) (by simpa using heap_alloc_new w (.cells #[.string t] 9))
    simp at hu
    subst hu
    simp

/-- One append of a text to a row of the call's own; the new slice is written out. -/
theorem app_one {w : World} {ops : Array Oper} {rest : List Oper} {o : Oper} {a : Act} {Q : Exit → Act → World → Prop} (hgd : o.guard = none) (s x : Operand)
    (ho : o.op = .call { callee := .builtin .append, args := #[s, x], argTypes := #[56, 56] }) {B n : Nat}
    (v : Value) (xs : List Value) (hs : a.eval s = v) (hown : w.ownsRow B 9 1 v n xs) (hB : B ≤ w.heap.size)
    (g : Nat) (t : ByteArray) (hx : a.eval x = .slice (some ⟨g, 0, none⟩) 1 1) (hc : ∀ (j : Nat) (u : Value), [Value.string t][j]? = some u → w.cell? ((⟨g, 0, none⟩ : Addr).add j) = some u) (hn : n ≤ 1000000)
    (h : ∀ A c w', w'.ownsRow B 9 1 (.slice A (n + 1) c) (n + 1) (xs ++ [.string t]) → w.grownBy w' v.ownBlock → wpList Tryz.prog ops Q rest (a.put o.dst (.slice A (n + 1) c)) w') : wpList Tryz.prog ops Q (o :: rest) a w := by
  obtain ⟨i0, hi0, hz0, hz1, hz2⟩ := info_parts info9
  refine wpList_append_own _ hgd s x 56 ho B 9 i0 (.string ⟨#[]⟩) 1 16 info30 hi0 hz0 hz1 hz2 rfl (by decide) v n xs hs hown ⟨g, 0, none⟩ 1 1 [.string t] hx rfl hc (by simp [Value.oneCell']) (by unfold maxLen; omega) (by omega) hB ?_
  intro v' w' hr hg _
  obtain ⟨A, c, rfl⟩ : ∃ A c, v' = .slice A (n + 1) c := by
    rcases hr.2 with ⟨_, h0⟩ | ⟨g, cap, cur, rfl, _⟩
    · omega
    · exact ⟨_, _, rfl⟩
  exact h A c w' hr hg

set_option maxHeartbeats 1600000 in
theorem collect_small (B C S G M : Nat) (a : Option Addr) (len cap : Nat) (ls : List ByteArray) (w : World) (v : Value) (acc : List I.Txt) (hl2 : len < 2) (h : StrsB B w a len ls) (hB : B ≤ w.heap.size) (hacc : acc.length + len ≤ 1000000) (hst : St B C S G M w v acc) :
    Calls Tryz.prog 59 #[.slice a len cap, .pointer (some ⟨C, 0, none⟩), .pointer (some ⟨S, 0, none⟩), .pointer (some ⟨G, 0, none⟩)] w (Coll B C S G M w (I.ddp acc (tx ls))) := by
  have H := Lib.hid h
  have HS := Lib.hid hst
  have HB0 := Lib.hid hB
  have HL := Lib.hid h.1
  have hm := h.2.1
  have HM := Lib.hid (@run_makeMap Tryz.prog)
  have d1 : (len : Int) / 2 = 0 := by omega
  clear h hst hB
  go_enter Tryz.func59, Tryz.ntmps59
  go_wp2
  go_loopw [7, 25] (fun _ i wr => ∃ (k : Nat) (v' : Value) (acc' : List I.Txt), k ≤ len ∧ i = .int .i64 k ∧ Hid (St B C S G M wr v' acc') ∧ Hid (acc' = I.ddp acc (tx (ls.take k))) ∧ Hid (Below B w wr)) (fun _ i _ => len - (intOf i).toNat)
  case atStart => exact ⟨0, v, acc, Nat.zero_le _, rfl, HS, Lib.hid rfl, Lib.hid (Below.refl _ _)⟩
  case round =>
    obtain ⟨k, v', acc', hk, rfl, HS, HA, HB⟩ := hrel
    by_cases hlt : k < len
    · obtain ⟨b, off, rfl, t, ht, hts, hbl, hcell⟩ := (H.out.below HB.out (Nat.le_refl _)).str hlt
      have HT := Lib.hid ht
      have HA2 := Lib.hid (show I.ddp acc (tx (ls.take (k + 1))) = I.addNew acc' t.data.toList by
        rw [tx_snoc (by rw [HL.out]; exact hlt), ddp_snoc, ← HA.out, ← ht])
      have HN := Lib.hid (show acc'.length ≤ acc.length + k by
        rw [HA.out]; refine Nat.le_trans (I.length_ddp _ _) ?_; rw [tx_len, List.length_take]; omega)
      have HBs := Lib.hid (Nat.le_trans HB0.out HB.out.size)
      obtain ⟨f1, f2, f3⟩ := HS.out.frees
      clear ht f1
      by_cases hin : t.data.toList ∈ acc'
      · have HD := Lib.hid (show (seen acc').atKey (.string t.data.toList) (.lit (.bool false)) = .lit (.bool true) by rw [seen_at, decide_eq_true hin])
        have HA3 := Lib.hid (show acc' = I.ddp acc (tx (ls.take (k + 1))) by rw [HA2.out]; unfold I.addNew; rw [if_pos hin])
        clear hin
        go_wp2_with (at_lookup; (refine lookup_bool _ rfl _ _ 88 rfl 9 4 law9 info47 under4 (zero4 _) M acc'.length (seen acc') rfl HS.out.hm _ (.string t.data.toList) rfl (WideMaps.keyOf_string_mk Tryz.underlying9 (by unfold maxLen; omega)) true HD.out ?_))
        go_roundw
        case rel => exact ⟨k + 1, v', acc', by omega, by go_num, HS, HA3, HB⟩
        case measure => simp [intOf]; omega
      · have HD := Lib.hid (show (seen acc').atKey (.string t.data.toList) (.lit (.bool false)) = .lit (.bool false) by rw [seen_at, decide_eq_false hin])
        have HA3 := Lib.hid (show acc' ++ [t.data.toList] = I.ddp acc (tx (ls.take (k + 1))) by rw [HA2.out]; unfold I.addNew; rw [if_neg hin])
        clear hin
        go_wp2_with (first
          | (at_lookup; refine lookup_bool _ rfl _ _ 88 rfl 9 4 law9 info47 under4 (zero4 _) M acc'.length (seen acc') rfl HS.out.hm _ (.string t.data.toList) rfl (WideMaps.keyOf_string_mk Tryz.underlying9 (by unfold maxLen; omega)) false HD.out ?_)
          | (at_mapUpdate; refine wpList_mapUpdate_own _ rfl _ _ _ 88 rfl 9 4 law9 info47 _ M acc'.length _ rfl HS.out.hm (by have := HN.out; unfold maxLen; omega) _ _ _ rfl rfl (WideMaps.keyOf_string_mk Tryz.underlying9 (by unfold maxLen; omega)) (.lit (.bool true)) [] (plainElem_bool under4 true) ?_; intro w1 hm1 hg1; obtain ⟨q1, q2⟩ := st_map HS.out hg1; have q3 := cell_of_one q1; have HM1 := Lib.hid hm1; have HG1 := Lib.hid hg1; have HQ := Lib.hid q2; clear hm1 hg1 q1 q2)
          | (at_builtin; refine app_one rfl (.tmp 35) (.tmp 37) rfl v' _ rfl (HQ.out.alloc _) (by have := HG1.out.size; have := HBs.out; simp; omega) w1.heap.size t rfl (new_cell1 w1 t) (by have := HN.out; omega) ?_; intro A2 c2 w2 hr2 hg2; obtain ⟨p1, p2⟩ := st_row HS.out HG1.out hg2; have HX := Lib.hid (st_add HS.out t HM1.out HG1.out hr2 hg2 HBs.out); clear hr2 hg2))
        go_roundw
        case rel => exact ⟨k + 1, _, acc' ++ [t.data.toList], by omega, by go_num, Lib.hid HX.out.1, HA3, Lib.hid (HB.out.trans HX.out.2)⟩
        case measure => simp [intOf]; omega
    · have HF := Lib.hid (show acc' = I.ddp acc (tx ls) by rw [HA.out]; congr 2; exact List.take_of_length_le (by rw [HL.out]; omega))
      go_wp2
      go_end0
      exact ⟨rfl, v', HF.out ▸ HS.out, HB.out⟩
end Go.Proofs.YtbkchcpfnoclhaaGreat
