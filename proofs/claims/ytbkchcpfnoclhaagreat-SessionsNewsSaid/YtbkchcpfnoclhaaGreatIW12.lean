/- The walk of Names of the program. Bounds: at most 1000000 texts. -/
import Derived.Test.YtbkchcpfnoclhaaGreatIW11
import Derived.Test.YtbkchcpfnoclhaaGreatShelf
import Derived.Sort.OwnSorted
import Derived.Laws.EntriesVeiled
namespace Go.Proofs.YtbkchcpfnoclhaaGreat
open Go.RowKit Go.Maps Go.Proofs Go.Sort
set_option linter.unusedVariables false

/-- The texts as strings. -/
def bs (ns : List I.Txt) : List ByteArray := ns.map fun l => ⟨l.toArray⟩
theorem tx_bs (ns : List I.Txt) : tx (bs ns) = ns := by
  unfold tx bs
  rw [List.map_map]
  conv => rhs; rw [← List.map_id ns]
  apply List.map_congr_left
  intro a _
  simp
theorem bs_tx (ls : List ByteArray) : bs (tx ls) = ls := by
  unfold tx bs
  rw [List.map_map]
  conv => rhs; rw [← List.map_id ls]
  apply List.map_congr_left
  intro a _
  cases a; simp
/-- All texts are short enough to be strings. -/
def Fit (ns : List I.Txt) : Prop := ∀ x ∈ ns, x.length ≤ 9223372036854775807
theorem len_data' (s : ByteArray) : s.data.toList.length = s.size := by rw [Array.length_toList]; rfl
theorem StrsB.fit {B : Nat} {w : World} {a : Option Addr} {len : Nat} {ls : List ByteArray} (h : StrsB B w a len ls) : Fit (tx ls) := by
  intro x hx
  obtain ⟨s, hs, rfl⟩ := List.mem_map.1 hx
  have := h.2.2.1 s hs
  rw [len_data']; exact this
theorem own_strs {w : World} {B n : Nat} {v : Value} {ns : List I.Txt} (h : w.ownsRow B 9 1 v n (ns.map encStr)) (hf : Fit ns) (hn : n ≤ 1000000) : ∃ A c, v = .slice A n c ∧ n ≤ c ∧ ns.length = n ∧ Strs w A n (bs ns) := by
  have hl : ns.length = n := by have := h.1; rw [List.length_map] at this; omega
  have hsz : ∀ s ∈ bs ns, s.size ≤ 9223372036854775807 := by
    intro s hs
    obtain ⟨x, hx, rfl⟩ := List.mem_map.1 hs
    have := hf x hx
    show x.toArray.size ≤ _
    simpa using this
  have hb : (bs ns).length = n := by unfold bs; rw [List.length_map, hl]
  rcases h.2 with ⟨rfl, rfl⟩ | ⟨g, cap, cur, rfl, _, hg, hnc, _, _, _⟩
  · exact ⟨none, 0, rfl, Nat.le_refl _, hl, hb, by omega, hsz, by omega⟩
  · refine ⟨_, cap, rfl, hnc, hl, hb, by omega, hsz, fun h0 => ⟨g, 0, rfl, lt_of_block hg, fun i hi => ?_⟩⟩
    rw [Nat.zero_add, h.cellAt i (by omega), List.getElem?_map, List.getElem?_eq_getElem (by omega)]
    unfold bs
    rw [List.getD_eq_getElem?_getD, List.getElem?_map, List.getElem?_eq_getElem (by omega)]
    rfl
/-- What Names leaves: a slice with the names. -/
def NamesP (w : World) (ns : List I.Txt) (e : Ending) (w' : World) : Prop := ∃ A c, e = .returned (.slice A ns.length c) ∧ ns.length ≤ c ∧ Strs w' A ns.length (bs ns) ∧ (∀ b off, A = some ⟨b, off, none⟩ → w.heap.size ≤ b) ∧ Below w.heap.size w w'
theorem names_p {w w' : World} {B n : Nat} {v : Value} {ns : List I.Txt} (h : w'.ownsRow B 9 1 v n (ns.map encStr)) (hf : Fit ns) (hn : n ≤ 1000000) (hb : Below w.heap.size w w') (hB : w.heap.size ≤ B := by exact Nat.le_refl _) : NamesP w ns (.returned v) w' := by
  obtain ⟨A, c, rfl, h1, h2, h3⟩ := own_strs h hf hn
  subst h2
  exact ⟨A, c, rfl, h1, h3, fun b off e => by subst e; exact Nat.le_trans hB (h.lt b rfl).1, hb⟩
theorem fit_nm {l : List I.Txt} (h : Fit l) : Fit (I.nm l) := fun x hx => h x ((I.mem_nm l x).1 hx)
theorem at_new (w : World) (c : Array Value) (t : TypeId) : (w.alloc (.cells c t)).heap[w.heap.size]? = some (.cells c t (0, 0)) := by simpa using heap_alloc_new w (.cells c t)
theorem st_start (w : World) : St w.heap.size (w.heap.size + 1 + 1 + 1 + 1) (w.heap.size + 1) (w.heap.size + 1 + 1 + 1) w.heap.size
    (((((w.alloc (Obj.map #[] 0)).alloc (Obj.cells #[Value.map (some w.heap.size)] 88)).alloc (Obj.cells #[] 9)).alloc (Obj.cells #[Value.slice (some { block := w.heap.size + 1 + 1, off := 0 }) 0 0] 56)).alloc
      (Obj.cells #[Value.func (Fn.func 59) #[] #[Value.pointer (some { block := w.heap.size + 1 + 1 + 1 + 1, off := 0 }), Value.pointer (some { block := w.heap.size + 1, off := 0 }), Value.pointer (some { block := w.heap.size + 1 + 1 + 1, off := 0 })]] 89))
    (.slice (some ⟨w.heap.size + 1 + 1, 0, none⟩) 0 0) [] := by
  have s1 : (w.alloc (Obj.map #[] 0)).heap.size = w.heap.size + 1 := by simp
  obtain ⟨w1, e1⟩ : ∃ w1, w1 = w.alloc (Obj.map #[] 0) := ⟨_, rfl⟩
  have m1 : w1.ownsMap Tryz.prog 9 (plainElem Tryz.prog 4) w.heap.size 0 (seen []) := by rw [e1]; exact World.ownsMap_made _ _ _ _
  rw [← e1] at s1 ⊢
  have b2 := at_new w1 #[Value.map (some w.heap.size)] 88
  have s2 : (w1.alloc (Obj.cells #[Value.map (some w.heap.size)] 88)).heap.size = w.heap.size + 1 + 1 := by simp [s1]
  obtain ⟨w2, e2⟩ : ∃ w2, w2 = w1.alloc (Obj.cells #[Value.map (some w.heap.size)] 88) := ⟨_, rfl⟩
  have m2 : w2.ownsMap Tryz.prog 9 (plainElem Tryz.prog 4) w.heap.size 0 (seen []) := by rw [e2]; exact m1.alloc _
  rw [← e2] at s2 b2 ⊢
  have b3 := at_new w2 #[] 9
  have s3 : (w2.alloc (Obj.cells #[] 9)).heap.size = w.heap.size + 1 + 1 + 1 := by simp [s2]
  have b23 := (Below.heap_alloc w2 (.cells #[] 9) _ (lt_of_block b2)).trans b2
  obtain ⟨w3, e3⟩ : ∃ w3, w3 = w2.alloc (Obj.cells #[] 9) := ⟨_, rfl⟩
  have m3 : w3.ownsMap Tryz.prog 9 (plainElem Tryz.prog 4) w.heap.size 0 (seen []) := by rw [e3]; exact m2.alloc _
  rw [← e3] at s3 b3 b23 ⊢
  have b4 := at_new w3 #[Value.slice (some { block := w.heap.size + 1 + 1, off := 0 }) 0 0] 56
  have s4 : (w3.alloc (Obj.cells #[Value.slice (some { block := w.heap.size + 1 + 1, off := 0 }) 0 0] 56)).heap.size = w.heap.size + 1 + 1 + 1 + 1 := by simp [s3]
  have b24 := (Below.heap_alloc w3 (.cells #[Value.slice (some { block := w.heap.size + 1 + 1, off := 0 }) 0 0] 56) _ (lt_of_block b23)).trans b23
  have b34 := (Below.heap_alloc w3 (.cells #[Value.slice (some { block := w.heap.size + 1 + 1, off := 0 }) 0 0] 56) _ (lt_of_block b3)).trans b3
  obtain ⟨w4, e4⟩ : ∃ w4, w4 = w3.alloc (Obj.cells #[Value.slice (some { block := w.heap.size + 1 + 1, off := 0 }) 0 0] 56) := ⟨_, rfl⟩
  have m4 : w4.ownsMap Tryz.prog 9 (plainElem Tryz.prog 4) w.heap.size 0 (seen []) := by rw [e4]; exact m3.alloc _
  rw [← e4] at s4 b4 b24 b34 ⊢
  generalize hf : Value.func (Fn.func 59) #[] #[Value.pointer (some { block := w.heap.size + 1 + 1 + 1 + 1, off := 0 }), Value.pointer (some { block := w.heap.size + 1, off := 0 }), Value.pointer (some { block := w.heap.size + 1 + 1 + 1, off := 0 })] = f
  have b5 := at_new w4 #[f] 89
  have b25 := (Below.heap_alloc w4 (.cells #[f] 89) _ (lt_of_block b24)).trans b24
  have b35 := (Below.heap_alloc w4 (.cells #[f] 89) _ (lt_of_block b34)).trans b34
  have b45 := (Below.heap_alloc w4 (.cells #[f] 89) _ (lt_of_block b4)).trans b4
  rw [s1] at b25
  rw [s2] at b35
  rw [s3] at b45
  rw [s4] at b5
  subst hf
  exact ⟨b5, b25, b45, m4.alloc _, ⟨rfl, .inr ⟨_, 0, #[], rfl, by omega, b35, Nat.le_refl _, Nat.zero_le _, rfl, rfl⟩⟩, by omega, by omega, by omega, Nat.le_refl _⟩
theorem below_start (w : World) (o1 o2 o3 o4 o5 : Obj) : Below w.heap.size w (((((w.alloc o1).alloc o2).alloc o3).alloc o4).alloc o5) :=
  ((((((Below.refl _ _).alloc (Nat.le_refl _) o1).alloc (by simp) o2).alloc (by simp; omega) o3).alloc (by simp; omega) o4).alloc (by simp; omega) o5)

set_option maxHeartbeats 800000 in
theorem names_any (a : Option Addr) (len cap : Nat) (ls : List ByteArray) (w : World) (h : Strs w a len ls) (hc : len ≤ cap) (hn : len ≤ 1000000) :
    Calls Tryz.prog 48 #[.slice a len cap] w (NamesP w (I.nm (tx ls))) := by
  have H := Lib.hid h
  have hmm := @run_makeMap Tryz.prog
  have HF := Lib.hid (fit_nm h.fit)
  have HL := Lib.hid h.1
  obtain ⟨acc, hacc⟩ : ∃ acc, I.ddp [] (tx ls) = acc := ⟨_, rfl⟩
  have HA := Lib.hid hacc
  have hal : acc.length ≤ 1000000 := by rw [← hacc]; refine Nat.le_trans (I.length_ddp _ _) ?_; rw [tx_len, h.1]; simpa using hn
  have hns : I.nm (tx ls) = acc.mergeSort fun x y => decide (x ≤ y) := by unfold I.nm; rw [hacc]
  have hll : (acc.mergeSort fun x y => decide (x ≤ y)).length = acc.length := by simp
  rw [hns] at HF ⊢
  have HT := Lib.hid (st_start w)
  have HLL := Lib.hid hll
  have HNS := Lib.hid hns
  have HBS := Lib.hid (below_start w (.map #[] 0) (.cells #[Value.map (some w.heap.size)] 88) (.cells #[] 9) (.cells #[Value.slice (some { block := w.heap.size + 1 + 1, off := 0 }) 0 0] 56) (Obj.cells #[Value.func (Fn.func 59) #[] #[Value.pointer (some { block := w.heap.size + 1 + 1 + 1 + 1, off := 0 }), Value.pointer (some { block := w.heap.size + 1, off := 0 }), Value.pointer (some { block := w.heap.size + 1 + 1 + 1, off := 0 })]] 89))
  obtain ⟨ns, hq⟩ : ∃ ns, (acc.mergeSort fun x y => decide (x ≤ y)) = ns := ⟨_, rfl⟩
  rw [hq] at HF HLL ⊢
  have HQ := Lib.hid hq
  have hm := h.2.1
  clear h hacc hns hll hq
  go_enter Tryz.func48, Tryz.ntmps48
  go_wp2_with fail
  refine (collect_any w.heap.size _ _ _ _ len a len cap ls _ _ [] (Nat.le_refl _) hc (StrsB.below H.out HBS.out (Nat.le_refl _)) HBS.out.size (by simpa using hn) HT.out).mono ?_
  rintro e w1 ⟨rfl, v, hst, hb⟩
  have HB := Lib.hid (HBS.out.trans hb)
  clear hb
  rw [HA.out] at hst
  obtain ⟨f1, f2, f3⟩ := hst.frees
  have HS := Lib.hid hst
  clear f1 f2
  rcases hst.hr.2 with ⟨rfl, h0⟩ | ⟨g, cap2, cur, rfl, hbase, hblk, h1, h2, h3, h4⟩
  · have HN := Lib.hid (show ns = [] by
      apply List.eq_nil_of_length_eq_zero; rw [HLL.out]; exact h0)
    have HR := Lib.hid hst.hr
    have H0 := Lib.hid (show acc = [] from List.eq_nil_of_length_eq_zero h0)
    clear hst h0
    go_wp2_with (go_at_call 60; refine (Tryz.slices_Sort_string_none none 0 _).mono ?_; rintro e w' ⟨rfl, rfl⟩)
    go_ret
    refine names_p (B := w.heap.size) (n := 0) ?_ HF.out (by omega) HB.out
    rw [HN.out]
    have := HR.out
    rw [H0.out] at this
    exact this
  · have HC := Lib.hid (Tryz.slices_Sort_string g 0 cap2 acc w1 (holds_of_block hblk (by simpa using h4)) (lt_of_block hblk) (by omega))
    have HK := Lib.hid (And.intro hbase (And.intro hblk (And.intro h1 (And.intro h2 h3))))
    clear hst hbase hblk h1 h2 h3 h4
    go_wp2_with (go_at_call 60; refine HC.out.mono ?_; rintro e w2 ⟨rfl, n, os, hw2⟩; have hg := grown_block (w := w1) (w' := w2) (row := some g) (by rw [hw2]; exact grownBy_sorted _) HS.out.hg (row_apart HS.out.hr HS.out.hg (by decide)); have hcell := cell_of_one hg; have HW := Lib.hid hw2; clear hw2 hg)
    go_ret
    have hw2 := HW.out
    rw [HQ.out] at hw2
    refine names_p (B := w.heap.size) (n := acc.length) ?_ HF.out hal ?_
    · rw [hw2]
      exact ownsRow_sorted HLL.out HK.out.1 HK.out.2.1 HK.out.2.2.1 HK.out.2.2.2.1 HK.out.2.2.2.2
    · exact HB.out.grown (row := some g) (by rw [hw2]; exact grownBy_sorted _) HB.out.size (fun k hk => by cases hk; exact HK.out.1)
end Go.Proofs.YtbkchcpfnoclhaaGreat
