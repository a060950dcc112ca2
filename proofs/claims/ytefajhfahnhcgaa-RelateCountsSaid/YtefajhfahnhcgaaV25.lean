/- Relations: the reference's Reactions. Bound: at most 900000 events. -/
import Derived.Test.YtefajhfahnhcgaaV21
namespace Go.Proofs.Ytefajhfahnhcgaa
open Go Go.RowKit
set_option linter.unusedVariables false
set_option linter.unusedSimpArgs false

namespace Cn
theorem cl_set1 (x : Int) : ∀ (zs : List Rc) (k : Nat), k < zs.length → (cl zs).set (k * 2 + 1) (.int .i64 x) = cl (zs.set k ⟨(zs.getD k t0).tx, x⟩)
  | [], k, h => by simp at h
  | p :: r, 0, _ => rfl
  | p :: r, k + 1, h => by
    have ih := cl_set1 x r k (by simpa using h)
    rw [cl_cons, List.set_append_right _ _ (by rw [enc_len]; omega), enc_len, show (k + 1) * 2 + 1 - 2 = k * 2 + 1 by omega, ih, List.set_cons_succ, cl_cons]
    rfl
theorem own_open {w : World} {B n : Nat} {v : Value} {xs : List Value} (h : w.ownsRow B 58 2 v n xs) (h1 : v.ownBlock ≠ none) : ∃ g cap cur, v = .slice (some ⟨g, 0, none⟩) n cap ∧ B ≤ g ∧ Blk w g cur 58 ∧ n ≤ cap ∧ cap ≤ maxLen ∧ cap * 2 = cur.length ∧ cur.take (n * 2) = xs := by
  rcases h.2 with ⟨rfl, _⟩ | ⟨g, cap, cur, hv, hB, hg, hnc, hcm, hs, ht⟩
  · exact absurd rfl h1
  · exact ⟨g, cap, cur.toList, hv, hB, ⟨by rw [Array.toArray_toList]; exact hg⟩, hnc, hcm, by rw [Array.length_toList, hs], ht⟩
theorem own_close {w : World} {B n g cap : Nat} {cur xs : List Value} (hb : Blk w g cur 58) (hB : B ≤ g) (hn : n ≤ cap) (hm : cap ≤ maxLen) (hs : cap * 2 = cur.length) (ht : cur.take (n * 2) = xs) : w.ownsRow B 58 2 (.slice (some ⟨g, 0, none⟩) n cap) n xs := by
  refine ⟨by rw [← ht, List.length_take, ← hs]; omega, .inr ⟨g, cap, cur.toArray, rfl, hB, hb.heap, hn, hm, by rw [List.size_toArray, hs], by rw [List.toList_toArray]; exact ht⟩⟩
theorem inc_at {t : ByteArray} : ∀ {l : List Rc} {k : Nat}, k ≤ l.length → (∀ j, j < k → (l.getD j t0).tx.toList < t.toList) → (k < l.length → ¬ (l.getD k t0).tx.toList < t.toList ∧ (l.getD k t0).tx ≠ t) → inc t l = l.take k ++ ⟨t, 1⟩ :: l.drop k
  | [], k, h, _, _ => by
    have : k = 0 := by simpa using h
    subst this; rfl
  | q :: r, 0, _, _, h2 => by
    obtain ⟨h3, h4⟩ : ¬ q.tx.toList < t.toList ∧ q.tx ≠ t := h2 (by simp)
    unfold inc
    rw [if_neg h3, if_neg h4]; rfl
  | q :: r, k + 1, h, h1, h2 => by
    have h3 : q.tx.toList < t.toList := h1 0 (by omega)
    unfold inc
    rw [if_pos h3, inc_at (l := r) (k := k) (by simpa using h) (fun j hj => h1 (j + 1) (by omega)) (fun hk => h2 (by simpa using hk))]; rfl
theorem inc_eq {t : ByteArray} : ∀ {l : List Rc} {k : Nat}, k < l.length → (∀ j, j < k → (l.getD j t0).tx.toList < t.toList) → (l.getD k t0).tx = t → inc t l = l.set k ⟨(l.getD k t0).tx, (l.getD k t0).n + 1⟩
  | [], k, h, _, _ => by simp at h
  | q :: r, 0, _, _, h2 => by
    have h3 : q.tx = t := h2
    subst h3
    unfold inc
    rw [if_neg (List.lt_irrefl _), if_pos rfl]; rfl
  | q :: r, k + 1, h, h1, h2 => by
    have h3 : q.tx.toList < t.toList := h1 0 (by omega)
    unfold inc
    rw [if_pos h3, inc_eq (l := r) (k := k) (by simpa using h) (fun j hj => h1 (j + 1) (by omega)) h2]; rfl
end Cn
theorem bytesLess_eq : ∀ (x y : List UInt8), Op.bytesLess x y = decide (x < y)
  | [], [] => by simp [Op.bytesLess]
  | [], b :: y => by simp [Op.bytesLess]
  | a :: x, [] => by simp [Op.bytesLess]
  | a :: x, b :: y => by
    rw [Op.bytesLess, bytesLess_eq x y]
    simp only [List.cons_lt_cons_iff]
    by_cases h1 : a < b
    · simp [h1]
    · by_cases h2 : a = b
      · subst h2; simp [h1]
      · simp [h1, h2]
set_option maxRecDepth 100000 in
/-- An append onto a slice that has no room: a new row. -/
theorem run_append_full {w : World} (t ty : TypeId) (B : Nat) (e : TypeId) (i : TypeInfo) (z : Value) (size bytes : Nat) (ht : Try.prog.underlying t = some (.slice e)) (hi : Try.prog.info? e = some i) (hz : i.zero = some z) (hsize : i.size = size) (hby : i.bytes = bytes) (hzs : z.cells.size = size)
    (A : Option Addr) (hA : A ≠ none) (k : Nat) (olds : List Value) (hs : Src w A k k size olds) (X : Option Addr) (hX : X ≠ none) (m c : Nat) (news : List Value) (hn : Src w X m c size news) (hm : 0 < m) (h63 : k + m ≤ maxLen) (hbytes : (k + m) * bytes ≤ 140737488355328) (hB : B ≤ w.heap.size) :
    ∃ v' w', (Builtin.append_ #[t, t] ty #[.slice A k k, .slice X m c]).run Try.prog w = .ok v' w' ∧ w'.ownsRow B e size v' (k + m) (olds ++ news) ∧ w.grownBy w' none ∧ v'.ownBlock = some w.heap.size := by
  subst hsize
  subst hby
  cases A with
  | none => exact absurd rfl hA
  | some a =>
    cases X with
    | none => exact absurd rfl hX
    | some x =>
      have hnews : ∀ j u, news[j]? = some u → w.cell? (x.add j) = some u := by
        intro j u hu
        rcases hn.cell with h0 | ⟨b, off, he, _, hc⟩
        · omega
        · cases he; rw [Addr.add_lit]; exact hc j u hu
      have holds : ∀ j u, olds[j]? = some u → w.cell? (a.add j) = some u := by
        intro j u hu
        rcases hs.cell with h0 | ⟨b, off, he, _, hc⟩
        · have h1 : olds = [] := List.eq_nil_of_length_eq_zero (by rw [hs.len, h0, Nat.zero_mul])
          subst h1
          simp at hu
        · cases he; rw [Addr.add_lit]; exact hc j u hu
      have hr := run_append_grow (P := Try.prog) w t ty e i z ht hi hz a k k olds hs.len holds x m c news hn.len hnews (by omega) (by unfold maxLen at h63; omega) (growslice_fits (by omega) hbytes)
      have hlen : (olds ++ news).length = (k + m) * i.size := by rw [List.length_append, hs.len, hn.len, Nat.add_mul]
      have hge := grownCap_ge w (k + m) k e
      have hcm : grownCap w (k + m) k e ≤ maxLen := grownCap_le_maxLen w (k + m) k e h63
      refine ⟨_, _, hr, ⟨hlen, .inr ⟨w.heap.size, _, _, rfl, hB, heap_alloc_new w.drew _, hge, hcm, ?_, ?_⟩⟩, ⟨rfl, rfl, rfl, by simp, fun k hk _ => heap_alloc_old w.drew _ hk⟩, rfl⟩
      · simp only [Array.size_append, List.size_toArray, size_zeroCells, hzs, hs.len, hn.len, ← Nat.add_mul]
        congr 1
        omega
      · simp only [Array.toList_append, List.append_assoc]
        rw [← List.append_assoc, ← hlen]
        exact List.take_left
theorem wpList_append_full {w : World} {ops : Array Oper} {rest : List Oper} {o : Oper} {a : Act} {Q : Exit → Act → World → Prop} (hgd : o.guard = none) (s x : Operand) (t : TypeId)
    (ho : o.op = .call { callee := .builtin .append, args := #[s, x], argTypes := #[t, t] })
    (B : Nat) (e : TypeId) (i : TypeInfo) (z : Value) (size bytes : Nat) (ht : Try.prog.underlying t = some (.slice e)) (hi : Try.prog.info? e = some i) (hz : i.zero = some z) (hsize : i.size = size) (hby : i.bytes = bytes) (hzs : z.cells.size = size)
    (A : Option Addr) (hA : A ≠ none) (k : Nat) (olds : List Value) (hse : a.eval s = .slice A k k) (hs : Src w A k k size olds) (X : Option Addr) (hX : X ≠ none) (m c : Nat) (news : List Value) (hxe : a.eval x = .slice X m c) (hn : Src w X m c size news) (hm : 0 < m) (h63 : k + m ≤ maxLen) (hbytes : (k + m) * bytes ≤ 140737488355328) (hB : B ≤ w.heap.size)
    (h : ∀ v' w', w'.ownsRow B e size v' (k + m) (olds ++ news) → w.grownBy w' none → v'.ownBlock = some w.heap.size → wpList Try.prog ops Q rest (a.put o.dst v') w') : wpList Try.prog ops Q (o :: rest) a w :=
  wpList_plain hgd fun _ hK => by
    obtain ⟨v', w', hr, h1, h2, h3⟩ := run_append_full (w := w) t o.type B e i z size bytes ht hi hz hsize hby hzs A hA k olds hs X hX m c news hn hm h63 hbytes hB
    unfold Oper.wp execOp
    simp only [ho, resolve, invoke, builtin, Sem.run_bind, Sem.run_pure, Result.andThen_ok, List.map_toArray, List.map_cons, List.map_nil, hse, hxe, hr]
    exact hK _ _ (h v' w' h1 h2 h3)
theorem under43e : Try.prog.underlying 43 = some (.slice (Try.prog.elem 43)) := by kernel_rfl
theorem size43e (w : World) : (sizeOf (Try.prog.elem 43)).run Try.prog w = .ok 2 w := by kernel_rfl
set_option maxRecDepth 100000 in
theorem run_fromC {A : Option Addr} {n c : Nat} {k : Nat} (hk : k ≤ n) (hc : n ≤ c) (w : World) :
    (Instr.sliceAt 43 (.slice A n c) (some (.int .i64 (k : Int))) none none).run Try.prog w = .ok (.slice (if c = k then A else A.map (·.add (k * 2))) (n - k) (c - k)) w := by
  have hrun := run_slice_l (P := Try.prog) w 43 A n c under43e .i64 (k : Int) (by omega) (by omega)
  rw [size43e] at hrun
  rw [run_sliceAt_slice w 43 _ _ _ _ under43e, hrun]
  rfl
set_option maxRecDepth 100000 in
theorem run_topC {g n c : Nat} {k : Nat} (hk : k ≤ n) (hc : n ≤ c) (w : World) :
    (Instr.sliceAt 43 (.slice (some ⟨g, 0, none⟩) n c) none (some (.int .i64 (k : Int))) (some (.int .i64 (k : Int)))).run Try.prog w = .ok (.slice (some ⟨g, 0, none⟩) k k) w := by
  have hrun := run_slice_hm (P := Try.prog) w 43 (some ⟨g, 0, none⟩) n c under43e .i64 .i64 (k : Int) (k : Int) (by omega) (by omega) (by omega)
  rw [size43e] at hrun
  rw [run_sliceAt_slice w 43 _ _ _ _ under43e, hrun]
  show Result.ok (sliced (some ⟨g, 0, none⟩) 0 k k 2) w = _
  congr 1
  simp [sliced, Addr.add]
theorem src_topC {w : World} {a : Addr} {c k : Nat} {xs : List Value} (h : Src w (some a) k c 2 xs) : Src w (some a) k k 2 xs := ⟨h.len, (fun e => by cases e), h.cell, h.one⟩
/-- An earlier one has the same text and sender. -/
def agn (E : Nat → Me) (os : List Nat) (tx sd : ByteArray) (k : Nat) : Bool := (List.range k).any (fun j => decide ((E (os.getD j 0)).tx = tx) && decide ((E (os.getD j 0)).sd = sd))
theorem agn_succ (E : Nat → Me) (os : List Nat) (tx sd : ByteArray) (k : Nat) : agn E os tx sd (k + 1) = (agn E os tx sd k || (decide ((E (os.getD k 0)).tx = tx) && decide ((E (os.getD k 0)).sd = sd))) := by
  unfold agn
  rw [List.range_succ, List.any_append]
  simp
def dsR (E : Nat → Me) (os : List Nat) (k : Nat) : List (ByteArray × ByteArray) := dst (prs E (os.take k))
def rkR (E : Nat → Me) (os : List Nat) (k : Nat) : List Cn.Rc := reac (dsR E os k)
theorem prs_snoc {E : Nat → Me} {os : List Nat} {k : Nat} (hk : k < os.length) : prs E (os.take (k + 1)) = prs E (os.take k) ++ [((E (os.getD k 0)).tx, (E (os.getD k 0)).sd)] := by
  unfold prs
  rw [List.take_succ_eq_append_getElem hk, List.map_append, List.getD_eq_getElem?_getD, List.getElem?_eq_getElem hk]
  rfl
theorem dst_mem0 {ps : List (ByteArray × ByteArray)} {p : ByteArray × ByteArray} : p ∈ dst ps ↔ p ∈ ps := by
  unfold dst
  rw [dst_mem]
  simp
theorem agn_any {E : Nat → Me} {os : List Nat} {tx sd : ByteArray} {k : Nat} (hk : k ≤ os.length) : (dsR E os k).any (fun q => decide (q = (tx, sd))) = agn E os tx sd k := by
  rw [Bool.eq_iff_iff, List.any_eq_true]
  unfold agn dsR
  rw [List.any_eq_true]
  constructor
  · rintro ⟨q, hq, e⟩
    rw [decide_eq_true_eq] at e
    subst e
    rw [dst_mem0] at hq
    unfold prs at hq
    obtain ⟨i, hi, e1⟩ := List.mem_map.1 hq
    obtain ⟨j, hj, e2⟩ := List.mem_iff_getElem.1 hi
    rw [List.length_take] at hj
    rw [List.getElem_take] at e2
    have e3 : os.getD j 0 = i := by rw [List.getD_eq_getElem?_getD, List.getElem?_eq_getElem (by omega)]; exact e2
    simp only [Prod.mk.injEq] at e1
    exact ⟨j, List.mem_range.2 (by omega), by rw [e3, decide_eq_true e1.1, decide_eq_true e1.2]; rfl⟩
  · rintro ⟨j, hj, e⟩
    rw [List.mem_range] at hj
    rw [Bool.and_eq_true, decide_eq_true_eq, decide_eq_true_eq] at e
    refine ⟨(tx, sd), ?_, decide_eq_true rfl⟩
    rw [dst_mem0]
    unfold prs
    refine List.mem_map.2 ⟨os.getD j 0, ?_, by rw [e.1, e.2]⟩
    rw [List.getD_eq_getElem?_getD, List.getElem?_eq_getElem (by omega)]
    exact List.mem_take_iff_getElem.2 ⟨j, by omega, rfl⟩
theorem rkR_again {E : Nat → Me} {os : List Nat} {k : Nat} (hk : k < os.length) (h : agn E os (E (os.getD k 0)).tx (E (os.getD k 0)).sd k = true) : rkR E os (k + 1) = rkR E os k := by
  unfold rkR
  rw [← agn_any (Nat.le_of_lt hk)] at h
  unfold dsR at *
  rw [prs_snoc hk, dst_snoc]
  unfold dstS
  rw [if_pos h]
theorem rkR_new {E : Nat → Me} {os : List Nat} {k : Nat} (hk : k < os.length) (h : agn E os (E (os.getD k 0)).tx (E (os.getD k 0)).sd k = false) : rkR E os (k + 1) = Cn.inc (E (os.getD k 0)).tx (rkR E os k) := by
  unfold rkR
  rw [← agn_any (Nat.le_of_lt hk)] at h
  unfold dsR at *
  rw [prs_snoc hk, dst_snoc]
  unfold dstS
  rw [if_neg (by rw [h]; decide), reac_snoc]
theorem dsR_len (E : Nat → Me) (os : List Nat) (k : Nat) : (dsR E os k).length ≤ k := by
  have := dst_len (prs E (os.take k))
  unfold dsR
  have h2 : (prs E (os.take k)).length ≤ k := by unfold prs; rw [List.length_map, List.length_take]; omega
  omega
theorem rkR_len (E : Nat → Me) (os : List Nat) (k : Nat) : (rkR E os k).length ≤ k := Nat.le_trans (reac_len _) (dsR_len E os k)
theorem rkR_mem {E : Nat → Me} {os : List Nat} {k : Nat} {p : Cn.Rc} (hf : ∀ i ∈ os, Fits (E i)) (h : p ∈ rkR E os k) : Cn.fitR p ∧ 0 < p.n ∧ p.n ≤ k := by
  obtain ⟨h1, h2⟩ := ((reac_ok (dsR E os k)).2 p).1 h
  have h3 := cntT_le (dsR E os k) p.tx
  have h4 := dsR_len E os k
  refine ⟨?_, h2, by omega⟩
  rw [h1] at h2
  unfold cntT at h2
  obtain ⟨q, hq⟩ := List.length_pos_iff_exists_mem.1 (show 0 < ((dsR E os k).filter (fun q => decide (q.1 = p.tx))).length by omega)
  obtain ⟨hq1, hq2⟩ := List.mem_filter.1 hq
  rw [decide_eq_true_eq] at hq2
  unfold dsR at hq1
  rw [dst_mem0] at hq1
  unfold prs at hq1
  obtain ⟨i, hi, rfl⟩ := List.mem_map.1 hq1
  unfold Cn.fitR
  rw [← hq2]
  have := (hf i (List.mem_of_mem_take hi)).bx
  unfold maxLen at this
  exact this
theorem Evm.at1 {w : World} {b o n : Nat} {E : Nat → Me} (h : Evm w (some ⟨b, o, none⟩) n E) {j : Nat} (hj : j < n) : At w b (o + j * 29) (E j) := by
  obtain ⟨b', o', e, h1⟩ := h.get hj
  cases e
  exact h1
set_option maxRecDepth 100000 in
set_option maxHeartbeats 16000000 in
theorem rreactions35 (A : Option Addr) (c : Nat) (E : Nat → Me) (os : List Nat) (w : World) (h : Evm w A os.length (fun j => E (os.getD j 0))) (hf : ∀ i ∈ os, Fits (E i)) (hn : os.length ≤ 900000) : Calls Try.prog 35 #[.slice A os.length c] w fun r w' => ∃ A' c', r = .returned (.slice A' (rkR E os os.length).length c') ∧ Cn.Rcs w' A' (rkR E os os.length).length c' (rkR E os os.length) ∧ Below w.heap.size w w' ∧ ∀ b' o', A' = some ⟨b', o', none⟩ → w.heap.size ≤ b' := by
  have H := Lib.hid h
  have HF := Lib.hid hf
  have HLn := Lib.hid hn
  obtain ⟨i0, hi, hz0, hz1, hz2⟩ := info_parts info58
  have HI := Lib.hid (And.intro hi (And.intro hz0 (And.intro hz1 hz2)))
  clear h hf hi hz0 hz1 hz2
  go_enter Try.func35, Try.ntmps35
  go_wp2
  go_loopg [3, 4, 5, 6, 7, 8, 9] os.length (fun gg s3 s4 _ _ _ _ _ wr => ∃ (kk : Nat) (v : Value), kk ≤ os.length ∧ os.length - kk ≤ gg ∧ v = s3 ∧ s4 = .int .i64 (kk : Int) ∧ Hid (wr.ownsRow w.heap.size 58 2 v (rkR E os kk).length (Cn.cl (rkR E os kk))) ∧ Hid (Below w.heap.size w wr) ∧ Hid (v.ownBlock ≠ none))
  case atStart => exact ⟨0, .slice (some ⟨w.heap.size, 0, none⟩) 0 0, Nat.zero_le _, by omega, rfl, rfl, Lib.hid (World.ownsRow_made (base := w.heap.size) (e := 58) (size := 2) w #[] 0 (Nat.le_refl _) (by decide) (by simp)), Lib.hid ((Below.refl _ _).alloc (Nat.le_refl _) _), Lib.hid (by simp [Value.ownBlock])⟩
  case round =>
    obtain ⟨kk, v, hkk, hg, rfl, rfl, HO, BW, HV⟩ := hrel
    have hzl := rkR_len E os kk
    have HZm := Lib.hid (fun p (hp : p ∈ rkR E os kk) => rkR_mem HF.out hp)
    by_cases hlt : kk < os.length
    · have hltz : (kk : Int) < (os.length : Int) := by omega
      have hk0 : (0 : Int) ≤ (kk : Int) := by omega
      obtain ⟨b1, o1, rfl, hat⟩ := H.out.get hlt
      have HEv := Lib.hid (fun (u : World) (hb : Below wr.heap.size wr u) => H.out.below (BW.out.trans (hb.mono BW.out.size)))
      have q10 := (hat.below BW.out).k10
      have HSd := Lib.hid (fun (u : World) (hb : Below wr.heap.size wr u) => ((hat.below BW.out).below hb).k2)
      have HYes := Lib.hid (rkR_again (E := E) hlt)
      have HNo := Lib.hid (rkR_new (E := E) hlt)
      have HAgi := Lib.hid (fun k => agn_succ E os (E (os.getD kk 0)).tx (E (os.getD kk 0)).sd k)
      clear hat

      generalize (E (os.getD kk 0)).tx = tx at q10 HYes HNo HAgi
      generalize (E (os.getD kk 0)).sd = sd at HSd HYes HNo HAgi
      generalize rkR E os kk = zs at HO hzl HZm HYes HNo ⊢
      go_wp2
      obtain ⟨wo, rfl⟩ : ∃ x : World, x = wr := ⟨_, rfl⟩
      go_loopg [6, 7] kk (fun gg s6 s7 wr => ∃ k2 : Nat, k2 ≤ kk ∧ kk - k2 ≤ gg ∧ s6 = .bool (agn E os tx sd k2) ∧ s7 = .int .i64 (k2 : Int) ∧ Hid (Below wo.heap.size wo wr))
      case atStart => exact ⟨0, Nat.zero_le _, by omega, rfl, rfl, Lib.hid (Below.refl _ _)⟩
      case round =>
        clear q10
        obtain ⟨k2, hk2, hg2, rfl, rfl, BQ⟩ := hrel
        by_cases hl2 : k2 < kk
        · have hl2z : (k2 : Int) < (kk : Int) := by omega
          have hl20 : (0 : Int) ≤ (k2 : Int) := by omega
          have hl2n : (k2 : Int) < (os.length : Int) := by omega
          have hat2 := (HEv.out wr BQ.out).at1 (show k2 < os.length by omega)
          have p10 := hat2.k10
          have p2 := hat2.k2
          have q2 := HSd.out wr BQ.out
          have HA2 := Lib.hid (HAgi.out k2)
          clear hat2

          generalize (E (os.getD k2 0)).tx = x at p10 HA2
          generalize (E (os.getD k2 0)).sd = y at p2 HA2
          by_cases c1 : x = tx
          · have z1 : (x.toList == tx.toList) = true := by rw [c1]; exact beq_self_eq_true _
            by_cases c2 : y = sd
            · have z2 : (y.toList == sd.toList) = true := by rw [c2]; exact beq_self_eq_true _
              have HA3 := Lib.hid (show agn E os tx sd (k2 + 1) = true from HA2.out.trans (by rw [decide_eq_true c1, decide_eq_true c2]; cases agn E os tx sd k2 <;> rfl))
              clear HA2 c1 c2
              go_wp2
              go_quiet (fail)
              go_wp2
              go_roundg (kk - (k2 + 1))
              case measure => omega
              case rel => exact ⟨k2 + 1, by omega, by omega, by rw [HA3.out], by go_num, Lib.hid (bel_dn BQ.out _)⟩
            · have z2 : (y.toList == sd.toList) = false := beq_eq_false_iff_ne.2 (fun e => c2 (eq_of_toList e))
              have HA3 := Lib.hid (show agn E os tx sd (k2 + 1) = agn E os tx sd k2 from HA2.out.trans (by rw [decide_eq_false c2, Bool.and_false, Bool.or_false]))
              clear HA2 c1 c2
              go_wp2
              go_quiet (fail)
              go_wp2
              go_roundg (kk - (k2 + 1))
              case measure => omega
              case rel => exact ⟨k2 + 1, by omega, by omega, by rw [HA3.out], by go_num, Lib.hid (bel_dn BQ.out _)⟩
          · have z1 : (x.toList == tx.toList) = false := beq_eq_false_iff_ne.2 (fun e => c1 (eq_of_toList e))
            have HA3 := Lib.hid (show agn E os tx sd (k2 + 1) = agn E os tx sd k2 from HA2.out.trans (by rw [decide_eq_false c1, Bool.false_and, Bool.or_false]))
            clear HA2 c1
            go_wp2
            go_quiet (fail)
            go_wp2
            go_roundg (kk - (k2 + 1))
            case measure => omega
            case rel => exact ⟨k2 + 1, by omega, by omega, by rw [HA3.out], by go_num, Lib.hid (bel_dn BQ.out _)⟩
        · have hl2z : ¬ (k2 : Int) < (kk : Int) := by omega
          obtain rfl : k2 = kk := by omega
          cases hag : agn E os tx sd k2 with
          | true =>
            have HT2 := Lib.hid (HYes.out hag)
            clear hag HYes HNo
            go_wp2
            go_roundg (os.length - (k2 + 1))
            case measure => omega
            case rel => exact ⟨k2 + 1, v, by omega, by omega, rfl, by go_num, Lib.hid (by rw [HT2.out]; exact own_keep HO.out (fun b _ hl => BQ.out.block b hl)), Lib.hid (BW.out.trans (BQ.out.mono BW.out.size)), HV⟩
          | false =>
            have HT2 := Lib.hid (HNo.out hag)
            clear hag HYes HNo
            obtain ⟨g, cap, cur, rfl, hB, hblk, hnc, hcm, hcs, hct⟩ := Cn.own_open HO.out HV.out
            have HFt := Lib.hid (fun p hp => (HZm.out p hp).1)
            have R7 := Lib.hid (Cn.Rcs.ofBlk hblk hct rfl hnc (by have := HLn.out; omega) HFt.out)
            have HBl := Lib.hid hblk
            have HCt := Lib.hid hct
            have HCs := Lib.hid hcs
            clear hblk hct hcs
            have hl9 := HLn.out
            go_wp2
            obtain ⟨wp, rfl⟩ : ∃ x : World, x = wr := ⟨_, rfl⟩
            have BQo := BQ
            clear BQ
            obtain ⟨kk, rfl⟩ : ∃ x : Nat, x = k2 := ⟨_, rfl⟩
            go_loopg [8] zs.length (fun gg s8 wr => ∃ k3 : Nat, k3 ≤ zs.length ∧ zs.length - k3 ≤ gg ∧ s8 = .int .i64 (k3 : Int) ∧ Hid (∀ j, j < k3 → (zs.getD j Cn.t0).tx.toList < tx.toList) ∧ wp = wr)
            case atStart => exact ⟨0, Nat.zero_le _, by omega, rfl, Lib.hid (fun j hj => absurd hj (Nat.not_lt_zero _)), rfl⟩
            case round =>
              obtain ⟨k3, hk3, hg3, rfl, HJ, rfl⟩ := hrel
              by_cases hl3 : k3 < zs.length
              · have hl3z : (k3 : Int) < (zs.length : Int) := by omega
                have hl30 : (0 : Int) ≤ (k3 : Int) := by omega
                obtain ⟨g', o', e', _, hr, _⟩ := (R7.out.below BQo.out).get hl3
                cases e'
                rw [Nat.zero_add] at hr
                have q0 : wp.cell? ⟨g, k3 * 2, none⟩ = some (.string (zs.getD k3 Cn.t0).tx) := hr 0 _ rfl
                have q1 : wp.cell? ⟨g, k3 * 2 + 1, none⟩ = some (.int .i64 (zs.getD k3 Cn.t0).n) := hr 1 _ rfl
                have hqm : zs.getD k3 Cn.t0 ∈ zs := by rw [Cn.getD_at hl3]; exact List.getElem_mem _
                obtain ⟨_, hn0, hn1⟩ := HZm.out _ hqm
                have HJ2 : Hid ((zs.getD k3 Cn.t0).tx.toList < tx.toList → ∀ j, j < k3 + 1 → (zs.getD j Cn.t0).tx.toList < tx.toList) := Lib.hid (fun h j hj => by
                  by_cases e : j = k3
                  · subst e; exact h
                  · exact HJ.out j (by omega))
                have HEq : Hid ((zs.getD k3 Cn.t0).tx = tx → Cn.inc tx zs = zs.set k3 ⟨(zs.getD k3 Cn.t0).tx, (zs.getD k3 Cn.t0).n + 1⟩) := Lib.hid (fun h => Cn.inc_eq hl3 HJ.out h)
                have HAt : Hid (¬ (zs.getD k3 Cn.t0).tx.toList < tx.toList → (zs.getD k3 Cn.t0).tx ≠ tx → Cn.inc tx zs = zs.take k3 ++ ⟨tx, 1⟩ :: zs.drop k3) := Lib.hid (fun h1 h2 => Cn.inc_at hk3 HJ.out (fun _ => ⟨h1, h2⟩))
                have HC1 := Lib.hid (Cn.cl_set1 ((zs.getD k3 Cn.t0).n + 1) zs k3 hl3)
                clear hr hqm
                generalize zs.getD k3 Cn.t0 = q at q0 q1 hn0 hn1 HJ2 HEq HAt HC1
                by_cases hy : q.tx.toList < tx.toList
                · have HJ3 := Lib.hid (HJ2.out hy)
                  have z1 : Op.bytesLess q.tx.toList tx.toList = true := by rw [bytesLess_eq]; exact decide_eq_true hy
                  generalize q.tx = x at q0 z1
                  clear HJ2 HEq HAt hy q1 HC1
                  go_wp2
                  go_roundg (zs.length - (k3 + 1))
                  case measure => omega
                  case rel => exact ⟨k3 + 1, by omega, by omega, by go_num, HJ3, rfl⟩
                · have z1 : Op.bytesLess q.tx.toList tx.toList = false := by rw [bytesLess_eq]; exact decide_eq_false hy
                  by_cases he : q.tx = tx
                  · have HT3 := Lib.hid (HT2.out.trans (HEq.out he))
                    have z2 : (q.tx.toList == tx.toList) = true := by rw [he]; exact beq_self_eq_true _
                    have HBp := Lib.hid (HBl.out.below BQo.out)
                    have f1 := HBp.out.free (k3 * 2 + 1)
                    have hqn : q.n + 1 ≤ 9223372036854775807 := by omega
                    have hqn0 : -9223372036854775808 ≤ q.n + 1 := by omega
                    clear HJ2 HEq HAt hy he
                    generalize q.tx = x at q0 z1 z2 HT3 HC1
                    generalize q.n = xn at q1 HT3 HC1 hn0 hn1 hqn hqn0
                    go_wp2
                    go_roundg (os.length - (kk + 1))
                    case measure => omega
                    case rel =>
                      refine ⟨kk + 1, .slice (some ⟨g, 0, none⟩) zs.length cap, by omega, by omega, rfl, by go_num, Lib.hid ?_, Lib.hid ?_, HV⟩
                      · rw [HT3.out, List.length_set]
                        refine Cn.own_close (HBp.out.set (k3 * 2 + 1) (.int .i64 (xn + 1))) hB hnc hcm (by rw [List.length_set]; exact HCs.out) ?_
                        rw [List.take_set, HCt.out]
                        exact HC1.out
                      · exact (BW.out.trans (BQo.out.mono BW.out.size)).setCell (p := ⟨g, _, none⟩) hB _
                  · have z2 : (q.tx.toList == tx.toList) = false := beq_eq_false_iff_ne.2 (fun e => he (eq_of_toList e))
                    have HIp := Lib.hid (HAt.out hy he)
                    clear HJ2 HEq HAt hy he HC1 HJ
                    generalize q.tx = x at q0 z1 z2
                    have BX := Lib.hid (BW.out.trans ((BQo.out).mono BW.out.size))
                    have IX := Lib.hid (R7.out.below BQo.out)
                    have r3 := run_topC (g := g) (n := zs.length) (c := cap) (k := k3) hk3 hnc
                    obtain ⟨FX, r2, hsF⟩ : ∃ FX, (∀ w, (Instr.sliceAt 43 (.slice (some ⟨g, 0, none⟩) zs.length cap) (some (.int .i64 (k3 : Int))) none none).run Try.prog w = .ok (.slice FX (zs.length - k3) (cap - k3)) w) ∧ ∀ w, Cn.Rcs w (some ⟨g, 0, none⟩) zs.length cap zs → Src w FX (zs.length - k3) (cap - k3) 2 (Cn.cl (zs.drop k3)) := ⟨_, run_fromC hk3 hnc, fun w h => h.dropSrc hk3⟩
                    have HSF := Lib.hid (hsF wp IX.out)
                    have HST := Lib.hid (src_topC (IX.out.takeSrc hk3))
                    have OM := Lib.hid (World.ownsRow_made (base := wp.heap.size) (e := 58) (size := 2) wp #[] 0 (Nat.le_refl _) (by decide) (by simp))
                    have BA := Lib.hid ((Below.refl wp.heap.size wp).alloc (Nat.le_refl _) (.cells #[] 58))
                    have HIn := Lib.hid (show Cn.cl (rkR E os (kk + 1)) = (Cn.cl (zs.take k3) ++ Cn.enc ⟨tx, 1⟩) ++ Cn.cl (zs.drop k3) by rw [HT2.out, HIp.out, Cn.cl_append, Cn.cl_cons, List.append_assoc])
                    clear hsF R7 IX HO HEv HSd HAgi
                    go_upto_region 19 with (first
                      | (at_builtin; refine wpList_append_any _ rfl _ _ 43 rfl wp.heap.size 58 i0 _ 2 24 Try.underlying43 HI.out.1 HI.out.2.1 HI.out.2.2.1 HI.out.2.2.2 rfl (by decide) _ 0 [] rfl OM.out FX (zs.length - k3) (cap - k3) (Cn.cl (zs.drop k3)) rfl (HSF.out.below BA.out) (by unfold maxLen; omega) (by omega) BA.out.size ?_; intro v10 w10 hgr; have BX10 := Lib.hid (hgr.below BA.out OM.out); have O10 := Lib.hid (Cn.own_mono (show w10.ownsRow wp.heap.size 58 2 v10 (zs.length - k3) (Cn.cl (zs.drop k3)) by have := hgr.own; rw [Nat.zero_add, List.nil_append] at this; exact this) BX.out.size); have SA := Lib.hid (HST.out.below BX10.out); have B10 := Lib.hid (BX.out.trans (BX10.out.mono BX.out.size)); clear hgr)
                      | fail)
                    obtain ⟨A8, c8, rfl, hr8, _⟩ := Cn.Rcs.ofOwn O10.out (by rw [List.length_drop]) (by omega) (fun p hp => HFt.out p (List.mem_of_mem_drop hp))
                    have S8 := Lib.hid hr8.src
                    have R8 := Lib.hid (fun (u : World) (row : Option Nat) (hg : w10.grownBy u row) (hne : ∀ b off, A8 = some ⟨b, off, none⟩ → some b ≠ row) => (hr8.grew hg hne).src)
                    clear HST HSF OM BA r2 hr8
                    have SB := Lib.hid (fun (u : World) => Cn.blk_src (p := ⟨tx, 1⟩) (blk_new u (Cn.enc ⟨tx, 1⟩) 58))
                    have H8 := Lib.hid (fun b off (e : A8 = some ⟨b, off, none⟩) => (by subst e; exact (O10.out.lt b rfl).2 : b < w10.heap.size))
                    go_wp2_with (first
                      | (at_builtin; refine wpList_append_full rfl _ _ 43 rfl w.heap.size 58 i0 _ 2 24 Try.underlying43 HI.out.1 HI.out.2.1 HI.out.2.2.1 HI.out.2.2.2 rfl (some ⟨g, 0, none⟩) (by simp) k3 (Cn.cl (zs.take k3)) rfl (SA.out.below ((Below.refl w10.heap.size w10).alloc (Nat.le_refl _) _)) _ (by simp) 1 1 (Cn.enc ⟨tx, 1⟩) rfl (SB.out w10) (by decide) (by unfold maxLen; omega) (by omega) (B10.out.alloc B10.out.size _).size ?_; intro v2 w2 ho hgw hv; have O2 := Lib.hid ho; have HV2 := Lib.hid hv; have B2 := Lib.hid ((B10.out.alloc B10.out.size _).grown hgw (B10.out.alloc B10.out.size _).size (fun k hk => by cases hk)); have D2 := Lib.hid (((Below.refl w10.heap.size w10).alloc (Nat.le_refl _) _).grown hgw ((Below.refl w10.heap.size w10).alloc (Nat.le_refl _) _).size (fun k hk => by cases hk)); clear ho hgw hv)
                      | (at_builtin; refine wpList_append_any _ rfl _ _ 43 rfl w.heap.size 58 i0 _ 2 24 Try.underlying43 HI.out.1 HI.out.2.1 HI.out.2.2.1 HI.out.2.2.2 rfl (by decide) v2 (k3 + 1) (Cn.cl (zs.take k3) ++ Cn.enc ⟨tx, 1⟩) rfl O2.out A8 (zs.length - k3) c8 (Cn.cl (zs.drop k3)) rfl (S8.out.below D2.out) (by unfold maxLen; omega) (by omega) B2.out.size ?_; intro v3 w3 hgr; have B3 := Lib.hid (hgr.below B2.out O2.out); have O3 := Lib.hid hgr.own; have HV3 := Lib.hid (show v3.ownBlock ≠ none by rcases hgr.at_ with e | e <;> rw [e]; (rw [HV2.out]; simp); simp); clear hgr)
                      | go_in)
                    go_roundg (os.length - (kk + 1))
                    case measure => omega
                    case rel =>
                      refine ⟨kk + 1, v3, by omega, by omega, rfl, by go_num, Lib.hid ?_, B3, HV3⟩
                      have := O3.out
                      rw [show k3 + 1 + (zs.length - k3) = (rkR E os (kk + 1)).length by rw [HT2.out, HIp.out]; simp; have := hk3; omega, ← HIn.out] at this
                      exact this
              · have hl3z : ¬ (k3 : Int) < (zs.length : Int) := by omega
                have HIp := Lib.hid (Cn.inc_at hk3 HJ.out (fun h => absurd h hl3))
                clear HJ
                have BX := Lib.hid (BW.out.trans ((BQo.out).mono BW.out.size))
                have IX := Lib.hid (R7.out.below BQo.out)
                have r3 := run_topC (g := g) (n := zs.length) (c := cap) (k := k3) hk3 hnc
                obtain ⟨FX, r2, hsF⟩ : ∃ FX, (∀ w, (Instr.sliceAt 43 (.slice (some ⟨g, 0, none⟩) zs.length cap) (some (.int .i64 (k3 : Int))) none none).run Try.prog w = .ok (.slice FX (zs.length - k3) (cap - k3)) w) ∧ ∀ w, Cn.Rcs w (some ⟨g, 0, none⟩) zs.length cap zs → Src w FX (zs.length - k3) (cap - k3) 2 (Cn.cl (zs.drop k3)) := ⟨_, run_fromC hk3 hnc, fun w h => h.dropSrc hk3⟩
                have HSF := Lib.hid (hsF wp IX.out)
                have HST := Lib.hid (src_topC (IX.out.takeSrc hk3))
                have OM := Lib.hid (World.ownsRow_made (base := wp.heap.size) (e := 58) (size := 2) wp #[] 0 (Nat.le_refl _) (by decide) (by simp))
                have BA := Lib.hid ((Below.refl wp.heap.size wp).alloc (Nat.le_refl _) (.cells #[] 58))
                have HIn := Lib.hid (show Cn.cl (rkR E os (kk + 1)) = (Cn.cl (zs.take k3) ++ Cn.enc ⟨tx, 1⟩) ++ Cn.cl (zs.drop k3) by rw [HT2.out, HIp.out, Cn.cl_append, Cn.cl_cons, List.append_assoc])
                clear hsF R7 IX HO HEv HSd HAgi
                go_upto_region 19 with (first
                  | (at_builtin; refine wpList_append_any _ rfl _ _ 43 rfl wp.heap.size 58 i0 _ 2 24 Try.underlying43 HI.out.1 HI.out.2.1 HI.out.2.2.1 HI.out.2.2.2 rfl (by decide) _ 0 [] rfl OM.out FX (zs.length - k3) (cap - k3) (Cn.cl (zs.drop k3)) rfl (HSF.out.below BA.out) (by unfold maxLen; omega) (by omega) BA.out.size ?_; intro v10 w10 hgr; have BX10 := Lib.hid (hgr.below BA.out OM.out); have O10 := Lib.hid (Cn.own_mono (show w10.ownsRow wp.heap.size 58 2 v10 (zs.length - k3) (Cn.cl (zs.drop k3)) by have := hgr.own; rw [Nat.zero_add, List.nil_append] at this; exact this) BX.out.size); have SA := Lib.hid (HST.out.below BX10.out); have B10 := Lib.hid (BX.out.trans (BX10.out.mono BX.out.size)); clear hgr)
                  | fail)
                obtain ⟨A8, c8, rfl, hr8, _⟩ := Cn.Rcs.ofOwn O10.out (by rw [List.length_drop]) (by omega) (fun p hp => HFt.out p (List.mem_of_mem_drop hp))
                have S8 := Lib.hid hr8.src
                have R8 := Lib.hid (fun (u : World) (row : Option Nat) (hg : w10.grownBy u row) (hne : ∀ b off, A8 = some ⟨b, off, none⟩ → some b ≠ row) => (hr8.grew hg hne).src)
                clear HST HSF OM BA r2 hr8
                have SB := Lib.hid (fun (u : World) => Cn.blk_src (p := ⟨tx, 1⟩) (blk_new u (Cn.enc ⟨tx, 1⟩) 58))
                have H8 := Lib.hid (fun b off (e : A8 = some ⟨b, off, none⟩) => (by subst e; exact (O10.out.lt b rfl).2 : b < w10.heap.size))
                go_wp2_with (first
                  | (at_builtin; refine wpList_append_full rfl _ _ 43 rfl w.heap.size 58 i0 _ 2 24 Try.underlying43 HI.out.1 HI.out.2.1 HI.out.2.2.1 HI.out.2.2.2 rfl (some ⟨g, 0, none⟩) (by simp) k3 (Cn.cl (zs.take k3)) rfl (SA.out.below ((Below.refl w10.heap.size w10).alloc (Nat.le_refl _) _)) _ (by simp) 1 1 (Cn.enc ⟨tx, 1⟩) rfl (SB.out w10) (by decide) (by unfold maxLen; omega) (by omega) (B10.out.alloc B10.out.size _).size ?_; intro v2 w2 ho hgw hv; have O2 := Lib.hid ho; have HV2 := Lib.hid hv; have B2 := Lib.hid ((B10.out.alloc B10.out.size _).grown hgw (B10.out.alloc B10.out.size _).size (fun k hk => by cases hk)); have D2 := Lib.hid (((Below.refl w10.heap.size w10).alloc (Nat.le_refl _) _).grown hgw ((Below.refl w10.heap.size w10).alloc (Nat.le_refl _) _).size (fun k hk => by cases hk)); clear ho hgw hv)
                  | (at_builtin; refine wpList_append_any _ rfl _ _ 43 rfl w.heap.size 58 i0 _ 2 24 Try.underlying43 HI.out.1 HI.out.2.1 HI.out.2.2.1 HI.out.2.2.2 rfl (by decide) v2 (k3 + 1) (Cn.cl (zs.take k3) ++ Cn.enc ⟨tx, 1⟩) rfl O2.out A8 (zs.length - k3) c8 (Cn.cl (zs.drop k3)) rfl (S8.out.below D2.out) (by unfold maxLen; omega) (by omega) B2.out.size ?_; intro v3 w3 hgr; have B3 := Lib.hid (hgr.below B2.out O2.out); have O3 := Lib.hid hgr.own; have HV3 := Lib.hid (show v3.ownBlock ≠ none by rcases hgr.at_ with e | e <;> rw [e]; (rw [HV2.out]; simp); simp); clear hgr)
                  | go_in)
                go_roundg (os.length - (kk + 1))
                case measure => omega
                case rel =>
                  refine ⟨kk + 1, v3, by omega, by omega, rfl, by go_num, Lib.hid ?_, B3, HV3⟩
                  have := O3.out
                  rw [show k3 + 1 + (zs.length - k3) = (rkR E os (kk + 1)).length by rw [HT2.out, HIp.out]; simp; have := hk3; omega, ← HIn.out] at this
                  exact this
    · have hltz : ¬ (kk : Int) < (os.length : Int) := by omega
      obtain rfl : kk = os.length := by omega
      obtain ⟨A', c', rfl, hr, hnw⟩ := Cn.Rcs.ofOwn HO.out rfl (by have := HLn.out; omega) (fun p hp => (HZm.out p hp).1)
      have HR := Lib.hid hr
      have HNw := Lib.hid hnw
      clear hr hnw
      go_wp2
      go_ret
      exact ⟨A', c', rfl, HR.out, BW.out, HNw.out⟩
end Go.Proofs.Ytefajhfahnhcgaa
