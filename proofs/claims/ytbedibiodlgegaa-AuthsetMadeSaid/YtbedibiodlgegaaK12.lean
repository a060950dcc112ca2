/- Fits. Bound: a million parents. -/
import Derived.Test.YtbedibiodlgegaaK10
namespace Go.Proofs.Ytbedibiodlgegaa
open Go Go.RowKit
set_option linter.unusedVariables false
set_option linter.unusedSimpArgs false

def plN (E : Nat → Evd) (n : Nat) (z : Int) : Nat := (pl E n z).getD 0
/-- The events that the event names. -/
def paE (E : Nat → Evd) (n : Nat) (e : Evd) : List Evd := e.p9.map (fun z => E (plN E n z))
def kyE (a : Evd) : Ky.Rc := Ky.kz a.e3 a.e5
def allIn (E : Nat → Evd) (n : Nat) (e : Evd) : Bool := e.p9.all (fun z => (pl E n z).isSome)
def sameRm (E : Nat → Evd) (n : Nat) (e : Evd) : Bool := (paE E n e).all (fun a => a.e1.toList == e.e1.toList)
def badK (kl ps : List Ky.Rc) (j : Nat) : Bool := !(kl.any (isEq (ps.getD j Ky.t0))) || (ps.take j).any (isEq (ps.getD j Ky.t0))
def noBad (kl ps : List Ky.Rc) : Bool := (List.range ps.length).all (fun j => !badK kl ps j)
def fitsE (E : Nat → Evd) (n : Nat) (e : Evd) : Int :=
  if allIn E n e = false then 14 else if sameRm E n e = false then 13 else if noBad (keysE e) ((paE E n e).map kyE) = false then 16 else if e.e3 ≠ 1 ∧ ((paE E n e).map kyE).any is1 = false then 16 else 0
theorem all_no {α : Type} {l : List α} {f : α → Bool} {d : α} {k : Nat} (hk : k < l.length) (h : f (l.getD k d) = false) : l.all f = false := by
  rw [List.all_eq_false]
  rw [List.getD_eq_getElem?_getD, List.getElem?_eq_getElem hk] at h
  exact ⟨_, List.getElem_mem hk, by rw [show f l[k] = false from h]; decide⟩
theorem all_yes {α : Type} {l : List α} {f : α → Bool} {d : α} (h : ∀ k, k < l.length → f (l.getD k d) = true) : l.all f = true := by
  rw [List.all_eq_true]
  intro x hx
  obtain ⟨k, hk, rfl⟩ := List.getElem_of_mem hx
  have := h k hk
  rwa [List.getD_eq_getElem?_getD, List.getElem?_eq_getElem hk] at this
theorem noBad_no {kl ps : List Ky.Rc} {k : Nat} (hk : k < ps.length) (h : badK kl ps k = true) : noBad kl ps = false := by
  unfold noBad
  rw [List.all_eq_false]
  exact ⟨k, by simpa using hk, by rw [h]; decide⟩
theorem noBad_yes {kl ps : List Ky.Rc} (h : ∀ k, k < ps.length → badK kl ps k = false) : noBad kl ps = true := by
  unfold noBad
  rw [List.all_eq_true]
  intro k hk
  rw [h k (by simpa using hk)]; rfl
theorem fits14 {E : Nat → Evd} {n : Nat} {e : Evd} {k : Nat} (hk : k < e.p9.length) (h : pl E n (e.p9.getD k 0) = none) : fitsE E n e = 14 := by
  unfold fitsE allIn
  rw [if_pos (all_no (d := 0) (k := k) hk (by rw [h]; rfl))]
theorem fits13 {E : Nat → Evd} {n : Nat} {e : Evd} {k : Nat} (hk : k < e.p9.length) (h0 : allIn E n e = true) (h : ¬ ((paE E n e).getD k e).e1.toList = e.e1.toList) : fitsE E n e = 13 := by
  unfold fitsE
  rw [if_neg (by rw [h0]; decide), if_pos]
  unfold sameRm
  exact all_no (d := e) (k := k) (by unfold paE; rw [List.length_map]; exact hk) (beq_eq_false_iff_ne.2 h)
theorem fits16 {E : Nat → Evd} {n : Nat} {e : Evd} {k : Nat} (hk : k < e.p9.length) (h0 : allIn E n e = true) (h1 : sameRm E n e = true) (h : badK (keysE e) ((paE E n e).map kyE) k = true) : fitsE E n e = 16 := by
  unfold fitsE
  rw [if_neg (by rw [h0]; decide), if_neg (by rw [h1]; decide), if_pos]
  exact noBad_no (k := k) (by unfold paE; rw [List.length_map, List.length_map]; exact hk) h
theorem fits_end {E : Nat → Evd} {n : Nat} {e : Evd} (h0 : allIn E n e = true) (h1 : sameRm E n e = true) (h : ∀ k, k < e.p9.length → badK (keysE e) ((paE E n e).map kyE) k = false) : fitsE E n e = if e.e3 ≠ 1 ∧ ((paE E n e).map kyE).any is1 = false then 16 else 0 := by
  unfold fitsE
  rw [if_neg (by rw [h0]; decide), if_neg (by rw [h1]; decide), if_neg]
  rw [noBad_yes (fun k hk => h k (by unfold paE at hk; rw [List.length_map, List.length_map] at hk; exact hk))]; decide
theorem own_from {w : World} {B : Nat} {e : TypeId} {sz n : Nat} {v : Value} {xs : List Value} (h : w.ownsRow B e sz v n xs) : ∃ A c, v = .slice A n c ∧ (∀ b off, A = some ⟨b, off, none⟩ → B ≤ b) := by
  rcases h.2 with ⟨rfl, rfl⟩ | ⟨g, cap, cur, rfl, hB, _⟩
  · exact ⟨none, 0, rfl, fun b off e => by cases e⟩
  · exact ⟨_, _, rfl, fun b off e => by cases e; exact hB⟩
/-- What stands of an event in a list, wherever the world goes on to. -/
theorem Evx.parts {w : World} {b off n : Nat} {E : Nat → Evd} (h : Evx w (some ⟨b, off, none⟩) n E) {k : Nat} (hk : k < n) : EvP w b (off + k * 29) (E k).e3 (E k).e2 (E k).e5 (E k).C.n ∧ w.cell? ⟨b, off + k * 29 + 1, none⟩ = some (.string (E k).e1) := by
  obtain ⟨b', off', e, hlt, hc⟩ := h.at_ (by omega)
  cases e
  have R := hc k hk
  exact ⟨⟨hlt, R 2 _ rfl, R 3 _ rfl, R 5 _ rfl, R 11 _ rfl⟩, R 1 _ rfl⟩
theorem info63 : (Try.prog.info? 63).map (fun i => (i.zero, i.size, i.bytes)) = some (some (.pointer none), 1, 8) := by kernel_rfl
theorem take_set1 {α : Type} {l : List α} {k : Nat} (hk : k < l.length) (x : α) : (l.set k x).take (k + 1) = l.take k ++ [x] := by
  rw [List.take_succ_eq_append_getElem (by simpa using hk), List.getElem_set_self, List.take_set_of_le (Nat.le_refl k)]
/-- Where an event of the list lies. -/
def ptr (b off : Nat) (E : Nat → Evd) (n : Nat) (z : Int) : Value := .pointer (some ⟨b, off + plN E n z * 29, none⟩)
set_option maxRecDepth 100000 in
set_option maxHeartbeats 8000000 in
theorem fits19 (A : Option Addr) (n c : Nat) (E : Nat → Evd) (e : Evd) (w : World) (h : Evx w A n E) (hw : Wfe e) (h9 : Its w e.a9 e.n9 e.c9 e.p9) (hn : e.n9 ≤ 1000000) : Calls Try.prog 19 #[.slice A n c, .agg (cellsE e).toArray] w fun r w' => r = .returned (.int .i64 (fitsE E n e)) ∧ Below w.heap.size w w' := by
  show Calls Try.prog 19 #[.slice A n c, .agg #[.int .i64 e.e0, .string e.e1, .string e.e2, .int .i64 e.e3, .bool e.e4, .string e.e5, .int .i64 e.e6, .int .i64 e.e7, .slice e.a8 e.n8 e.c8, .slice e.a9 e.n9 e.c9, .string e.C.tx, .int .i64 e.C.n, .int .i64 e.C.tg, .bool e.C.th, .string e.C.via, .slice e.a.aA e.C.nA e.a.aC, .slice e.a.dA e.C.nD e.a.dC, .slice e.a.uA e.C.lv.nU e.a.uC, .slice e.a.kA e.C.lv.nK e.a.kC, .int .i64 e.C.lv.d, .int .i64 e.C.lv.x3, .int .i64 e.C.lv.x4, .int .i64 e.C.lv.x5, .int .i64 e.C.lv.x6, .int .i64 e.C.lv.x7, .int .i64 e.C.lv.x8, .int .i64 e.e26, .string e.e27, .int .i64 e.e28]] w _
  generalize ha9 : e.a9 = a9
  generalize hx3 : e.e3 = x3
  have HX3 := Lib.hid hx3
  rw [ha9] at h9
  obtain ⟨b0, off0, hA⟩ : ∃ b off, 0 < n → A = some ⟨b, off, none⟩ := by
    by_cases h0 : 0 < n
    · obtain ⟨b, off, e1, _⟩ := h.at_ h0; exact ⟨b, off, fun _ => e1⟩
    · exact ⟨0, 0, fun h1 => absurd h1 h0⟩
  have HA := Lib.hid hA
  have H := Lib.hid h
  have H9 := Lib.hid h9
  have HWf := Lib.hid hw
  have hbig := h.big
  have hl9 := h9.len
  have hc9 := h9.cap
  have BA := Lib.hid ((Below.refl w.heap.size w).alloc (Nat.le_refl _) (.cells #[.int .i64 e.e0, .string e.e1, .string e.e2, .int .i64 x3, .bool e.e4, .string e.e5, .int .i64 e.e6, .int .i64 e.e7, .slice e.a8 e.n8 e.c8, .slice a9 e.n9 e.c9, .string e.C.tx, .int .i64 e.C.n, .int .i64 e.C.tg, .bool e.C.th, .string e.C.via, .slice e.a.aA e.C.nA e.a.aC, .slice e.a.dA e.C.nD e.a.dC, .slice e.a.uA e.C.lv.nU e.a.uC, .slice e.a.kA e.C.lv.nK e.a.kC, .int .i64 e.C.lv.d, .int .i64 e.C.lv.x3, .int .i64 e.C.lv.x4, .int .i64 e.C.lv.x5, .int .i64 e.C.lv.x6, .int .i64 e.C.lv.x7, .int .i64 e.C.lv.x8, .int .i64 e.e26, .string e.e27, .int .i64 e.e28] 34))
  have XA : Hid (Blk (w.alloc (.cells #[.int .i64 e.e0, .string e.e1, .string e.e2, .int .i64 x3, .bool e.e4, .string e.e5, .int .i64 e.e6, .int .i64 e.e7, .slice e.a8 e.n8 e.c8, .slice a9 e.n9 e.c9, .string e.C.tx, .int .i64 e.C.n, .int .i64 e.C.tg, .bool e.C.th, .string e.C.via, .slice e.a.aA e.C.nA e.a.aC, .slice e.a.dA e.C.nD e.a.dC, .slice e.a.uA e.C.lv.nU e.a.uC, .slice e.a.kA e.C.lv.nK e.a.kC, .int .i64 e.C.lv.d, .int .i64 e.C.lv.x3, .int .i64 e.C.lv.x4, .int .i64 e.C.lv.x5, .int .i64 e.C.lv.x6, .int .i64 e.C.lv.x7, .int .i64 e.C.lv.x8, .int .i64 e.e26, .string e.e27, .int .i64 e.e28] 34)) w.heap.size (#[.int .i64 e.e0, .string e.e1, .string e.e2, .int .i64 x3, .bool e.e4, .string e.e5, .int .i64 e.e6, .int .i64 e.e7, .slice e.a8 e.n8 e.c8, .slice a9 e.n9 e.c9, .string e.C.tx, .int .i64 e.C.n, .int .i64 e.C.tg, .bool e.C.th, .string e.C.via, .slice e.a.aA e.C.nA e.a.aC, .slice e.a.dA e.C.nD e.a.dC, .slice e.a.uA e.C.lv.nU e.a.uC, .slice e.a.kA e.C.lv.nK e.a.kC, .int .i64 e.C.lv.d, .int .i64 e.C.lv.x3, .int .i64 e.C.lv.x4, .int .i64 e.C.lv.x5, .int .i64 e.C.lv.x6, .int .i64 e.C.lv.x7, .int .i64 e.C.lv.x8, .int .i64 e.e26, .string e.e27, .int .i64 e.e28] : Array Value).toList 34) := Lib.hid (by rw [← ha9, ← hx3]; exact blk_new w (cellsE e) 34)
  clear ha9 hx3
  obtain ⟨i0, hi, hz0, hz1, hz2⟩ := info_parts info63
  have HI := Lib.hid (And.intro hi (And.intro hz0 (And.intro hz1 hz2)))
  obtain ⟨i6, hi6, hz60, hz61, hz62⟩ := info_parts info64
  have HI6 := Lib.hid (And.intro hi6 (And.intro hz60 (And.intro hz61 hz62)))
  obtain ⟨wa, hwa⟩ : ∃ wa, w.alloc (.cells #[.int .i64 e.e0, .string e.e1, .string e.e2, .int .i64 x3, .bool e.e4, .string e.e5, .int .i64 e.e6, .int .i64 e.e7, .slice e.a8 e.n8 e.c8, .slice a9 e.n9 e.c9, .string e.C.tx, .int .i64 e.C.n, .int .i64 e.C.tg, .bool e.C.th, .string e.C.via, .slice e.a.aA e.C.nA e.a.aC, .slice e.a.dA e.C.nD e.a.dC, .slice e.a.uA e.C.lv.nU e.a.uC, .slice e.a.kA e.C.lv.nK e.a.kC, .int .i64 e.C.lv.d, .int .i64 e.C.lv.x3, .int .i64 e.C.lv.x4, .int .i64 e.C.lv.x5, .int .i64 e.C.lv.x6, .int .i64 e.C.lv.x7, .int .i64 e.C.lv.x8, .int .i64 e.e26, .string e.e27, .int .i64 e.e28] 34) = wa := ⟨_, rfl⟩
  have hwas : wa.heap.size = w.heap.size + 1 := by rw [← hwa, World.size_alloc]
  rw [hwa] at BA XA
  have HN14 := Lib.hid (fun k hk h1 => fits14 (E := E) (n := n) (e := e) (k := k) (by rw [hl9]; exact hk) h1)
  clear hA h h9 hw hi hz0 hz1 hz2 hi6 hz60 hz61 hz62
  go_enter Try.func19, Try.ntmps19
  have XA0 := XA
  rw [← hwa] at XA0
  have HWA := Lib.hid hwa
  clear hwa
  have k9 := XA0.out.cell (i := 9) (v := .slice a9 e.n9 e.c9) rfl
  go_wp2_with (first
    | (at_make; refine wpList_make_full _ rfl _ _ 69 rfl (w.heap.size + 1) 63 i0 (.pointer none) 1 Try.underlying69 HI.out.1 HI.out.2.1 HI.out.2.2.1 _ _ _ _ e.n9 rfl rfl rfl rfl (by rw [HI.out.2.2.2]; omega) (by unfold maxLen; omega) (by simp) ?_; intro w2 hown2 hg2; have O2 := Lib.hid hown2; have G2 := Lib.hid hg2; have B2 := Lib.hid ((Below.refl (w.heap.size + 1) _).grown hg2 (by simp) (fun k hk => by cases hk)); clear hown2 hg2; rw [HWA.out] at B2 G2 O2; have XA2 := Lib.hid (XA.out.below (by rw [hwas]; exact B2.out)); clear k9; have k9 := XA2.out.cell (i := 9) (v := .slice a9 e.n9 e.c9) rfl)
    | go_in)
  obtain ⟨cu0, hcu0, hcl0⟩ : ∃ cu, Blk w2 (w.heap.size + 1) cu 63 ∧ cu.length = e.n9 := by
    rcases O2.out.2 with ⟨hv, _⟩ | ⟨g, cap, cur, hv, hB, hg, hnc, hcm, hs, ht⟩
    · cases hv
    · simp only [Value.slice.injEq, Option.some.injEq, Addr.mk.injEq, and_true, true_and] at hv
      obtain ⟨rfl, rfl⟩ := hv
      rw [hwas] at hg
      exact ⟨cur.toList, ⟨by rw [Array.toArray_toList]; exact hg⟩, by rw [Array.length_toList]; omega⟩
  have K2 := Lib.hid hcu0
  clear hcu0 O2 G2 k9
  go_loopg [6, 7, 8, 24] e.n9 (fun gg _ _ _ s24 wr => ∃ (kk : Nat) (cu : List Value), kk ≤ e.n9 ∧ e.n9 - kk ≤ gg ∧ s24 = .int .i64 (kk : Int) ∧ Hid (Blk wr (w.heap.size + 1) cu 63) ∧ cu.length = e.n9 ∧ Hid (cu.take kk = (e.p9.take kk).map (ptr b0 off0 E n)) ∧ Hid (∀ j, j < kk → (pl E n (e.p9.getD j 0)).isSome = true) ∧ Hid (Below (w.heap.size + 1) wa wr))
  case atStart => exact ⟨0, cu0, Nat.zero_le _, by omega, rfl, K2, hcl0, Lib.hid (by simp), Lib.hid (fun j hj => absurd hj (Nat.not_lt_zero _)), B2⟩
  case round =>
    obtain ⟨kk, cu, hkk, hg, rfl, K7, hcu, HT, HJ, BX⟩ := hrel
    have BW := Lib.hid (BA.out.trans (BX.out.mono (Nat.le_succ _)))
    by_cases hlt : kk < e.n9
    · have hltz : (kk : Int) < (e.n9 : Int) := by omega
      have hk0 : (0 : Int) ≤ (kk : Int) := by omega
      obtain ⟨b9, o9, rfl, hb9, q9, _⟩ := (H9.out.below BW.out).get hlt
      have CF := Lib.hid (find35 A n c (e.p9.getD kk 0) E wr (H.out.below BW.out))
      have HTk := Lib.hid (show (e.p9.take (kk + 1)).map (ptr b0 off0 E n) = (e.p9.take kk).map (ptr b0 off0 E n) ++ [ptr b0 off0 E n (e.p9.getD kk 0)] by
        rw [List.take_succ_eq_append_getElem (by omega), List.map_append, List.getD_eq_getElem?_getD, List.getElem?_eq_getElem (by omega)]; rfl)
      have HE14 := Lib.hid (HN14.out kk hlt)
      have HJ1 : Hid ((pl E n (e.p9.getD kk 0)).isSome = true → ∀ j, j < kk + 1 → (pl E n (e.p9.getD j 0)).isSome = true) := Lib.hid (fun h1 j hj => by
        by_cases e1 : j = kk
        · subst e1; exact h1
        · exact HJ.out j (by omega))
      generalize e.p9.getD kk 0 = z at q9 CF HTk HE14 HJ1
      cases hp : pl E n z with
      | none =>
        rw [hp, show plI none = -1 from rfl] at CF
        have HE := Lib.hid (HE14.out hp)
        clear hp HJ1 HE14 HTk
        go_wp2_with (first
          | (go_at_call 35; (with_reducible refine CF.out.mono ?_); rintro r w' ⟨rfl, rfl⟩)
          | go_in)
        go_ret
        exact ⟨ret_i6 HE.out.symm, BW.out⟩
      | some k =>
        have hkn := pl_lt hp
        have hA' := HA.out (by omega)
        have HJ2 := Lib.hid (HJ1.out (by rw [hp]; rfl))
        have HPt := Lib.hid (show ptr b0 off0 E n z = .pointer (some ⟨b0, off0 + k * 29, none⟩) by unfold ptr plN; rw [hp]; rfl)
        rw [hp, show plI (some k) = (k : Int) from rfl] at CF
        have hkz : (k : Int) < (n : Int) := by omega
        have hkz0 : (0 : Int) ≤ (k : Int) := by omega
        have hkz1 : ¬ (k : Int) < 0 := by omega
        clear hp HJ1 HE14
        subst hA'
        have k0 := K7.out.cell (List.getElem?_eq_getElem (show kk < cu.length by omega))
        have z0 := K7.out.free kk
        have hgl := K7.out.lt
        generalize cu[kk] = old at k0
        go_wp2_with (first
          | (go_at_call 35; (with_reducible refine CF.out.mono ?_); rintro r w' ⟨rfl, rfl⟩)
          | go_in)
        go_roundg (e.n9 - (kk + 1))
        case measure => omega
        case rel => exact ⟨kk + 1, cu.set kk (.pointer (some ⟨b0, off0 + k * 29, none⟩)), by omega, by omega, by go_num, Lib.hid (K7.out.set kk _), by rw [List.length_set]; exact hcu, Lib.hid (by rw [take_set1 (by omega), HT.out, HTk.out, HPt.out]), HJ2, Lib.hid (BX.out.setCell (p := ⟨w.heap.size + 1, kk, none⟩) (Nat.le_refl _) _)⟩
    · have hltz : ¬ (kk : Int) < (e.n9 : Int) := by omega
      have HAll := Lib.hid (show ∀ j, j < e.n9 → (pl E n (e.p9.getD j 0)).isSome = true from fun j hj => HJ.out j (by omega))
      have HCu := Lib.hid (show cu = e.p9.map (ptr b0 off0 E n) by
        have h1 := HT.out
        rw [List.take_of_length_le (by omega), List.take_of_length_le (by omega)] at h1
        exact h1)
      have HIn := Lib.hid (show allIn E n e = true from all_yes (d := 0) (fun j hj => HAll.out j (by omega)))
      go_wp2
      clear HT HJ HN14
      go_loopg [10, 43] e.n9 (fun gg _ s43 wr => ∃ (kk : Nat), kk ≤ e.n9 ∧ e.n9 - kk ≤ gg ∧ s43 = .int .i64 (kk : Int) ∧ Hid (∀ j, j < kk → ((paE E n e).getD j e).e1.toList = e.e1.toList) ∧ Hid (Below (w.heap.size + 1) wa wr) ∧ Hid (Blk wr (w.heap.size + 1) cu 63))
      case atStart => exact ⟨0, Nat.zero_le _, by omega, rfl, Lib.hid (fun j hj => absurd hj (Nat.not_lt_zero _)), BX, K7⟩
      case round =>
        clear K7 BX BW
        obtain ⟨kk, hkk, hg, rfl, HJ, BX, K7⟩ := hrel
        have BW := Lib.hid (BA.out.trans (BX.out.mono (Nat.le_succ _)))
        have HZs := Lib.hid BW.out.size
        have HZt := Lib.hid (show w.heap.size + 1 ≤ wr.heap.size by have := BX.out.size; omega)
        by_cases hlt : kk < e.n9
        · have hltz : (kk : Int) < (e.n9 : Int) := by omega
          have hk0 : (0 : Int) ≤ (kk : Int) := by omega
          obtain ⟨k, hp⟩ := Option.isSome_iff_exists.1 (HAll.out kk hlt)
          have hkn := pl_lt hp
          have hpk : plN E n (e.p9.getD kk 0) = k := by unfold plN; rw [hp]; rfl
          have hA' := HA.out (by omega)
          subst hA'
          have hH := H.out.below BW.out
          have HX := Lib.hid (fun v (hb : Below wr.heap.size wr v) => ((hH.below hb).parts hkn).2)
          have HPa := Lib.hid (show (paE E n e).getD kk e = E k from by
            unfold paE
            rw [List.getD_eq_getElem?_getD, List.getElem?_map, List.getElem?_eq_getElem (by omega)]
            show E (plN E n e.p9[kk]) = E k
            rw [← hpk, List.getD_eq_getElem?_getD, List.getElem?_eq_getElem (by omega)]; rfl)
          have k0 : wr.cell? ⟨w.heap.size + 1, kk, none⟩ = some (.pointer (some ⟨b0, off0 + k * 29, none⟩)) := K7.out.cell (by
            rw [HCu.out, List.getElem?_map, List.getElem?_eq_getElem (by omega)]
            show some (ptr b0 off0 E n e.p9[kk]) = _
            unfold ptr
            rw [← hpk, List.getD_eq_getElem?_getD, List.getElem?_eq_getElem (by omega)]; rfl)
          have HR2 := Lib.hid (fun v (hb : Below wr.heap.size wr v) => ((XA.out.below (by rw [hwas]; exact BX.out.trans (hb.mono HZt.out))).cell (i := 1) (v := .string e.e1) rfl))
          have HN13 := Lib.hid (fun h1 => fits13 (E := E) (n := n) (e := e) (k := kk) (by rw [hl9]; exact hlt) HIn.out h1)
          have HJ2 : Hid (((paE E n e).getD kk e).e1.toList = e.e1.toList → ∀ j, j < kk + 1 → ((paE E n e).getD j e).e1.toList = e.e1.toList) := Lib.hid (fun h1 j hj => by
            by_cases e1 : j = kk
            · subst e1; exact h1
            · exact HJ.out j (by omega))
          rw [HPa.out] at HJ2 HN13
          clear hH hp hpk HPa
          generalize (E k).e1 = r1 at HX HJ2 HN13
          have HR1 := Lib.hid (fun v (hb : Below wr.heap.size wr v) => HX.out v hb)
          clear HX
          by_cases hr : r1.toList = e.e1.toList
          · have z1 : (r1.toList == e.e1.toList) = true := beq_iff_eq.2 hr
            have HJ3 := Lib.hid (HJ2.out hr)
            clear hr HJ2 HN13
            go_upto_region 13 with (fail)
            refine wp_region_held_drew (S := (fun y => Below wr.heap.size wr y)) (by kernel_rfl) ((Below.refl wr.heap.size wr).drew) (fun hH0 => ?_)
            generalize hy0 : World.drew _ = y0 at hH0 ⊢
            have RB0 : Hid (Below wr.heap.size wr y0) := Lib.hid hH0
            clear hy0
            refine wpAnyH_take (i := 0) (oi := ({ dst := some 47, op := Op.move (Operand.tmp 10), type := 63, pos := "authset.go:82", after := #[], guard := none } : Oper)) (v := ?hv5) rfl (by kernel_rfl) (by kernel_rfl) (by kernel_rfl) (fun _ _ _ h => h) (Or.inl ⟨by rfl, ?hy5⟩) (by assumption) ?hr5
            case hy5 => (intro w hSw; (try dsimp only at hSw); go_simp; (try with_reducible rfl))
            try simp only [Act.put, List.setIfInBounds_toArray, List.set_cons_zero, List.set_cons_succ]
            refine wpAnyH_take (i := 1) (oi := ({ dst := some 48, op := Op.nilCheck (Operand.tmp 47), type := 0, pos := "authset.go:82", after := #[{ on := 0, ground := Ground.data }], guard := none } : Oper)) (v := ?hv6) rfl (by kernel_rfl) (by kernel_rfl) (by kernel_rfl) (fun _ _ _ h => h) (Or.inl ⟨by rfl, ?hy6⟩) (by assumption) ?hr6
            case hy6 => (intro w hSw; (try dsimp only at hSw); go_simp; (try with_reducible rfl))
            try simp only [Act.put, List.setIfInBounds_toArray, List.set_cons_zero, List.set_cons_succ]
            refine wpAnyH_take (i := 2) (oi := ({ dst := some 49, op := Op.fieldAddr 34 (Operand.tmp 48) 1, type := 0, pos := "authset.go:82", after := #[{ on := 1, ground := Ground.data }], guard := none } : Oper)) (v := ?hv7) rfl (by kernel_rfl) (by kernel_rfl) (by kernel_rfl) (fun _ _ _ h => h) (Or.inl ⟨by rfl, ?hy7⟩) (by assumption) ?hr7
            case hy7 => (intro w hSw; (try dsimp only at hSw); go_simp; (try with_reducible rfl))
            try simp only [Act.put, List.setIfInBounds_toArray, List.set_cons_zero, List.set_cons_succ]
            refine wpAnyH_take (i := 3) (oi := ({ dst := some 50, op := Op.load 9 (Operand.tmp 49), type := 9, pos := "authset.go:82", after := #[{ on := 2, ground := Ground.data }], guard := none } : Oper)) (v := .string r1) rfl (by kernel_rfl) (by kernel_rfl) (by kernel_rfl) (fun _ _ _ h => h) (Or.inl ⟨by rfl, fun w0 hw0 => by have q0 := HR1.out w0 hw0; go_simp⟩) (by assumption) ?_
            try simp only [Act.put, List.setIfInBounds_toArray, List.set_cons_zero, List.set_cons_succ]
            refine wpAnyH_take (i := 4) (oi := ({ dst := some 51, op := Op.fieldAddr 34 (Operand.tmp 3) 1, type := 0, pos := "authset.go:82", after := #[], guard := none } : Oper)) (v := ?hv8) rfl (by kernel_rfl) (by kernel_rfl) (by kernel_rfl) (fun _ _ _ h => h) (Or.inl ⟨by rfl, ?hy8⟩) (by assumption) ?hr8
            case hy8 => (intro w hSw; (try dsimp only at hSw); go_simp; (try with_reducible rfl))
            try simp only [Act.put, List.setIfInBounds_toArray, List.set_cons_zero, List.set_cons_succ]
            refine wpAnyH_take (i := 5) (oi := ({ dst := some 52, op := Op.load 9 (Operand.tmp 51), type := 9, pos := "authset.go:82", after := #[{ on := 4, ground := Ground.data }], guard := none } : Oper)) (v := .string e.e1) rfl (by kernel_rfl) (by kernel_rfl) (by kernel_rfl) (fun _ _ _ h => h) (Or.inl ⟨by rfl, fun w0 hw0 => by have q0 := HR2.out w0 hw0; go_simp⟩) (by assumption) ?_
            try simp only [Act.put, List.setIfInBounds_toArray, List.set_cons_zero, List.set_cons_succ]
            refine wpAnyH_take (i := 6) (oi := ({ dst := some 53, op := Op.binOp BinOp.neq 9 (Operand.tmp 50) (Operand.tmp 52) 9, type := 4, pos := "authset.go:82", after := #[{ on := 3, ground := Ground.data }, { on := 5, ground := Ground.data }], guard := none } : Oper)) (v := .bool false) rfl (by kernel_rfl) (by kernel_rfl) (by kernel_rfl) (fun _ _ _ h => h) (Or.inl ⟨by rfl, fun w0 hw0 => by go_simp⟩) (by assumption) ?_
            try simp only [Act.put, List.setIfInBounds_toArray, List.set_cons_zero, List.set_cons_succ]
            refine wpAnyH_done (by kernel_rfl) ?_ _
            go_wp2
            go_roundg (e.n9 - (kk + 1))
            case measure => omega
            case rel => exact ⟨kk + 1, by omega, by omega, by go_num, HJ3, Lib.hid (BX.out.trans (RB0.out.mono HZt.out)), Lib.hid (K7.out.below RB0.out)⟩
          · have z1 : (r1.toList == e.e1.toList) = false := beq_eq_false_iff_ne.2 hr
            have HE := Lib.hid (HN13.out hr)
            clear hr HJ2 HN13
            go_upto_region 13 with (fail)
            refine wp_region_held_drew (S := (fun y => Below wr.heap.size wr y)) (by kernel_rfl) ((Below.refl wr.heap.size wr).drew) (fun hH0 => ?_)
            generalize hy0 : World.drew _ = y0 at hH0 ⊢
            have RB0 : Hid (Below wr.heap.size wr y0) := Lib.hid hH0
            clear hy0
            refine wpAnyH_take (i := 0) (oi := ({ dst := some 47, op := Op.move (Operand.tmp 10), type := 63, pos := "authset.go:82", after := #[], guard := none } : Oper)) (v := ?hv1) rfl (by kernel_rfl) (by kernel_rfl) (by kernel_rfl) (fun _ _ _ h => h) (Or.inl ⟨by rfl, ?hy1⟩) (by assumption) ?hr1
            case hy1 => (intro w hSw; (try dsimp only at hSw); go_simp; (try with_reducible rfl))
            try simp only [Act.put, List.setIfInBounds_toArray, List.set_cons_zero, List.set_cons_succ]
            refine wpAnyH_take (i := 1) (oi := ({ dst := some 48, op := Op.nilCheck (Operand.tmp 47), type := 0, pos := "authset.go:82", after := #[{ on := 0, ground := Ground.data }], guard := none } : Oper)) (v := ?hv2) rfl (by kernel_rfl) (by kernel_rfl) (by kernel_rfl) (fun _ _ _ h => h) (Or.inl ⟨by rfl, ?hy2⟩) (by assumption) ?hr2
            case hy2 => (intro w hSw; (try dsimp only at hSw); go_simp; (try with_reducible rfl))
            try simp only [Act.put, List.setIfInBounds_toArray, List.set_cons_zero, List.set_cons_succ]
            refine wpAnyH_take (i := 2) (oi := ({ dst := some 49, op := Op.fieldAddr 34 (Operand.tmp 48) 1, type := 0, pos := "authset.go:82", after := #[{ on := 1, ground := Ground.data }], guard := none } : Oper)) (v := ?hv3) rfl (by kernel_rfl) (by kernel_rfl) (by kernel_rfl) (fun _ _ _ h => h) (Or.inl ⟨by rfl, ?hy3⟩) (by assumption) ?hr3
            case hy3 => (intro w hSw; (try dsimp only at hSw); go_simp; (try with_reducible rfl))
            try simp only [Act.put, List.setIfInBounds_toArray, List.set_cons_zero, List.set_cons_succ]
            refine wpAnyH_take (i := 3) (oi := ({ dst := some 50, op := Op.load 9 (Operand.tmp 49), type := 9, pos := "authset.go:82", after := #[{ on := 2, ground := Ground.data }], guard := none } : Oper)) (v := .string r1) rfl (by kernel_rfl) (by kernel_rfl) (by kernel_rfl) (fun _ _ _ h => h) (Or.inl ⟨by rfl, fun w0 hw0 => by have q0 := HR1.out w0 hw0; go_simp⟩) (by assumption) ?_
            try simp only [Act.put, List.setIfInBounds_toArray, List.set_cons_zero, List.set_cons_succ]
            refine wpAnyH_take (i := 4) (oi := ({ dst := some 51, op := Op.fieldAddr 34 (Operand.tmp 3) 1, type := 0, pos := "authset.go:82", after := #[], guard := none } : Oper)) (v := ?hv4) rfl (by kernel_rfl) (by kernel_rfl) (by kernel_rfl) (fun _ _ _ h => h) (Or.inl ⟨by rfl, ?hy4⟩) (by assumption) ?hr4
            case hy4 => (intro w hSw; (try dsimp only at hSw); go_simp; (try with_reducible rfl))
            try simp only [Act.put, List.setIfInBounds_toArray, List.set_cons_zero, List.set_cons_succ]
            refine wpAnyH_take (i := 5) (oi := ({ dst := some 52, op := Op.load 9 (Operand.tmp 51), type := 9, pos := "authset.go:82", after := #[{ on := 4, ground := Ground.data }], guard := none } : Oper)) (v := .string e.e1) rfl (by kernel_rfl) (by kernel_rfl) (by kernel_rfl) (fun _ _ _ h => h) (Or.inl ⟨by rfl, fun w0 hw0 => by have q0 := HR2.out w0 hw0; go_simp⟩) (by assumption) ?_
            try simp only [Act.put, List.setIfInBounds_toArray, List.set_cons_zero, List.set_cons_succ]
            refine wpAnyH_take (i := 6) (oi := ({ dst := some 53, op := Op.binOp BinOp.neq 9 (Operand.tmp 50) (Operand.tmp 52) 9, type := 4, pos := "authset.go:82", after := #[{ on := 3, ground := Ground.data }, { on := 5, ground := Ground.data }], guard := none } : Oper)) (v := .bool true) rfl (by kernel_rfl) (by kernel_rfl) (by kernel_rfl) (fun _ _ _ h => h) (Or.inl ⟨by rfl, fun w0 hw0 => by go_simp⟩) (by assumption) ?_
            try simp only [Act.put, List.setIfInBounds_toArray, List.set_cons_zero, List.set_cons_succ]
            refine wpAnyH_done (by kernel_rfl) ?_ _
            go_wp2
            go_ret
            exact ⟨ret_i6 HE.out.symm, BW.out.trans (RB0.out.mono HZs.out)⟩
        · have hltz : ¬ (kk : Int) < (e.n9 : Int) := by omega
          have HSm := Lib.hid (show sameRm E n e = true from all_yes (d := e) (fun j hj => beq_iff_eq.2 (HJ.out j (by unfold paE at hj; rw [List.length_map] at hj; omega))))
          have HEnd := Lib.hid (fun h1 => fits_end (E := E) (n := n) (e := e) HIn.out HSm.out h1)
          have HBad := Lib.hid (fun k (hk : k < e.n9) h1 => fits16 (E := E) (n := n) (e := e) (k := k) (by rw [hl9]; exact hk) HIn.out HSm.out h1)
          have XAw := XA.out.below (by rw [hwas]; exact BX.out)
          have hk3 : wr.cell? ⟨w.heap.size, 3, none⟩ = some (.int .i64 x3) := XAw.cell (i := 3) rfl
          have HK := Lib.hid (keysOf29 w.heap.size 0 x3 e.e2 e.e5 e.C.n wr ⟨XAw.lt, XAw.cell (i := 2) rfl, hk3, XAw.cell (i := 5) rfl, XAw.cell (i := 11) rfl⟩ HWf.out.s2 HWf.out.s5)
          have HKL := Lib.hid (keys_len e)
          have HPs := Lib.hid (show ∀ k, k < e.n9 → ∃ j, j < n ∧ A = some ⟨b0, off0, none⟩ ∧ wr.cell? ⟨w.heap.size + 1, k, none⟩ = some (.pointer (some ⟨b0, off0 + j * 29, none⟩)) ∧ ((paE E n e).map kyE).getD k Ky.t0 = Ky.kz (E j).e3 (E j).e5 from fun k hk => by
            obtain ⟨j, hp⟩ := Option.isSome_iff_exists.1 (HAll.out k hk)
            have hpk : plN E n (e.p9.getD k 0) = j := by unfold plN; rw [hp]; rfl
            refine ⟨j, pl_lt hp, HA.out (by have := pl_lt hp; omega), K7.out.cell (by
              rw [HCu.out, List.getElem?_map, List.getElem?_eq_getElem (by omega)]
              show some (ptr b0 off0 E n e.p9[k]) = _
              unfold ptr
              rw [← hpk, List.getD_eq_getElem?_getD, List.getElem?_eq_getElem (by omega)]; rfl), ?_⟩
            unfold paE
            rw [List.getD_eq_getElem?_getD, List.getElem?_map, List.getElem?_map, List.getElem?_eq_getElem (by omega)]
            show kyE (E (plN E n e.p9[k])) = _
            rw [← hpk, List.getD_eq_getElem?_getD, List.getElem?_eq_getElem (by omega)]; rfl)
          have HPf := Lib.hid (show ∀ p ∈ (paE E n e).map kyE, Ky.fitR p from fun p hp => by
            obtain ⟨a, ha, rfl⟩ := List.mem_map.1 hp
            obtain ⟨z, hz, rfl⟩ := List.mem_map.1 ha
            have h1 := (List.all_eq_true.1 HIn.out) z hz
            obtain ⟨j, hj⟩ := Option.isSome_iff_exists.1 h1
            have hpk : plN E n z = j := by unfold plN; rw [hj]; rfl
            rw [hpk]
            exact (H.out.wf j (pl_lt hj)).s5)
          have HPl := Lib.hid (show ((paE E n e).map kyE).length = e.n9 by unfold paE; rw [List.length_map, List.length_map]; exact hl9)
          unfold KeysP at HK
          rw [show Ky.keysL x3 e.e2 e.e5 e.C.n = keysE e by rw [← HX3.out]; rfl] at HK
          generalize (paE E n e).map kyE = ps at HEnd HBad HPs HPf HPl
          generalize keysE e = kl at HK HKL HEnd HBad
          clear HCu HJ HAll K7
          go_wp2_with (first
            | (go_at_call 29; (with_reducible refine HK.out.mono ?_); rintro e1 w3 ⟨A3, c3, rfl, hr, hb, hf3⟩; have R3 := Lib.hid hr; have B3 := Lib.hid hb; clear hr hb hf3)
            | go_in)
          have O3 : Hid ((w3.alloc (.cells #[] 64)).ownsRow w3.heap.size 64 3 (.slice (some ⟨w3.heap.size, 0, none⟩) 0 0) 0 (Ky.cl (ps.take 0))) := Lib.hid (World.ownsRow_made (base := w3.heap.size) (e := 64) (size := 3) w3 #[] 0 (Nat.le_refl _) (by decide) (by simp))
          have C3 := Lib.hid ((Below.refl w3.heap.size w3).alloc (Nat.le_refl _) (.cells #[] 64))
          have BW3 := Lib.hid (BW.out.trans (B3.out.mono BW.out.size))
          have HPs3 := Lib.hid (show ∀ k, k < e.n9 → ∃ j, j < n ∧ A = some ⟨b0, off0, none⟩ ∧ w3.cell? ⟨w.heap.size + 1, k, none⟩ = some (.pointer (some ⟨b0, off0 + j * 29, none⟩)) ∧ ps.getD k Ky.t0 = Ky.kz (E j).e3 (E j).e5 from fun k hk => by
            obtain ⟨j, h1, h2, h3, h4⟩ := HPs.out k hk
            exact ⟨j, h1, h2, (B3.out.cell (p := ⟨w.heap.size + 1, k, none⟩) (World.block_lt_of_cell? wr _ h3)).trans h3, h4⟩)
          have HK3 := Lib.hid (show w3.cell? ⟨w.heap.size, 3, none⟩ = some (.int .i64 x3) ∧ w.heap.size < w3.heap.size from ⟨(B3.out.cell (p := ⟨w.heap.size, 3, none⟩) XAw.lt).trans hk3, Nat.lt_of_lt_of_le XAw.lt B3.out.size⟩)
          have HC3 := Lib.hid (fun v (hb : Below w3.heap.size w3 v) (p : Ky.Rc) => contains37 A3 kl.length c3 kl p v (R3.out.below hb) (by have := HKL.out; omega))
          clear hk3 XAw HPs R3 HK
          go_loopg [12, 14, 15, 59] e.n9 (fun gg s12 _ _ s59 wr => ∃ (kk : Nat) (v : Value), kk ≤ e.n9 ∧ e.n9 - kk ≤ gg ∧ v = s12 ∧ s59 = .int .i64 (kk : Int) ∧ Hid (wr.ownsRow w3.heap.size 64 3 v kk (Ky.cl (ps.take kk))) ∧ Hid (∀ j, j < kk → badK kl ps j = false) ∧ Hid (Below w3.heap.size w3 wr))
          case atStart => exact ⟨0, _, Nat.zero_le _, by omega, rfl, rfl, O3, Lib.hid (fun j hj => absurd hj (Nat.not_lt_zero _)), C3⟩
          case round =>
            clear BX BW HZs HZt
            obtain ⟨kk, v, hkk, hg, rfl, rfl, HO, HJ, BZ⟩ := hrel
            have BW := Lib.hid (BW3.out.trans (BZ.out.mono BW3.out.size))
            obtain ⟨As, cs, hv, RS, _⟩ := Ky.Rcs.ofOwn HO.out (by rw [List.length_take, HPl.out]; omega) (by omega) (fun p hp => HPf.out p (List.mem_of_mem_take hp))
            subst hv
            have RSh := Lib.hid RS
            clear RS
            by_cases hlt : kk < e.n9
            · have hltz : (kk : Int) < (e.n9 : Int) := by omega
              have hk0 : (0 : Int) ≤ (kk : Int) := by omega
              obtain ⟨j, hjn, rfl, k0', hkj⟩ := HPs3.out kk hlt
              have k0 := (BZ.out.cell (p := ⟨w.heap.size + 1, kk, none⟩) (World.block_lt_of_cell? w3 _ k0')).trans k0'
              have HEv := Lib.hid (keyOf36 b0 (off0 + j * 29) (E j).e3 (E j).e2 (E j).e5 (E j).C.n wr ((H.out.below BW.out).parts hjn).1)
              have HTk := Lib.hid (show ps.take (kk + 1) = ps.take kk ++ [Ky.kz (E j).e3 (E j).e5] by rw [List.take_succ_eq_append_getElem (by rw [HPl.out]; exact hlt), ← Ky.getD_at, hkj])
              have HBd := Lib.hid (show badK kl ps kk = (!(kl.any (isEq (Ky.kz (E j).e3 (E j).e5))) || (ps.take kk).any (isEq (Ky.kz (E j).e3 (E j).e5))) by unfold badK; rw [hkj])
              have HBk := Lib.hid (HBad.out kk hlt)
              have HJ1 : Hid (badK kl ps kk = false → ∀ j, j < kk + 1 → badK kl ps j = false) := Lib.hid (fun h1 j hj => by
                by_cases e1 : j = kk
                · subst e1; exact h1
                · exact HJ.out j (by omega))
              clear hkj k0'
              generalize (E j).e3 = kd at HEv HTk HBd
              generalize (E j).e5 = ke at HEv HTk HBd
              have HC4 := Lib.hid (fun v (hb : Below w3.heap.size w3 v) => (show Calls Try.prog 37 #[.slice A3 kl.length c3, .agg #[.int .i64 kd, .string ke, .int .i64 0]] v _ from HC3.out v hb (Ky.kz kd ke)))
              have HC5 := Lib.hid (fun v (hb : Below wr.heap.size wr v) => (show Calls Try.prog 37 #[.slice As kk cs, .agg #[.int .i64 kd, .string ke, .int .i64 0]] v _ from contains37 As kk cs (ps.take kk) (Ky.kz kd ke) v (RSh.out.below hb) (by omega)))
              have HZr := Lib.hid BZ.out.size
              cases t1 : kl.any (isEq (Ky.kz kd ke)) with
              | false =>
                rw [t1] at HC4 HBd
                have HE := Lib.hid (HBk.out (by rw [HBd.out]; rfl))
                clear t1 HBd HBk HJ1
                go_wp2_with (first
                  | (go_at_call 36; (with_reducible refine HEv.out.mono ?_); rintro e1 w4 ⟨rfl, hb⟩; have F4 := Lib.hid (hb.alloc hb.size (.cells #[.int .i64 kd, .string ke, .int .i64 0] 64)); have B4 := Lib.hid (BZ.out.trans (F4.out.mono HZr.out)); clear hb)
                  | (go_at_call 37; (with_reducible refine (HC4.out _ B4.out).mono ?_); rintro e1 w5 ⟨rfl, hb⟩; have B5 := Lib.hid (B4.out.trans (hb.mono B4.out.size)); clear hb)
                  | go_in)
                go_ret
                exact ⟨ret_i6 HE.out.symm, BW3.out.trans (B5.out.mono BW3.out.size)⟩
              | true =>
                rw [t1] at HC4 HBd
                cases t2 : (ps.take kk).any (isEq (Ky.kz kd ke)) with
                | true =>
                  rw [t2] at HC5 HBd
                  have HE := Lib.hid (HBk.out (by rw [HBd.out]; rfl))
                  clear t1 t2 HBd HBk HJ1
                  go_wp2_with (first
                    | (go_at_call 36; (with_reducible refine HEv.out.mono ?_); rintro e1 w4 ⟨rfl, hb⟩; have F4 := Lib.hid (hb.alloc hb.size (.cells #[.int .i64 kd, .string ke, .int .i64 0] 64)); have B4 := Lib.hid (BZ.out.trans (F4.out.mono HZr.out)); have X4 := Lib.hid (show Blk (w4.alloc (.cells #[.int .i64 kd, .string ke, .int .i64 0] 64)) w4.heap.size (Ky.enc (Ky.kz kd ke)) 64 from blk_new w4 (Ky.enc (Ky.kz kd ke)) 64); clear hb)
                    | (go_at_call 37; (with_reducible refine (HC4.out _ B4.out).mono ?_); rintro e1 w5 ⟨rfl, hb⟩; have F5 := Lib.hid (F4.out.trans (hb.mono F4.out.size)); have B5 := Lib.hid (B4.out.trans (hb.mono B4.out.size)); have X5 := Lib.hid (X4.out.below hb); have p0 := X5.out.cell (i := 0) (v := .int .i64 kd) rfl; have p1 := X5.out.cell (i := 1) (v := .string ke) rfl; have p2 := X5.out.cell (i := 2) (v := .int .i64 0) rfl; clear hb)
                    | (go_at_call 37; (with_reducible refine (HC5.out _ F5.out).mono ?_); rintro e1 w6 ⟨rfl, hb⟩; have B6 := Lib.hid (B5.out.trans (hb.mono B5.out.size)); clear hb)
                    | go_in)
                  go_ret
                  exact ⟨ret_i6 HE.out.symm, BW3.out.trans (B6.out.mono BW3.out.size)⟩
                | false =>
                  rw [t2] at HC5 HBd
                  have HJ3 := Lib.hid (HJ1.out (by rw [HBd.out]; rfl))
                  clear t1 t2 HBd HBk HJ1
                  go_wp2_with (first
                    | (go_at_call 36; (with_reducible refine HEv.out.mono ?_); rintro e1 w4 ⟨rfl, hb⟩; have F4 := Lib.hid (hb.alloc hb.size (.cells #[.int .i64 kd, .string ke, .int .i64 0] 64)); have B4 := Lib.hid (BZ.out.trans (F4.out.mono HZr.out)); have X4 := Lib.hid (show Blk (w4.alloc (.cells #[.int .i64 kd, .string ke, .int .i64 0] 64)) w4.heap.size (Ky.enc (Ky.kz kd ke)) 64 from blk_new w4 (Ky.enc (Ky.kz kd ke)) 64); clear hb)
                    | (go_at_call 37; (with_reducible refine (HC4.out _ B4.out).mono ?_); rintro e1 w5 ⟨rfl, hb⟩; have F5 := Lib.hid (F4.out.trans (hb.mono F4.out.size)); have B5 := Lib.hid (B4.out.trans (hb.mono B4.out.size)); have X5 := Lib.hid (X4.out.below hb); have p0 := X5.out.cell (i := 0) (v := .int .i64 kd) rfl; have p1 := X5.out.cell (i := 1) (v := .string ke) rfl; have p2 := X5.out.cell (i := 2) (v := .int .i64 0) rfl; clear hb)
                    | (go_at_call 37; (with_reducible refine (HC5.out _ F5.out).mono ?_); rintro e1 w6 ⟨rfl, hb⟩; have F6 := Lib.hid (F5.out.trans (hb.mono F5.out.size)); have B6 := Lib.hid (B5.out.trans (hb.mono B5.out.size)); have X6 := Lib.hid (X5.out.below hb); clear p0 p1 p2; have p0 := X6.out.cell (i := 0) (v := .int .i64 kd) rfl; have p1 := X6.out.cell (i := 1) (v := .string ke) rfl; have p2 := X6.out.cell (i := 2) (v := .int .i64 0) rfl; have O6 := Lib.hid (own_keep HO.out (fun b _ hl => F6.out.block b hl)); clear hb)
                    | (at_builtin; refine wpList_append_any _ rfl _ _ 61 rfl w3.heap.size 64 i6 _ 3 32 Try.underlying61 HI6.out.1 HI6.out.2.1 HI6.out.2.2.1 HI6.out.2.2.2 rfl (by decide) _ kk (Ky.cl (ps.take kk)) rfl (O6.out.alloc _) _ 1 1 (Ky.enc (Ky.kz kd ke)) rfl (Ky.blk_src (p := Ky.kz kd ke) (blk_new _ (Ky.enc (Ky.kz kd ke)) 64)) (by unfold maxLen; omega) (by omega) (B6.out.alloc B6.out.size _).size ?_; intro v7 w7 hgr; have B7 := Lib.hid (hgr.below (B6.out.alloc B6.out.size _) (O6.out.alloc _)); have O7 := Lib.hid hgr.own; clear hgr)
                    | go_in)
                  go_roundg (e.n9 - (kk + 1))
                  case measure => omega
                  case rel => exact ⟨kk + 1, v7, by omega, by omega, rfl, by go_num, Lib.hid (by rw [HTk.out, Ky.cl_append, ← Ky.cl_one1]; exact O7.out), HJ3, B7⟩
            · have hltz : ¬ (kk : Int) < (e.n9 : Int) := by omega
              have HTa := Lib.hid (show ps.take kk = ps from List.take_of_length_le (by rw [HPl.out]; omega))
              rw [HTa.out] at RSh
              have HC := Lib.hid (any38 As kk cs ps wr RSh.out (by omega))
              rw [HX3.out] at HEnd
              have HE := Lib.hid (HEnd.out (fun k hk => HJ.out k (by rw [hl9] at hk; omega)))
              have k3 := (BZ.out.cell (p := ⟨w.heap.size, 3, none⟩) HK3.out.2).trans HK3.out.1
              clear HEnd HBad HJ
              cases t1 : ps.any is1 with
              | true =>
                rw [t1] at HC HE
                have HE0 := Lib.hid (show fitsE E n e = 0 by rw [HE.out, if_neg (by simp)])
                clear HE t1
                by_cases h3 : x3 = 1
                · subst h3
                  go_wp2_with (first
                    | (go_at_call 38; (with_reducible refine HC.out.mono ?_); rintro e1 w4 ⟨rfl, hb⟩; have B4 := Lib.hid (BW.out.trans (hb.mono BW.out.size)); have k4 := (hb.cell (p := ⟨w.heap.size, 3, none⟩) (World.block_lt_of_cell? wr _ k3)).trans k3; clear hb)
                    | go_in)
                  go_ret
                  exact ⟨ret_i6 HE0.out.symm, B4.out⟩
                · have z3 : (x3 == 1) = false := beq_eq_false_iff_ne.2 h3
                  go_wp2_with (first
                    | (go_at_call 38; (with_reducible refine HC.out.mono ?_); rintro e1 w4 ⟨rfl, hb⟩; have B4 := Lib.hid (BW.out.trans (hb.mono BW.out.size)); have k4 := (hb.cell (p := ⟨w.heap.size, 3, none⟩) (World.block_lt_of_cell? wr _ k3)).trans k3; clear hb)
                    | go_in)
                  go_ret
                  exact ⟨ret_i6 HE0.out.symm, B4.out⟩
              | false =>
                rw [t1] at HC HE
                by_cases h3 : x3 = 1
                · have HE0 := Lib.hid (show fitsE E n e = 0 by rw [HE.out, if_neg (by simp [h3])])
                  clear HE t1
                  subst h3
                  go_wp2_with (first
                    | (go_at_call 38; (with_reducible refine HC.out.mono ?_); rintro e1 w4 ⟨rfl, hb⟩; have B4 := Lib.hid (BW.out.trans (hb.mono BW.out.size)); have k4 := (hb.cell (p := ⟨w.heap.size, 3, none⟩) (World.block_lt_of_cell? wr _ k3)).trans k3; clear hb)
                    | go_in)
                  go_ret
                  exact ⟨ret_i6 HE0.out.symm, B4.out⟩
                · have HE0 := Lib.hid (show fitsE E n e = 16 by rw [HE.out, if_pos ⟨h3, rfl⟩])
                  have z3 : (x3 == 1) = false := beq_eq_false_iff_ne.2 h3
                  clear HE t1
                  go_wp2_with (first
                    | (go_at_call 38; (with_reducible refine HC.out.mono ?_); rintro e1 w4 ⟨rfl, hb⟩; have B4 := Lib.hid (BW.out.trans (hb.mono BW.out.size)); have k4 := (hb.cell (p := ⟨w.heap.size, 3, none⟩) (World.block_lt_of_cell? wr _ k3)).trans k3; clear hb)
                    | go_in)
                  go_ret
                  exact ⟨ret_i6 HE0.out.symm, B4.out⟩
end Go.Proofs.Ytbedibiodlgegaa
