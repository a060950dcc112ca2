/- The walks of cutList over integers, its closure, result and GetInts. Bounds: at most 900000 bytes. -/
import Derived.Test.YtgfodleoollmmaaW9
namespace Go.Proofs.Ytgfodleoollmmaa
open Go.RowKit
set_option linter.unusedVariables false

theorem info3 : (Try.prog.info? 3).map (fun i => (i.zero, i.size, i.bytes)) = some (some (.int .i64 0), 1, 8) := by kernel_rfl
def di (zs : List Int) : Option (Int × List Int) := (C.dec zs).map fun p => (C.zag p.1, zs.drop p.2)
def gis (zs : List Int) : Option (List Int × List Int) := (cnt zs).bind fun p => lst di p.1 p.2
theorem gi_di (zs : List Int) : gi zs = (di zs).map fun p => (Value.int .i64 p.1, p.2) := by
  unfold gi di
  cases C.dec zs <;> rfl
theorem di_len {zs : List Int} {x : Int} {r : List Int} (h : di zs = some (x, r)) : r.length ≤ zs.length := by
  unfold di at h
  cases hd : C.dec zs with
  | none => rw [hd] at h; cases h
  | some p =>
    rw [hd] at h
    simp only [Option.map_some, Option.some.injEq, Prod.mk.injEq] at h
    rw [← h.2, List.length_drop]; omega
theorem di_ok {zs : List Int} (hb : ∀ z ∈ zs, 0 ≤ z ∧ z ≤ 255) {x : Int} {r : List Int} (h : di zs = some (x, r)) : C.in64 x := by
  unfold di at h
  cases hd : C.dec zs with
  | none => rw [hd] at h; cases h
  | some p =>
    obtain ⟨u, k⟩ := p
    rw [hd] at h
    simp only [Option.map_some, Option.some.injEq, Prod.mk.injEq] at h
    rw [← h.1]
    exact C.zag_in (C.enc_dec hb hd).2.1
theorem lst_rest {α : Type} {one : List Int → Option (α × List Int)} (h1 : ∀ zs x r, one zs = some (x, r) → r.length ≤ zs.length) : ∀ (n : Nat) (zs : List Int) (xs : List α) (r : List Int), lst one n zs = some (xs, r) → r.length ≤ zs.length ∧ xs.length = n := by
  intro n
  induction n with
  | zero =>
    intro zs xs r h
    simp only [lst, Option.some.injEq, Prod.mk.injEq] at h
    obtain ⟨rfl, rfl⟩ := h
    exact ⟨Nat.le_refl _, rfl⟩
  | succ n ih =>
    intro zs xs r h
    cases hd : one zs with
    | none => simp [lst, hd] at h
    | some p =>
      obtain ⟨x, r1⟩ := p
      cases hl : lst one n r1 with
      | none => simp [lst, hd, hl] at h
      | some q =>
        obtain ⟨ys, r2⟩ := q
        simp only [lst, hd, hl, Option.bind_some, Option.map_some, Option.some.injEq, Prod.mk.injEq] at h
        obtain ⟨rfl, rfl⟩ := h
        have i := ih r1 ys r2 hl
        exact ⟨Nat.le_trans i.1 (h1 _ _ _ hd), by simp [i.2]⟩
theorem gis_rest {zs : List Int} {xs rest : List Int} (h : gis zs = some (xs, rest)) : rest.length ≤ zs.length := by
  unfold gis at h
  cases hc : cnt zs with
  | none => rw [hc] at h; cases h
  | some p =>
    obtain ⟨n, r⟩ := p
    rw [hc] at h
    exact Nat.le_trans (lst_rest (fun _ _ _ h => di_len h) n r xs rest h).1 (cnt_rest hc).2.1
theorem all_snoc {α : Type} {P : α → Prop} {xs : List α} {x : α} (h : ∀ z ∈ xs, P z) (hx : P x) : ∀ z ∈ xs ++ [x], P z := by
  intro z hz
  rcases List.mem_append.1 hz with hz | hz
  · exact h z hz
  · rw [List.mem_singleton] at hz; rw [hz]; exact hx
theorem row_is {w : World} {B g n : Nat} {xs : List Int} (h : w.ownsRow B 3 1 (.slice (some ⟨g, 0, none⟩) n n) n (xs.map (Value.int .i64))) (hz : ∀ z ∈ xs, C.in64 z) (hl : xs.length = n) (hg : g < w.heap.size) : Is w (some ⟨g, 0, none⟩) n n xs := by
  refine ⟨hl, hz, Nat.le_refl _, (fun h => by cases h), fun h0 => ⟨g, 0, rfl, hg, fun i hi => ?_⟩⟩
  rw [Nat.zero_add, h.cellAt i (by omega), List.getElem?_map, List.getElem?_eq_getElem (by omega), List.getD_eq_getElem?_getD, List.getElem?_eq_getElem (by omega)]
  rfl

theorem wpList_makeI {ops : Array Oper} {rest : List Oper} {o : Oper} {a : Act} {Q : Exit → Act → World → Prop} {w : World} (hg : o.guard = none) {l : Operand} (hop : o.op = .makeSlice 23 l l)
    (n : Nat) (hl : a.eval l = .int .i64 (n : Int)) (hn : n ≤ 1000000)
    (hK : ∀ w', w'.ownsRow w.heap.size 3 1 (.slice (some ⟨w.heap.size, 0, none⟩) n n) n ((([] : List Int) ++ List.replicate (n - 0) 0).map (Value.int .i64)) → Below w.heap.size w w' → w.heap.size < w'.heap.size → wpList Try.prog ops Q rest (a.put o.dst (.slice (some ⟨w.heap.size, 0, none⟩) n n)) w') : wpList Try.prog ops Q (o :: rest) a w := by
  obtain ⟨i0, hi0, hz0, hz1, hz2⟩ := info_parts info3
  refine wpList_make_full w hg l l 23 hop w.heap.size 3 i0 ((Value.int .i64) 0) 1 Try.underlying23 hi0 hz0 hz1 .i64 .i64 (n : Int) (n : Int) n hl hl rfl rfl (by rw [hz2]; omega) (by unfold maxLen; omega) (Nat.le_refl _) ?_
  intro w' hr hg'
  have e1 : (madeCells ((Value.int .i64) 0).cells (n * 1)).toList = ((([] : List Int) ++ List.replicate (n - 0) 0).map (Value.int .i64)) := by
    rw [show ((Value.int .i64) 0).cells = #[(Value.int .i64) 0] from rfl, toList_madeCells_one, Nat.mul_one, List.nil_append, List.map_replicate, Nat.sub_zero]
  rw [e1] at hr
  exact hK w' hr ((Below.refl _ _).grown hg' (Nat.le_refl _) (fun k h => by cases h)) (by have := (hr.lt w.heap.size rfl).2; exact this)

set_option maxHeartbeats 1600000 in
theorem cutInts_any (a : Option Addr) (len cap : Nat) (zs : List Int) (hl : len ≤ 900000) (w : World) (h : Sl w a len cap zs) :
    Calls Try.prog 44 #[.slice a len cap, .func (.func 41) #[] #[]] w (GotL Is (gis zs) w) := by
  have H := Lib.hid h
  have HL := Lib.hid (show zs.length ≤ 900000 by rw [h.sz]; exact hl)
  clear h
  cases hc : cnt zs with
  | none =>
    have HG := Lib.hid (show gc zs = none by unfold gc; rw [hc]; rfl)
    have HN := Lib.hid (show gis zs = none by unfold gis; rw [hc]; rfl)
    clear hc
    go_enter Try.func44, Try.ntmps44
    go_wp2_with (go_at_call 52; refine (cutCount_any _ _ _ zs hl _ H.out).mono ?_; intro e w1 hgot; obtain ⟨rfl, hb1⟩ := got_no hgot HG.out; have HB := Lib.hid hb1; clear hb1 hgot)
    go_ret3
    exact gotl_none HN.out HB.out
  | some p =>
    obtain ⟨n, rest⟩ := p
    have HG := Lib.hid (show gc zs = some (.int .i64 (n : Int), rest) by unfold gc; rw [hc]; rfl)
    have HN := Lib.hid (show gis zs = lst di n rest by unfold gis; rw [hc]; rfl)
    have hnr := (cnt_rest hc).1
    have hrz := (cnt_rest hc).2.1
    have hrl : rest.length ≤ 900000 := Nat.le_trans hrz HL.out
    have hn9 : n ≤ 900000 := Nat.le_trans hnr hrl
    have HRL := Lib.hid hrl
    clear hc hnr hrz hrl
    go_enter Try.func44, Try.ntmps44
    go_wp2_with (first
      | (go_at_call 52; refine (cutCount_any _ _ _ zs hl _ H.out).mono ?_; intro e w1 hgot; obtain ⟨A1, c1, rfl, hs1, hb1⟩ := got_yes hgot HG.out; have HB := Lib.hid hb1; have HS := Lib.hid hs1; clear hb1 hgot hs1)
      | ((with_reducible refine wpList_makeI rfl rfl n ?_ (by omega) ?_); (rfl); intro w2 hr2 hb2 hl2; have HR2 := Lib.hid hr2; have HB2 := Lib.hid hb2; have HL2 := Lib.hid hl2; clear hr2 hb2 hl2))
    go_loopw [8, 9, 11, 24] (fun r ok i j wr => ∃ (A : Option Addr) (c k : Nat) (xs : List Int) (rs : List Int), k ≤ n ∧ j = .int .i64 k ∧ r = .slice A rs.length c ∧ Hid (Prg di n rest k xs rs) ∧ Hid (Sl wr A rs.length c rs) ∧ Hid (wr.ownsRow w1.heap.size 3 1 (.slice (some ⟨w1.heap.size, 0, none⟩) n n) n ((xs ++ List.replicate (n - k) 0).map (Value.int .i64))) ∧ Hid (∀ z ∈ xs, C.in64 z) ∧ Hid (Below w.heap.size w wr) ∧ Hid (w1.heap.size < wr.heap.size)) (fun _ _ _ j _ => n - (intOf j).toNat)
    case atStart => exact ⟨A1, c1, 0, [], rest, Nat.zero_le _, rfl, rfl, Lib.hid prg_zero, Lib.hid (HS.out.below HB2.out), HR2, Lib.hid (by simp), Lib.hid (HB.out.trans (HB2.out.mono HB.out.size)), HL2⟩
    case round =>
      obtain ⟨A2, c2, k, xs, rs, hk, rfl, rfl, HP, HS2, HR, HK, HBr, HLr⟩ := hrel
      by_cases hlt : k < n
      · have hrs : rs.length ≤ 900000 := Nat.le_trans HP.out.rl HRL.out
        have HBg := Lib.hid HB.out.size
        cases hd : di rs with
        | none =>
          have HGr := Lib.hid (show gi rs = none by rw [gi_di, hd]; rfl)
          have HF := Lib.hid (HN.out.trans (prg_none HP.out hlt hd))
          clear hd
          go_wp2_with (go_at_call 41; refine (cutInt_any _ _ _ rs hrs _ HS2.out).mono ?_; intro e w3 hgot; obtain ⟨rfl, hb3⟩ := got_no hgot HGr.out; have hrow := row_keep HR.out hb3; have hcell := row_cell (Value.int .i64) 0 hrow hlt HP.out.sz; have hfr := hrow.frozenAt k; have HB3 := Lib.hid (HBr.out.trans (hb3.mono HBr.out.size)); clear hb3 hgot hrow)
          go_ret3
          exact gotl_none HF.out (HB3.out.setCell HBg.out _)
        | some p =>
          obtain ⟨x, r'⟩ := p
          have HGr := Lib.hid (show gi rs = some ((Value.int .i64) x, r') by rw [gi_di, hd]; rfl)
          have HP2 := Lib.hid (prg_some HP.out hlt hd (di_len hd))
          have HX := Lib.hid (di_ok HS2.out.bd hd)
          clear hd
          go_wp2_with (go_at_call 41; refine (cutInt_any _ _ _ rs hrs _ HS2.out).mono ?_; intro e w3 hgot; obtain ⟨A3, c3, rfl, hs3, hb3⟩ := got_yes hgot HGr.out; have hrow := row_keep HR.out hb3; have hcell := row_cell (Value.int .i64) 0 hrow hlt HP.out.sz; have hfr := hrow.frozenAt k; have HB3 := Lib.hid (HBr.out.trans (hb3.mono HBr.out.size)); have HS3 := Lib.hid (sl_stored hs3 hrow (map_ne (fun x z h => by cases h) _) k ((Value.int .i64) x)); have HR3 := Lib.hid (row_step (Value.int .i64) 0 hrow x hlt HP.out.sz); have HL3 := Lib.hid (Nat.lt_of_lt_of_le HLr.out hb3.size); clear hb3 hgot hrow hs3)
          go_roundw
          case rel => exact ⟨A3, c3, k + 1, xs ++ [x], r', hlt, by go_num, rfl, HP2, HS3, HR3, Lib.hid (all_snoc HK.out HX.out), Lib.hid (HB3.out.setCell HBg.out _), Lib.hid (by simpa [World.setCell] using HL3.out)⟩
          case measure => simp [intOf]; omega
      · obtain rfl : k = n := by omega
        have HF := Lib.hid (HN.out.trans (prg_end HP.out))
        go_wp2
        go_ret3
        exact gotl_some HF.out HP.out.sz.symm rfl (row_is (by have := HR.out; simpa using this) HK.out HP.out.sz HLr.out) HS2.out HBr.out

theorem cloInts_any (a : Option Addr) (len cap : Nat) (zs : List Int) (hl : len ≤ 900000) (w : World) (h : Sl w a len cap zs) :
    Calls Try.prog 43 #[.slice a len cap] w (GotL Is (gis zs) w) := by
  have H := Lib.hid h
  clear h
  cases hc : gis zs with
  | none =>
    have HG := Lib.hid hc
    clear hc
    go_enter Try.func43, Try.ntmps43
    go_wp2_with (go_at_call 44; refine (cutInts_any _ _ _ zs hl _ H.out).mono ?_; intro e w1 hgot; obtain ⟨rfl, hb1⟩ := gotl_no hgot HG.out; have HB := Lib.hid hb1; clear hb1 hgot)
    go_ret3
    exact gotl_none rfl HB.out
  | some p =>
    obtain ⟨xs, rest⟩ := p
    have HG := Lib.hid hc
    clear hc
    go_enter Try.func43, Try.ntmps43
    go_wp2_with (go_at_call 44; refine (cutInts_any _ _ _ zs hl _ H.out).mono ?_; intro e w1 hgot; obtain ⟨A1, c1, A2, c2, rfl, hi1, hs1, hb1⟩ := gotl_yes hgot HG.out; have HB := Lib.hid hb1; have HI := Lib.hid hi1; have HS := Lib.hid hs1; clear hb1 hgot hi1 hs1)
    go_ret3
    exact gotl_some rfl rfl rfl HI.out HS.out HB.out

theorem getInts_any (a : Option Addr) (len cap : Nat) (zs : List Int) (hl : len ≤ 800000) (w : World) (h : Sl w a len cap zs) :
    Calls Try.prog 24 #[.slice a len cap] w (GotL Is (gis zs) w) := by
  have H := Lib.hid h
  have HL := Lib.hid (show zs.length ≤ 800000 by rw [h.sz]; exact hl)
  clear h
  cases hg : gis zs with
  | none =>
    have HG := Lib.hid hg
    clear hg
    go_enter Try.func24, Try.ntmps24
    go_wp2_with (first
      | (go_at_call 43; refine (cloInts_any _ _ _ zs (by omega) _ H.out).mono ?_; intro e w1 hgot; obtain ⟨rfl, hb1⟩ := gotl_no hgot HG.out; have HB := Lib.hid hb1; clear hb1 hgot)
      | (go_at_call 42; go_in))
    go_ret3
    simp only []
    go_wp2
    go_ret3
    exact gotl_none rfl HB.out
  | some p =>
    obtain ⟨xs, rest⟩ := p
    have HG := Lib.hid hg
    have hrl : rest.length ≤ 800000 := Nat.le_trans (gis_rest hg) HL.out
    clear hg
    go_enter Try.func24, Try.ntmps24
    go_wp2_with (first
      | (go_at_call 43; refine (cloInts_any _ _ _ zs (by omega) _ H.out).mono ?_; intro e w1 hgot; obtain ⟨A1, c1, A2, c2, rfl, hi1, hs1, hb1⟩ := gotl_yes hgot HG.out; have HB := Lib.hid hb1; have HI := Lib.hid hi1; have HS := Lib.hid hs1; clear hb1 hgot hi1 hs1)
      | (go_at_call 35; refine (copied_any A2 _ c2 rest (by omega) _ HS.out).mono ?_; rintro e w2 ⟨A3, c3, rfl, ho2, hb2⟩; have HO2 := Lib.hid ho2; have HB2 := Lib.hid hb2; clear ho2 hb2)
      | (go_at_call 42; go_in))
    go_ret3
    simp only []
    go_wp2
    go_ret3
    exact gotl_some rfl rfl rfl (HI.out.below HB2.out) (OwnPost.sl (w := w) HO2.out HS.out.bd) (HB.out.trans (HB2.out.mono HB.out.size))
end Go.Proofs.Ytgfodleoollmmaa
