/- The walks of cutList over strings, its closure, result and GetTexts. Bounds: at most 900000 bytes. -/
import Derived.Test.YtgfodleoollmmaaW11
namespace Go.Proofs.Ytgfodleoollmmaa
open Go.RowKit
set_option linter.unusedVariables false

theorem info9 : (Try.prog.info? 9).map (fun i => (i.zero, i.size, i.bytes)) = some (some (.string ⟨#[]⟩), 1, 16) := by kernel_rfl
/-- A string of at most a million bytes. -/
def Small (s : ByteArray) : Prop := s.size ≤ 1000000
/-- The slice of strings at `a` has `len` elements, which are `ss`; a nil one has no room. -/
structure Ts (w : World) (a : Option Addr) (len cap : Nat) (ss : List ByteArray) : Prop where
  sz : ss.length = len
  bd : ∀ z ∈ ss, Small z
  le : len ≤ cap
  nl : a = none → cap = 0
  cell : 0 < len → ∃ b off, a = some ⟨b, off, none⟩ ∧ b < w.heap.size ∧ ∀ i, i < len → w.cell? ⟨b, off + i, none⟩ = some (.string (ss.getD i ⟨#[]⟩))
theorem Ts.below {w w' : World} {a : Option Addr} {len cap : Nat} {zs : List ByteArray} (h : Ts w a len cap zs) (hb : Below w.heap.size w w') : Ts w' a len cap zs :=
  ⟨h.sz, h.bd, h.le, h.nl, fun h0 => by
    obtain ⟨b, off, e, hl, hc⟩ := h.cell h0
    exact ⟨b, off, e, Nat.lt_of_lt_of_le hl hb.size, fun i hi => (hb.cell (p := ⟨b, off + i, none⟩) hl).trans (hc i hi)⟩⟩
theorem Ts.text {w : World} {a : Option Addr} {len cap : Nat} {zs : List ByteArray} (h : Ts w a len cap zs) {k : Nat} (hk : k < len) :
    ∃ b off, a = some ⟨b, off, none⟩ ∧ ∃ z : ByteArray, zs.getD k ⟨#[]⟩ = z ∧ Small z ∧ b < w.heap.size ∧ w.cell? ⟨b, off + k, none⟩ = some (.string z) := by
  obtain ⟨hl, hb, _, _, hc⟩ := h
  obtain ⟨b, off, ha, hlt, hc⟩ := hc (by omega)
  have hm : zs.getD k ⟨#[]⟩ ∈ zs := by
    rw [List.getD_eq_getElem?_getD, List.getElem?_eq_getElem (by omega)]; simp
  exact ⟨b, off, ha, _, rfl, hb _ hm, hlt, hc k hk⟩
def dt (zs : List Int) : Option (ByteArray × List Int) := (cnt zs).map fun p => (strOfNums (p.2.take p.1), p.2.drop p.1)
def gts (zs : List Int) : Option (List ByteArray × List Int) := (cnt zs).bind fun p => lst dt p.1 p.2
theorem gt_dt (zs : List Int) : gt zs = (dt zs).map fun p => (Value.string p.1, p.2) := by
  unfold gt dt
  cases cnt zs <;> rfl
theorem dt_len {zs : List Int} {x : ByteArray} {r : List Int} (h : dt zs = some (x, r)) : r.length ≤ zs.length := by
  have h2 : gt zs = some (.string x, r) := by rw [gt_dt, h]; rfl
  exact gt_rest h2
theorem str_size (zs : List Int) : (strOfNums zs).size = zs.length := by
  unfold strOfNums
  simp [ByteArray.size]
theorem dt_ok {zs : List Int} (hb : ∀ z ∈ zs, 0 ≤ z ∧ z ≤ 255) (hl : zs.length ≤ 1000000) {x : ByteArray} {r : List Int} (h : dt zs = some (x, r)) : Small x := by
  unfold dt at h
  cases hc : cnt zs with
  | none => rw [hc] at h; cases h
  | some p =>
    obtain ⟨n, rest⟩ := p
    rw [hc] at h
    simp only [Option.map_some, Option.some.injEq, Prod.mk.injEq] at h
    rw [← h.1]
    unfold Small
    have := cnt_rest hc
    rw [str_size, List.length_take]
    omega
theorem gts_rest {zs : List Int} {xs : List ByteArray} {rest : List Int} (h : gts zs = some (xs, rest)) : rest.length ≤ zs.length := by
  unfold gts at h
  cases hc : cnt zs with
  | none => rw [hc] at h; cases h
  | some p =>
    obtain ⟨n, r⟩ := p
    rw [hc] at h
    exact Nat.le_trans (lst_rest (fun _ _ _ h => dt_len h) n r xs rest h).1 (cnt_rest hc).2.1
theorem row_ts {w : World} {B g n : Nat} {xs : List ByteArray} (h : w.ownsRow B 9 1 (.slice (some ⟨g, 0, none⟩) n n) n (xs.map Value.string)) (hz : ∀ z ∈ xs, Small z) (hl : xs.length = n) (hg : g < w.heap.size) : Ts w (some ⟨g, 0, none⟩) n n xs := by
  refine ⟨hl, hz, Nat.le_refl _, (fun h => by cases h), fun h0 => ⟨g, 0, rfl, hg, fun i hi => ?_⟩⟩
  rw [Nat.zero_add, h.cellAt i (by omega), List.getElem?_map, List.getElem?_eq_getElem (by omega), List.getD_eq_getElem?_getD, List.getElem?_eq_getElem (by omega)]
  rfl

theorem wpList_makeT {ops : Array Oper} {rest : List Oper} {o : Oper} {a : Act} {Q : Exit → Act → World → Prop} {w : World} (hg : o.guard = none) {l : Operand} (hop : o.op = .makeSlice 24 l l)
    (n : Nat) (hl : a.eval l = .int .i64 (n : Int)) (hn : n ≤ 1000000)
    (hK : ∀ w', w'.ownsRow w.heap.size 9 1 (.slice (some ⟨w.heap.size, 0, none⟩) n n) n ((([] : List ByteArray) ++ List.replicate (n - 0) (⟨#[]⟩ : ByteArray)).map Value.string) → Below w.heap.size w w' → w.heap.size < w'.heap.size → wpList Try.prog ops Q rest (a.put o.dst (.slice (some ⟨w.heap.size, 0, none⟩) n n)) w') : wpList Try.prog ops Q (o :: rest) a w := by
  obtain ⟨i0, hi0, hz0, hz1, hz2⟩ := info_parts info9
  refine wpList_make_full w hg l l 24 hop w.heap.size 9 i0 (Value.string (⟨#[]⟩ : ByteArray)) 1 Try.underlying24 hi0 hz0 hz1 .i64 .i64 (n : Int) (n : Int) n hl hl rfl rfl (by rw [hz2]; omega) (by unfold maxLen; omega) (Nat.le_refl _) ?_
  intro w' hr hg'
  have e1 : (madeCells (Value.string (⟨#[]⟩ : ByteArray)).cells (n * 1)).toList = ((([] : List ByteArray) ++ List.replicate (n - 0) (⟨#[]⟩ : ByteArray)).map Value.string) := by
    rw [show (Value.string (⟨#[]⟩ : ByteArray)).cells = #[Value.string (⟨#[]⟩ : ByteArray)] from rfl, toList_madeCells_one, Nat.mul_one, List.nil_append, List.map_replicate, Nat.sub_zero]
  rw [e1] at hr
  exact hK w' hr ((Below.refl _ _).grown hg' (Nat.le_refl _) (fun k h => by cases h)) (by have := (hr.lt w.heap.size rfl).2; exact this)

set_option maxHeartbeats 1600000 in
theorem cutTexts_any (a : Option Addr) (len cap : Nat) (zs : List Int) (hl : len ≤ 900000) (w : World) (h : Sl w a len cap zs) :
    Calls Try.prog 51 #[.slice a len cap, .func (.func 48) #[] #[]] w (GotL Ts (gts zs) w) := by
  have H := Lib.hid h
  have HL := Lib.hid (show zs.length ≤ 900000 by rw [h.sz]; exact hl)
  clear h
  cases hc : cnt zs with
  | none =>
    have HG := Lib.hid (show gc zs = none by unfold gc; rw [hc]; rfl)
    have HN := Lib.hid (show gts zs = none by unfold gts; rw [hc]; rfl)
    clear hc
    go_enter Try.func51, Try.ntmps51
    go_wp2_with (go_at_call 52; refine (cutCount_any _ _ _ zs hl _ H.out).mono ?_; intro e w1 hgot; obtain ⟨rfl, hb1⟩ := got_no hgot HG.out; have HB := Lib.hid hb1; clear hb1 hgot)
    go_ret3
    exact gotl_none HN.out HB.out
  | some p =>
    obtain ⟨n, rest⟩ := p
    have HG := Lib.hid (show gc zs = some (.int .i64 (n : Int), rest) by unfold gc; rw [hc]; rfl)
    have HN := Lib.hid (show gts zs = lst dt n rest by unfold gts; rw [hc]; rfl)
    have hnr := (cnt_rest hc).1
    have hrz := (cnt_rest hc).2.1
    have hrl : rest.length ≤ 900000 := Nat.le_trans hrz HL.out
    have hn9 : n ≤ 900000 := Nat.le_trans hnr hrl
    have HRL := Lib.hid hrl
    clear hc hnr hrz hrl
    go_enter Try.func51, Try.ntmps51
    go_wp2_with (first
      | (go_at_call 52; refine (cutCount_any _ _ _ zs hl _ H.out).mono ?_; intro e w1 hgot; obtain ⟨A1, c1, rfl, hs1, hb1⟩ := got_yes hgot HG.out; have HB := Lib.hid hb1; have HS := Lib.hid hs1; clear hb1 hgot hs1)
      | ((with_reducible refine wpList_makeT rfl rfl n ?_ (by omega) ?_); (rfl); intro w2 hr2 hb2 hl2; have HR2 := Lib.hid hr2; have HB2 := Lib.hid hb2; have HL2 := Lib.hid hl2; clear hr2 hb2 hl2))
    go_loopw [8, 9, 11, 24] (fun r ok i j wr => ∃ (A : Option Addr) (c k : Nat) (xs : List ByteArray) (rs : List Int), k ≤ n ∧ j = .int .i64 k ∧ r = .slice A rs.length c ∧ Hid (Prg dt n rest k xs rs) ∧ Hid (Sl wr A rs.length c rs) ∧ Hid (wr.ownsRow w1.heap.size 9 1 (.slice (some ⟨w1.heap.size, 0, none⟩) n n) n ((xs ++ List.replicate (n - k) (⟨#[]⟩ : ByteArray)).map Value.string)) ∧ Hid (∀ z ∈ xs, Small z) ∧ Hid (Below w.heap.size w wr) ∧ Hid (w1.heap.size < wr.heap.size)) (fun _ _ _ j _ => n - (intOf j).toNat)
    case atStart => exact ⟨A1, c1, 0, [], rest, Nat.zero_le _, rfl, rfl, Lib.hid prg_zero, Lib.hid (HS.out.below HB2.out), HR2, Lib.hid (by simp), Lib.hid (HB.out.trans (HB2.out.mono HB.out.size)), HL2⟩
    case round =>
      obtain ⟨A2, c2, k, xs, rs, hk, rfl, rfl, HP, HS2, HR, HK, HBr, HLr⟩ := hrel
      by_cases hlt : k < n
      · have hrs : rs.length ≤ 900000 := Nat.le_trans HP.out.rl HRL.out
        have HBg := Lib.hid HB.out.size
        cases hd : dt rs with
        | none =>
          have HGr := Lib.hid (show gt rs = none by rw [gt_dt, hd]; rfl)
          have HF := Lib.hid (HN.out.trans (prg_none HP.out hlt hd))
          clear hd
          go_wp2_with (go_at_call 48; refine (cutText_any _ _ _ rs hrs _ HS2.out).mono ?_; intro e w3 hgot; obtain ⟨rfl, hb3⟩ := got_no hgot HGr.out; have hrow := row_keep HR.out hb3; have hcell := row_cell Value.string (⟨#[]⟩ : ByteArray) hrow hlt HP.out.sz; have hfr := hrow.frozenAt k; have HB3 := Lib.hid (HBr.out.trans (hb3.mono HBr.out.size)); clear hb3 hgot hrow)
          go_ret3
          exact gotl_none HF.out (HB3.out.setCell HBg.out _)
        | some p =>
          obtain ⟨x, r'⟩ := p
          have HGr := Lib.hid (show gt rs = some (Value.string x, r') by rw [gt_dt, hd]; rfl)
          have HP2 := Lib.hid (prg_some HP.out hlt hd (dt_len hd))
          have HX := Lib.hid (dt_ok HS2.out.bd (Nat.le_trans hrs (by decide)) hd)
          clear hd
          go_wp2_with (go_at_call 48; refine (cutText_any _ _ _ rs hrs _ HS2.out).mono ?_; intro e w3 hgot; obtain ⟨A3, c3, rfl, hs3, hb3⟩ := got_yes hgot HGr.out; have hrow := row_keep HR.out hb3; have hcell := row_cell Value.string (⟨#[]⟩ : ByteArray) hrow hlt HP.out.sz; have hfr := hrow.frozenAt k; have HB3 := Lib.hid (HBr.out.trans (hb3.mono HBr.out.size)); have HS3 := Lib.hid (sl_stored hs3 hrow (map_ne (fun x z h => by cases h) _) k (Value.string x)); have HR3 := Lib.hid (row_step Value.string (⟨#[]⟩ : ByteArray) hrow x hlt HP.out.sz); have HL3 := Lib.hid (Nat.lt_of_lt_of_le HLr.out hb3.size); clear hb3 hgot hrow hs3)
          go_roundw
          case rel => exact ⟨A3, c3, k + 1, xs ++ [x], r', hlt, by go_num, rfl, HP2, HS3, HR3, Lib.hid (all_snoc HK.out HX.out), Lib.hid (HB3.out.setCell HBg.out _), Lib.hid (by simpa [World.setCell] using HL3.out)⟩
          case measure => simp [intOf]; omega
      · obtain rfl : k = n := by omega
        have HF := Lib.hid (HN.out.trans (prg_end HP.out))
        go_wp2
        go_ret3
        exact gotl_some HF.out HP.out.sz.symm rfl (row_ts (by have := HR.out; simpa using this) HK.out HP.out.sz HLr.out) HS2.out HBr.out

theorem cloTexts_any (a : Option Addr) (len cap : Nat) (zs : List Int) (hl : len ≤ 900000) (w : World) (h : Sl w a len cap zs) :
    Calls Try.prog 50 #[.slice a len cap] w (GotL Ts (gts zs) w) := by
  have H := Lib.hid h
  clear h
  cases hc : gts zs with
  | none =>
    have HG := Lib.hid hc
    clear hc
    go_enter Try.func50, Try.ntmps50
    go_wp2_with (go_at_call 51; refine (cutTexts_any _ _ _ zs hl _ H.out).mono ?_; intro e w1 hgot; obtain ⟨rfl, hb1⟩ := gotl_no hgot HG.out; have HB := Lib.hid hb1; clear hb1 hgot)
    go_ret3
    exact gotl_none rfl HB.out
  | some p =>
    obtain ⟨xs, rest⟩ := p
    have HG := Lib.hid hc
    clear hc
    go_enter Try.func50, Try.ntmps50
    go_wp2_with (go_at_call 51; refine (cutTexts_any _ _ _ zs hl _ H.out).mono ?_; intro e w1 hgot; obtain ⟨A1, c1, A2, c2, rfl, hi1, hs1, hb1⟩ := gotl_yes hgot HG.out; have HB := Lib.hid hb1; have HI := Lib.hid hi1; have HS := Lib.hid hs1; clear hb1 hgot hi1 hs1)
    go_ret3
    exact gotl_some rfl rfl rfl HI.out HS.out HB.out

theorem getTexts_any (a : Option Addr) (len cap : Nat) (zs : List Int) (hl : len ≤ 800000) (w : World) (h : Sl w a len cap zs) :
    Calls Try.prog 31 #[.slice a len cap] w (GotL Ts (gts zs) w) := by
  have H := Lib.hid h
  have HL := Lib.hid (show zs.length ≤ 800000 by rw [h.sz]; exact hl)
  clear h
  cases hg : gts zs with
  | none =>
    have HG := Lib.hid hg
    clear hg
    go_enter Try.func31, Try.ntmps31
    go_wp2_with (first
      | (go_at_call 50; refine (cloTexts_any _ _ _ zs (by omega) _ H.out).mono ?_; intro e w1 hgot; obtain ⟨rfl, hb1⟩ := gotl_no hgot HG.out; have HB := Lib.hid hb1; clear hb1 hgot)
      | (go_at_call 49; go_in))
    go_ret3
    simp only []
    go_wp2
    go_ret3
    exact gotl_none rfl HB.out
  | some p =>
    obtain ⟨xs, rest⟩ := p
    have HG := Lib.hid hg
    have hrl : rest.length ≤ 800000 := Nat.le_trans (gts_rest hg) HL.out
    clear hg
    go_enter Try.func31, Try.ntmps31
    go_wp2_with (first
      | (go_at_call 50; refine (cloTexts_any _ _ _ zs (by omega) _ H.out).mono ?_; intro e w1 hgot; obtain ⟨A1, c1, A2, c2, rfl, hi1, hs1, hb1⟩ := gotl_yes hgot HG.out; have HB := Lib.hid hb1; have HI := Lib.hid hi1; have HS := Lib.hid hs1; clear hb1 hgot hi1 hs1)
      | (go_at_call 35; refine (copied_any A2 _ c2 rest (by omega) _ HS.out).mono ?_; rintro e w2 ⟨A3, c3, rfl, ho2, hb2⟩; have HO2 := Lib.hid ho2; have HB2 := Lib.hid hb2; clear ho2 hb2)
      | (go_at_call 49; go_in))
    go_ret3
    simp only []
    go_wp2
    go_ret3
    exact gotl_some rfl rfl rfl (HI.out.below HB2.out) (OwnPost.sl (w := w) HO2.out HS.out.bd) (HB.out.trans (HB2.out.mono HB.out.size))
end Go.Proofs.Ytgfodleoollmmaa
