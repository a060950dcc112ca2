/- Lists of texts are read into rows of their own. Bounds: at most 800000 bytes. No condition. -/
import Derived.Test.YtdacjnlfjaegiaaGreatDoorK45
namespace Go.Proofs.YtdacjnlfjaegiaaGreatDoor.Cd
open Go Go.RowKit
set_option linter.unusedVariables false
set_option linter.unusedSimpArgs false
set_option maxRecDepth 100000

/-- Texts in a row that lies past B. -/
def TsN (B : Nat) (w : World) (A : Option Addr) (n c : Nat) (zs : List ByteArray) : Prop := Ts w A n c zs ∧ ∀ b off, A = some ⟨b, off, none⟩ → B ≤ b
set_option maxHeartbeats 1600000 in
theorem cutTexts_new (a : Option Addr) (len cap : Nat) (zs : List Int) (hl : len ≤ 900000) (w : World) (h : Sl w a len cap zs) :
    Calls Tryz.prog 130 #[.slice a len cap, .func (.func 123) #[] #[]] w (GotL (TsN w.heap.size) (gts zs) w) := by
  have H := Lib.hid h
  have HL := Lib.hid (show zs.length ≤ 900000 by rw [h.sz]; exact hl)
  clear h
  cases hc : cnt zs with
  | none =>
    have HG := Lib.hid (show gc zs = none by unfold gc; rw [hc]; rfl)
    have HN := Lib.hid (show gts zs = none by unfold gts; rw [hc]; rfl)
    clear hc
    go_enter Tryz.func130, Tryz.ntmps130
    go_wp2_with (go_at_call 142; refine (cutCount_any _ _ _ zs hl _ H.out).mono ?_; intro e w1 hgot; obtain ⟨rfl, hb1⟩ := got_no hgot HG.out; have HB := Lib.hid hb1; clear hb1 hgot)
    go_ret3
    exact gotl_none HN.out HB.out
  | some p =>
    obtain ⟨n, rest⟩ := p
    have HG := Lib.hid (show gc zs = some (.int .i64 (n : Int), rest) by unfold gc; rw [hc]; rfl)
    have HN := Lib.hid (show gts zs = lst dt n rest by unfold gts; rw [hc]; rfl)
    have hnr := (cnt_rest hc).1
    have hrz := (cnt_rest hc).2.1
    have hrl : rest.length ≤ 900000 := Nat.le_trans hrz HL.out
    have hn9 : n ≤ 900000 := Nat.le_trans hnr hrl
    have HRL := Lib.hid hrl
    clear hc hnr hrz hrl
    go_enter Tryz.func130, Tryz.ntmps130
    go_wp2_with (first
      | (go_at_call 142; refine (cutCount_any _ _ _ zs hl _ H.out).mono ?_; intro e w1 hgot; obtain ⟨A1, c1, rfl, hs1, hb1⟩ := got_yes hgot HG.out; have HB := Lib.hid hb1; have HS := Lib.hid hs1; clear hb1 hgot hs1)
      | ((with_reducible refine wpList_makeT rfl rfl n ?_ (by omega) ?_); (rfl); intro w2 hr2 hb2 hl2; have HR2 := Lib.hid hr2; have HB2 := Lib.hid hb2; have HL2 := Lib.hid hl2; clear hr2 hb2 hl2))
    go_loopw [8, 9, 11, 24] (fun r ok i j wr => ∃ (A : Option Addr) (c k : Nat) (xs : List ByteArray) (rs : List Int), k ≤ n ∧ j = .int .i64 k ∧ r = .slice A rs.length c ∧ Hid (Prg dt n rest k xs rs) ∧ Hid (Sl wr A rs.length c rs) ∧ Hid (wr.ownsRow w1.heap.size 9 1 (.slice (some ⟨w1.heap.size, 0, none⟩) n n) n ((xs ++ List.replicate (n - k) (⟨#[]⟩ : ByteArray)).map Value.string)) ∧ Hid (∀ z ∈ xs, Small z) ∧ Hid (Below w.heap.size w wr) ∧ Hid (w1.heap.size < wr.heap.size)) (fun _ _ _ j _ => n - (intOf j).toNat)
    case atStart => exact ⟨A1, c1, 0, [], rest, Nat.zero_le _, rfl, rfl, Lib.hid prg_zero, Lib.hid (HS.out.below HB2.out), HR2, Lib.hid (by simp), Lib.hid (HB.out.trans (HB2.out.mono HB.out.size)), HL2⟩
    case round =>
      obtain ⟨A2, c2, k, xs, rs, hk, rfl, rfl, HP, HS2, HR, HK, HBr, HLr⟩ := hrel
      by_cases hlt : k < n
      · have hrs : rs.length ≤ 900000 := Nat.le_trans HP.out.rl HRL.out
        have HBg := Lib.hid HB.out.size
        cases hd : dt rs with
        | none =>
          have HGr := Lib.hid (show gt rs = none by rw [gt_dt, hd]; rfl)
          have HF := Lib.hid (HN.out.trans (prg_none HP.out hlt hd))
          clear hd
          go_wp2_with (go_at_call 123; refine (cutText_any _ _ _ rs hrs _ HS2.out).mono ?_; intro e w3 hgot; obtain ⟨rfl, hb3⟩ := got_no hgot HGr.out; have hrow := row_keep HR.out hb3; have hcell := row_cell Value.string (⟨#[]⟩ : ByteArray) hrow hlt HP.out.sz; have hfr := hrow.frozenAt k; have HB3 := Lib.hid (HBr.out.trans (hb3.mono HBr.out.size)); clear hb3 hgot hrow)
          go_ret3
          exact gotl_none HF.out (HB3.out.setCell HBg.out _)
        | some p =>
          obtain ⟨x, r'⟩ := p
          have HGr := Lib.hid (show gt rs = some (Value.string x, r') by rw [gt_dt, hd]; rfl)
          have HP2 := Lib.hid (prg_some HP.out hlt hd (dt_len hd))
          have HX := Lib.hid (dt_ok HS2.out.bd (Nat.le_trans hrs (by decide)) hd)
          clear hd
          go_wp2_with (go_at_call 123; refine (cutText_any _ _ _ rs hrs _ HS2.out).mono ?_; intro e w3 hgot; obtain ⟨A3, c3, rfl, hs3, hb3⟩ := got_yes hgot HGr.out; have hrow := row_keep HR.out hb3; have hcell := row_cell Value.string (⟨#[]⟩ : ByteArray) hrow hlt HP.out.sz; have hfr := hrow.frozenAt k; have HB3 := Lib.hid (HBr.out.trans (hb3.mono HBr.out.size)); have HS3 := Lib.hid (sl_stored hs3 hrow (map_ne (fun x z h => by cases h) _) k (Value.string x)); have HR3 := Lib.hid (row_step Value.string (⟨#[]⟩ : ByteArray) hrow x hlt HP.out.sz); have HL3 := Lib.hid (Nat.lt_of_lt_of_le HLr.out hb3.size); clear hb3 hgot hrow hs3)
          go_roundw
          case rel => exact ⟨A3, c3, k + 1, xs ++ [x], r', hlt, by go_num, rfl, HP2, HS3, HR3, Lib.hid (all_snoc HK.out HX.out), Lib.hid (HB3.out.setCell HBg.out _), Lib.hid (by simpa [World.setCell] using HL3.out)⟩
          case measure => simp [intOf]; omega
      · obtain rfl : k = n := by omega
        have HF := Lib.hid (HN.out.trans (prg_end HP.out))
        go_wp2
        go_ret3
        exact gotl_some HF.out HP.out.sz.symm rfl ⟨row_ts (by have := HR.out; simpa using this) HK.out HP.out.sz HLr.out, fun b off e => by injection e with e; injection e with e1 _ _; rw [← e1]; exact HB.out.size⟩ HS2.out HBr.out

theorem cloTexts_new (a : Option Addr) (len cap : Nat) (zs : List Int) (hl : len ≤ 900000) (w : World) (h : Sl w a len cap zs) :
    Calls Tryz.prog 129 #[.slice a len cap] w (GotL (TsN w.heap.size) (gts zs) w) := by
  have H := Lib.hid h
  clear h
  cases hc : gts zs with
  | none =>
    have HG := Lib.hid hc
    clear hc
    go_enter Tryz.func129, Tryz.ntmps129
    go_wp2_with (go_at_call 130; refine (cutTexts_new _ _ _ zs hl _ H.out).mono ?_; intro e w1 hgot; obtain ⟨rfl, hb1⟩ := gotl_no hgot HG.out; have HB := Lib.hid hb1; clear hb1 hgot)
    go_ret3
    exact gotl_none rfl HB.out
  | some p =>
    obtain ⟨xs, rest⟩ := p
    have HG := Lib.hid hc
    clear hc
    go_enter Tryz.func129, Tryz.ntmps129
    go_wp2_with (go_at_call 130; refine (cutTexts_new _ _ _ zs hl _ H.out).mono ?_; intro e w1 hgot; obtain ⟨A1, c1, A2, c2, rfl, hi1, hs1, hb1⟩ := gotl_yes hgot HG.out; have HB := Lib.hid hb1; have HI := Lib.hid hi1; have HS := Lib.hid hs1; clear hb1 hgot hi1 hs1)
    go_ret3
    exact gotl_some rfl rfl rfl HI.out HS.out HB.out

theorem getTexts_new (a : Option Addr) (len cap : Nat) (zs : List Int) (hl : len ≤ 800000) (w : World) (h : Sl w a len cap zs) :
    Calls Tryz.prog 70 #[.slice a len cap] w (GotL (TsN w.heap.size) (gts zs) w) := by
  have H := Lib.hid h
  have HL := Lib.hid (show zs.length ≤ 800000 by rw [h.sz]; exact hl)
  clear h
  cases hg : gts zs with
  | none =>
    have HG := Lib.hid hg
    clear hg
    go_enter Tryz.func70, Tryz.ntmps70
    go_wp2_with (first
      | (go_at_call 129; refine (cloTexts_new _ _ _ zs (by omega) _ H.out).mono ?_; intro e w1 hgot; obtain ⟨rfl, hb1⟩ := gotl_no hgot HG.out; have HB := Lib.hid hb1; clear hb1 hgot)
      | (go_at_call 128; go_in))
    go_ret3
    simp only []
    go_wp2
    go_ret3
    exact gotl_none rfl HB.out
  | some p =>
    obtain ⟨xs, rest⟩ := p
    have HG := Lib.hid hg
    have hrl : rest.length ≤ 800000 := Nat.le_trans (gts_rest hg) HL.out
    clear hg
    go_enter Tryz.func70, Tryz.ntmps70
    go_wp2_with (first
      | (go_at_call 129; refine (cloTexts_new _ _ _ zs (by omega) _ H.out).mono ?_; intro e w1 hgot; obtain ⟨A1, c1, A2, c2, rfl, hi1, hs1, hb1⟩ := gotl_yes hgot HG.out; have HB := Lib.hid hb1; have HI := Lib.hid hi1; have HS := Lib.hid hs1; clear hb1 hgot hi1 hs1)
      | (go_at_call 119; refine (copied_any A2 _ c2 rest (by omega) _ HS.out).mono ?_; rintro e w2 ⟨A3, c3, rfl, ho2, hb2⟩; have HO2 := Lib.hid ho2; have HB2 := Lib.hid hb2; clear ho2 hb2)
      | (go_at_call 128; go_in))
    go_ret3
    simp only []
    go_wp2
    go_ret3
    exact gotl_some rfl rfl rfl ⟨HI.out.1.below HB2.out, HI.out.2⟩ (OwnPost.sl (w := w) HO2.out HS.out.bd) (HB.out.trans (HB2.out.mono HB.out.size))
end Go.Proofs.YtdacjnlfjaegiaaGreatDoor.Cd
namespace Go.Proofs.YtdacjnlfjaegiaaGreatDoor
open Go Go.RowKit
set_option linter.unusedVariables false
set_option linter.unusedSimpArgs false
set_option maxRecDepth 100000

def TkN (r : List ByteArray × List Int × Bool) (rb : Nat) (w : World) (e : Ending) (w' : World) : Prop := ∃ A c, e = .returned (.slice A r.1.length c) ∧ Cd.TsN w.heap.size w' A r.1.length c r.1 ∧ Rd w' rb r.2.1 r.2.2 ∧ Below rb w w' ∧ Kp rb w w'
set_option maxHeartbeats 4000000 in
theorem take_textsN (rb : Nat) (zs : List Int) (f : Bool) (w : World) (h : Rd w rb zs f) (hl : zs.length ≤ 800000) : Calls Tryz.prog 69 #[.pointer (some ⟨rb, 0, none⟩), .func (.func 70) #[] #[]] w (TkN (gtkL zs f) rb w) := by
  unfold TkN
  obtain ⟨A, c, hb0, hs0⟩ := h
  have X0 := Lib.hid hb0
  have S0 := Lib.hid hs0
  clear hb0 hs0
  have y1 := X0.out.cell (i := 1) rfl
  have y0 := X0.out.cell (i := 0) rfl
  cases f with
  | true =>
    have HG := Lib.hid (show gtkL zs true = ([], zs, true) from rfl)
    generalize gtkL zs true = r at HG ⊢
    go_enter Tryz.func69, Tryz.ntmps69
    go_wp2
    go_ret
    rw [HG.out]
    exact ⟨none, 0, rfl, ⟨ts_nil _, fun b off e => (by cases e)⟩, ⟨A, c, X0.out, S0.out⟩, Below.refl _ _, Kp.refl _ _⟩
  | false =>
    cases hg : Cd.gts zs with
    | none =>
      have HG := Lib.hid (show gtkL zs false = ([], [], true) by unfold gtkL; rw [hg]; rfl)
      generalize gtkL zs false = r at HG ⊢
      have HN := Lib.hid hg
      clear hg
      go_enter Tryz.func69, Tryz.ntmps69
      go_wp2_with (first
        | (go_at_call 70; (with_reducible refine (Cd.getTexts_new A zs.length c zs hl _ S0.out).mono ?_); intro e w1 hgot; obtain ⟨rfl, hb⟩ := Cd.gotl_no hgot HN.out; have B1 := Lib.hid hb; have X1 := Lib.hid (X0.out.below hb); clear hgot hb y0 y1; have y0 := X1.out.cell (i := 0) rfl; have f0 := X1.out.free 0; have X2 := Lib.hid (X1.out.set 0 (.slice none 0 0)); have y1 := X2.out.cell (i := 1) rfl; have f1 := X2.out.free 1)
        | fail)
      go_ret
      rw [HG.out]
      exact ⟨none, 0, rfl, ⟨ts_nil _, fun b off e => (by cases e)⟩, ⟨none, 0, X2.out.set 1 (.bool true), Cd.Sl.empty _ none 0 (fun _ => rfl)⟩, ((B1.out.mono (Nat.le_of_lt X0.out.lt)).setCell (p := ⟨rb, 0, none⟩) (Nat.le_refl _) _).setCell (p := ⟨rb, 1, none⟩) (Nat.le_refl _) _, ((Kp.below B1.out rb).set 0 _).set 1 _⟩
    | some p =>
      obtain ⟨v, rest⟩ := p
      have HG := Lib.hid (show gtkL zs false = (v, rest, false) by unfold gtkL; rw [hg]; rfl)
      generalize gtkL zs false = r at HG ⊢
      have HN := Lib.hid hg
      clear hg
      go_enter Tryz.func69, Tryz.ntmps69
      go_wp2_with (first
        | (go_at_call 70; (with_reducible refine (Cd.getTexts_new A zs.length c zs hl _ S0.out).mono ?_); intro e w1 hgot; obtain ⟨AT, cT, A1, c1, rfl, ht, hs, hb⟩ := Cd.gotl_yes hgot HN.out; have B1 := Lib.hid hb; have S1 := Lib.hid hs; have T1 := Lib.hid ht; have X1 := Lib.hid (X0.out.below hb); clear hgot hb hs ht y0 y1; have y0 := X1.out.cell (i := 0) rfl; have f0 := X1.out.free 0; have X2 := Lib.hid (X1.out.set 0 (.slice A1 rest.length c1)); have y1 := X2.out.cell (i := 1) rfl; have f1 := X2.out.free 1)
        | fail)
      go_ret
      rw [HG.out]
      exact ⟨AT, cT, rfl, ⟨T1.out.1.kp X1.out (((Kp.refl rb _).set 0 _).set 1 _), T1.out.2⟩, ⟨A1, c1, X2.out.set 1 (.bool false), (S1.out.set_rd X1.out 0 _).set_rd X2.out 1 _⟩, ((B1.out.mono (Nat.le_of_lt X0.out.lt)).setCell (p := ⟨rb, 0, none⟩) (Nat.le_refl _) _).setCell (p := ⟨rb, 1, none⟩) (Nat.le_refl _) _, ((Kp.below B1.out rb).set 0 _).set 1 _⟩

theorem ts_set {w : World} {A : Option Addr} {n c : Nat} {zs : List ByteArray} {B : Nat} (h : Cd.TsN B w A n c zs) {g : Nat} (hg : g < B) (o : Nat) (vs : List Value) : Cd.TsN B (w.setCells g o vs) A n c zs := by
  refine ⟨⟨h.1.sz, h.1.bd, h.1.le, h.1.nl, fun h0 => ?_⟩, h.2⟩
  obtain ⟨b, off, e, hl, hc⟩ := h.1.cell h0
  have h2 := h.2 b off e
  have hne : b ≠ g := by omega
  exact ⟨b, off, e, by rw [size_setAll]; exact hl, fun j hj => (World.cell?_of_block (a := ⟨b, off + j, none⟩) (World.heap_setCells_other w g o vs hl hne)).trans (hc j hj)⟩
theorem bz_gtkB {zs : List Int} (h : BZ zs) (f : Bool) : BZ (gtk Cd.gb (.bool false) zs f).2.1 := by
  unfold gtk
  cases f with
  | true => exact h
  | false =>
    rw [if_neg (by decide)]
    cases zs with
    | nil => exact BZ.nil
    | cons c t =>
      have e : Cd.gb (c :: t) = if 1 < c then none else some (.bool (c == 1), t) := rfl
      rw [e]
      by_cases h1 : 1 < c
      · rw [if_pos h1]; exact BZ.nil
      · rw [if_neg h1]; exact ⟨fun z hz => h.1 z (List.mem_cons_of_mem _ hz), by have := h.2; rw [List.length_cons] at this; show t.length ≤ _; omega⟩
end Go.Proofs.YtdacjnlfjaegiaaGreatDoor
