/- The reference reads lists of texts into rows of their own; its decoder of levels, whatever the bytes; what stands between the steps of its decoder. Bounds: at most 800000 bytes. No condition. -/
import Derived.Test.YtdacjnlfjaegiaaGreatDoorPK51
namespace Go.Proofs.YtdacjnlfjaegiaaGreatDoor.Cd
open Go Go.RowKit
set_option linter.unusedVariables false
set_option linter.unusedSimpArgs false
set_option maxRecDepth 100000

set_option maxHeartbeats 1600000 in
theorem rgetTexts_new (a : Option Addr) (len cap : Nat) (zs : List Int) (hl : len ≤ 800000) (w : World) (h : Sl w a len cap zs) :
    Calls Tryz.prog 81 #[.slice a len cap] w (GotL (TsN w.heap.size) (gts zs) w) := by
  have H := Lib.hid h
  have hz := h.sz
  subst hz
  clear h
  cases hd : C.dec zs with
  | none =>
    have HG := Lib.hid (gi_none hd)
    have HN := Lib.hid (show gts zs = none by unfold gts; rw [cnt_no hd]; rfl)
    clear hd
    go_enter Tryz.func81, Tryz.ntmps81
    go_wp2_with (go_at_call 79; refine (rgetInt_any _ _ _ zs hl _ H.out).mono ?_; intro e w1 hgot; obtain ⟨rfl, hb1⟩ := got_no hgot HG.out; have HB := Lib.hid hb1; clear hb1 hgot)
    go_ret3
    exact gotl_none HN.out HB.out
  | some p =>
    obtain ⟨u, k⟩ := p
    have HG := Lib.hid (gi_some hd)
    have hin := (C.in64_iff _).1 (C.zag_in (C.enc_dec H.out.bd hd).2.1)
    have hrl : (zs.drop k).length ≤ 800000 := by rw [List.length_drop]; omega
    have H1 := Lib.hid (fun h => show gts zs = none by unfold gts; rw [cnt_out hd h]; rfl)
    have H2 := Lib.hid (fun h0 h1 => show gts zs = lst dt (C.zag u).toNat (zs.drop k) by unfold gts; rw [cnt_in hd h0 h1]; rfl)
    clear hd
    generalize C.zag u = n at *
    generalize zs.drop k = rest at *
    obtain ⟨hin0, hin1⟩ := hin
    have HRL := Lib.hid hrl
    rcases Int.lt_or_le n 0 with h0 | h0
    · have HN := Lib.hid (H1.out (.inl h0))
      clear H1 H2
      go_enter Tryz.func81, Tryz.ntmps81
      go_wp2_with (go_at_call 79; refine (rgetInt_any _ _ _ zs hl _ H.out).mono ?_; intro e w1 hgot; obtain ⟨A1, c1, rfl, hs1, hb1⟩ := got_yes hgot HG.out; have HB := Lib.hid hb1; have HS := Lib.hid hs1; clear hb1 hgot hs1)
      go_ret3
      exact gotl_none HN.out HB.out
    · rcases Int.lt_or_le (rest.length : Int) n with h1 | h1
      · have HN := Lib.hid (H1.out (.inr h1))
        clear H1 H2
        go_enter Tryz.func81, Tryz.ntmps81
        go_wp2_with (go_at_call 79; refine (rgetInt_any _ _ _ zs hl _ H.out).mono ?_; intro e w1 hgot; obtain ⟨A1, c1, rfl, hs1, hb1⟩ := got_yes hgot HG.out; have HB := Lib.hid hb1; have HS := Lib.hid hs1; clear hb1 hgot hs1)
        go_ret3
        exact gotl_none HN.out HB.out
      · have HY := Lib.hid (H2.out h0 h1)
        clear H1 H2
        obtain ⟨m, rfl⟩ := Int.eq_ofNat_of_zero_le h0
        rw [Int.toNat_natCast] at HY
        have hm9 : m ≤ 800000 := by omega
        clear h0 hin0 hin1
        go_enter Tryz.func81, Tryz.ntmps81
        go_wp2_with (go_at_call 79; refine (rgetInt_in w.heap.size _ _ _ zs hl _ H.out H.out.here).mono ?_; intro e w1 hgot; obtain ⟨A1, c1, rfl, hs1, hi1, hb1⟩ := gotin_yes hgot HG.out; have HB := Lib.hid hb1; have HS := Lib.hid hs1; have HIn := Lib.hid hi1; clear hb1 hgot hs1 hi1)
        have g1 : decide ((m : Int) < 0) = false := by simp
        have g2 : decide (rest.length < m) = false := by simp; omega
        simp only [g1, g2, Bool.or_false]
        clear g1 g2 h1
        go_loopw [6, 8, 9, 10, 11, 12] (fun r out i x y ok wr => ∃ (A A4 : Option Addr) (c c4 k : Nat) (xs : List ByteArray) (rs : List Int), k ≤ m ∧ i = .int .i64 k ∧ r = .slice A rs.length c ∧ out = .slice A4 xs.length c4 ∧ xs.length = k ∧ Hid (Prg dt m rest k xs rs) ∧ Hid (Sl wr A rs.length c rs) ∧ Hid (wr.ownsRow w.heap.size 9 1 (.slice A4 xs.length c4) xs.length (xs.map Value.string)) ∧ Hid (∀ z ∈ xs, Small z) ∧ Hid (Below w.heap.size w wr) ∧ Hid (In w.heap.size rs.length A)) (fun _ _ i _ _ _ _ => m - (intOf i).toNat)
        case atStart => exact ⟨A1, none, c1, 0, 0, [], rest, Nat.zero_le _, rfl, rfl, rfl, rfl, Lib.hid prg_zero, HS, Lib.hid (World.ownsRow_nil _ _ _ _), Lib.hid (by simp), HB, HIn⟩
        case round =>
          obtain ⟨A2, A4, c2, c4, k, xs, rs, hk, rfl, rfl, rfl, rfl, HP, HS2, HR, HK, HBr, HI⟩ := hrel
          by_cases hlt : xs.length < m
          · have hrs : rs.length ≤ 800000 := Nat.le_trans HP.out.rl HRL.out
            cases hd : dt rs with
            | none =>
              have HGr := Lib.hid (show gt rs = none by rw [gt_dt, hd]; rfl)
              have HF := Lib.hid (HY.out.trans (prg_none HP.out hlt hd))
              clear hd
              go_wp2_with (go_at_call 78; refine (rgetText_in w.heap.size _ _ _ rs hrs _ HS2.out HI.out).mono ?_; intro e w3 hgot; obtain ⟨rfl, hb3⟩ := gotin_no hgot HGr.out; have HB3 := Lib.hid (HBr.out.trans (hb3.mono HBr.out.size)); clear hb3 hgot)
              go_ret3
              exact gotl_none HF.out HB3.out
            | some p =>
              obtain ⟨x, r'⟩ := p
              have HGr := Lib.hid (show gt rs = some (Value.string x, r') by rw [gt_dt, hd]; rfl)
              have HP2 := Lib.hid (prg_some HP.out hlt hd (dt_len hd))
              have HX := Lib.hid (dt_ok HS2.out.bd (Nat.le_trans hrs (by decide)) hd)
              clear hd
              go_wp2_with (first
                | (go_at_call 78; refine (rgetText_in w.heap.size _ _ _ rs hrs _ HS2.out HI.out).mono ?_; intro e w3 hgot; obtain ⟨A3, c3, rfl, hs3, hi3, hb3⟩ := gotin_yes hgot HGr.out; have HI3 := Lib.hid hi3; have HR3 := Lib.hid (row_keep HR.out hb3); have HB3 := Lib.hid (HBr.out.trans (hb3.mono HBr.out.size)); have HS3 := Lib.hid hs3; clear hb3 hgot hs3 hi3)
                | (at_builtin; (with_reducible refine app_oneT rfl (.tmp 44) (.tmp 46) ?_ _ xs ?_ HR3.out HB3.out.size x _ _ ?_ (by omega) ?_); (rfl); (rfl); (rfl); intro v4 w4 hr4 hb4; obtain ⟨A5, c5, rfl⟩ := row_shapeT hr4; have HR4 := Lib.hid hr4; have HB4 := Lib.hid (HB3.out.trans hb4); have HS4 := Lib.hid (HS3.out.under HI3.out hb4); clear hr4 hb4))
              go_roundw
              case rel => exact ⟨A3, A5, c3, c5, xs.length + 1, xs ++ [x], r', hlt, by go_num, rfl, by first | rfl | simp, by simp, HP2, HS4, HR4, Lib.hid (all_snoc HK.out HX.out), HB4, HI3⟩
              case measure => simp [intOf]; omega
          · obtain rfl : xs.length = m := by omega
            have HF := Lib.hid (HY.out.trans (prg_end HP.out))
            go_wp2
            go_ret3
            exact gotl_some HF.out rfl rfl ⟨row_listT HR.out HK.out, fun b off e => (HR.out.lt b (by rw [e]; rfl)).1⟩ HS2.out HBr.out
end Go.Proofs.YtdacjnlfjaegiaaGreatDoor.Cd
namespace Go.Proofs.YtdacjnlfjaegiaaGreatDoor
open Go Go.RowKit
set_option linter.unusedVariables false
set_option linter.unusedSimpArgs false
set_option maxRecDepth 100000

theorem rlevels82 (A0 : Option Addr) (c0 : Nat) (zs : List Int) (w : World) (h : Cd.Sl w A0 zs.length c0 zs) (hl : zs.length ≤ 800000) : Calls Tryz.prog 82 #[.slice A0 zs.length c0] w (RlP (dcL zs false) w) := by
  cases hd : Cd.di zs with
  | none => exact rlevels82_none A0 c0 zs w h hl hd
  | some p => exact rlevels82_some A0 c0 zs w h hl p.1 p.2 hd
theorem tsn_setc {w : World} {A : Option Addr} {n c : Nat} {zs : List ByteArray} {B : Nat} (h : Cd.TsN B w A n c zs) {g : Nat} (hg : g < B) (i : Nat) (v : Value) : Cd.TsN B (w.setCell ⟨g, i, none⟩ v) A n c zs := by
  refine ⟨⟨h.1.sz, h.1.bd, h.1.le, h.1.nl, fun h0 => ?_⟩, h.2⟩
  obtain ⟨b, off, e, hl, hc⟩ := h.1.cell h0
  have h2 := h.2 b off e
  have hne : b ≠ g := by omega
  exact ⟨b, off, e, by simpa using hl, fun j hj => (World.cell?_of_block (a := ⟨b, off + j, none⟩) (heap_setCell_other w ⟨g, i, none⟩ b v hne)).trans (hc j hj)⟩
/-- Between two steps of the reference's decoder: its result's block, the content that it fills, the seven flags, what is left. -/
structure RD (w : World) (ov bv : List Value) (As : Option Addr) (cs : Nat) (rs : List Int) (y : World) : Prop where
  ob : Blk y (w.heap.size + 1) ov 29
  bb : Blk y (w.heap.size + 2) bv 91
  ar : Blk y w.heap.size [.string ⟨#[]⟩, .int .i64 0, .int .i64 0, .bool false, .string ⟨#[]⟩, .slice none 0 0, .slice none 0 0, .slice none 0 0, .slice none 0 0, .int .i64 0, .int .i64 0, .int .i64 0, .int .i64 0, .int .i64 0, .int .i64 0, .int .i64 0] 29
  sl : Cd.Sl y As rs.length cs rs
  no : ∀ v ∈ ov, N8 v
  nb : ∀ v ∈ bv, N8 v
  bel : Below w.heap.size w y
section
variable {w : World} {ov bv : List Value} {As : Option Addr} {cs : Nat} {rs : List Int} {y : World}
theorem RD.call (h : RD w ov bv As cs rs y) {y' : World} (hb : Below y.heap.size y y') {As' : Option Addr} {cs' : Nat} {rs' : List Int} (hs : Cd.Sl y' As' rs'.length cs' rs') : RD w ov bv As' cs' rs' y' :=
  ⟨h.ob.below hb, h.bb.below hb, h.ar.below hb, hs, h.no, h.nb, h.bel.trans (hb.mono h.bel.size)⟩
theorem RD.keep (h : RD w ov bv As cs rs y) {y' : World} (hb : Below y.heap.size y y') : RD w ov bv As cs rs y' := h.call hb (h.sl.below hb)
theorem RD.gone (h : RD w ov bv As cs rs y) {y' : World} (hb : Below y.heap.size y y') : RD w ov bv none 0 [] y' := h.call hb (Cd.Sl.empty _ _ _ (fun _ => rfl))
theorem mem_set {l : List Value} {P : Value → Prop} (h : ∀ v ∈ l, P v) (i : Nat) {x : Value} (hx : P x) : ∀ v ∈ l.set i x, P v := fun v hv => by
  rcases List.mem_or_eq_of_mem_set hv with h1 | h1
  · exact h v h1
  · rw [h1]; exact hx
theorem RD.setO (h : RD w ov bv As cs rs y) (i : Nat) (v : Value) (hv : N8 v) : RD w (ov.set i v) bv As cs rs (y.setCell ⟨w.heap.size + 1, i, none⟩ v) :=
  ⟨h.ob.set i v, h.bb.other ⟨w.heap.size + 1, i, none⟩ v (by show w.heap.size + 2 ≠ w.heap.size + 1; omega), h.ar.other ⟨w.heap.size + 1, i, none⟩ v (by show w.heap.size ≠ w.heap.size + 1; omega), h.sl.set_blk h.ob h.no i v, mem_set h.no i hv, h.nb, h.bel.setCell (p := ⟨w.heap.size + 1, i, none⟩) (Nat.le_succ _) v⟩
theorem RD.setB (h : RD w ov bv As cs rs y) (i : Nat) (v : Value) (hv : N8 v) : RD w ov (bv.set i v) As cs rs (y.setCell ⟨w.heap.size + 2, i, none⟩ v) :=
  ⟨h.ob.other ⟨w.heap.size + 2, i, none⟩ v (by show w.heap.size + 1 ≠ w.heap.size + 2; omega), h.bb.set i v, h.ar.other ⟨w.heap.size + 2, i, none⟩ v (by show w.heap.size ≠ w.heap.size + 2; omega), h.sl.set_blk h.bb h.nb i v, h.no, mem_set h.nb i hv, h.bel.setCell (p := ⟨w.heap.size + 2, i, none⟩) (by show w.heap.size ≤ w.heap.size + 2; omega) v⟩
theorem n8_bool (b : Bool) : N8 (.bool b) := fun z h => by cases h
theorem n8_str (b : ByteArray) : N8 (.string b) := fun z h => by cases h
theorem n8_i64 (b : Int) : N8 (.int .i64 b) := fun z h => by cases h
end
end Go.Proofs.YtdacjnlfjaegiaaGreatDoor
