/- The walk of the reference's GetInts. Bounds: at most 800000 bytes. -/
import Derived.Test.YtgfodleoollmmaaW11a
namespace Go.Proofs.Ytgfodleoollmmaa
open Go.RowKit
set_option linter.unusedVariables false



/-- One append of one element. -/
theorem app_oneI {w : World} {ops : Array Oper} {rest : List Oper} {o : Oper} {a : Act} {Q : Exit → Act → World → Prop} (hgd : o.guard = none) (s x : Operand)
    (ho : o.op = .call { callee := .builtin .append, args := #[s, x], argTypes := #[23, 23] }) {B : Nat}
    (v : Value) (xs : List Int) (hs : a.eval s = v) (hown : w.ownsRow B 3 1 v xs.length (xs.map (Value.int .i64))) (hB : B ≤ w.heap.size) (z : Int) (t : TypeId) (f : Nat × Nat)
    (hx : a.eval x = .slice (some ⟨w.heap.size, 0, none⟩) 1 1) (hn : xs.length ≤ 999000)
    (h : ∀ v' w', w'.ownsRow B 3 1 v' (xs ++ [z]).length ((xs ++ [z]).map (Value.int .i64)) → Below B w w' → wpList Try.prog ops Q rest (a.put o.dst v') w') : wpList Try.prog ops Q (o :: rest) a (w.alloc (.cells #[(Value.int .i64) z] t f)) := by
  obtain ⟨i0, hi0, hz0, hz1, hz2⟩ := info_parts info3
  have hown2 := World.ownsRow.alloc hown (.cells #[(Value.int .i64) z] t f)
  refine wpList_append_own _ hgd _ _ 23 ho B 3 i0 ((Value.int .i64) 0) 1 8 Try.underlying23 hi0 hz0 hz1 hz2 rfl (by decide) v _ _ hs hown2 ⟨w.heap.size, 0, none⟩ 1 1 [(Value.int .i64) z] hx rfl ?_ (by simp [Value.oneCell']) (by unfold maxLen; omega) (by omega) (by simp; omega) ?_
  · intro j u hu
    have hj : j = 0 := by
      rcases Nat.eq_zero_or_pos j with h | h
      · exact h
      · rw [List.getElem?_eq_none (by simp; omega)] at hu; cases hu
    subst hj
    rw [Addr.add_lit, new_cell]
    simpa using hu
  · intro v' w' hown' hg _
    refine h v' w' ?_ (((Below.refl B w).alloc hB _).grown hg (by simp; omega) (fun k hk => (hown2.lt k hk).1))
    rw [List.map_append, List.length_append]
    exact hown'
theorem row_shapeI {w : World} {B n : Nat} {v : Value} {vs : List Value} (h : w.ownsRow B 3 1 v n vs) : ∃ A c, v = .slice A n c := by
  rcases h.2 with ⟨rfl, h0⟩ | ⟨g, cap, cur, rfl, _⟩
  · exact ⟨none, 0, by rw [h0]⟩
  · exact ⟨_, _, rfl⟩
theorem row_listI {w : World} {B : Nat} {A : Option Addr} {c : Nat} {xs : List Int} (h : w.ownsRow B 3 1 (.slice A xs.length c) xs.length (xs.map (Value.int .i64))) (hz : ∀ z ∈ xs, C.in64 z) : Is w A xs.length c xs := by
  rcases h.2 with ⟨e, h0⟩ | ⟨g, cap, cur, e, hbg, hg, hnc, _⟩
  · injection e with e1 e2 e3
    subst e1 e3
    exact ⟨rfl, hz, by omega, fun _ => rfl, by omega⟩
  · injection e with e1 e2 e3
    subst e1 e3
    refine ⟨rfl, hz, hnc, (fun h => by cases h), fun h0 => ⟨g, 0, rfl, lt_of_block hg, fun i hi => ?_⟩⟩
    rw [Nat.zero_add, World.ownsRow.cellAt (xs := xs.map (Value.int .i64)) h i (by omega), List.getElem?_map, List.getElem?_eq_getElem (by omega), List.getD_eq_getElem?_getD, List.getElem?_eq_getElem (by omega)]
    rfl

set_option maxRecDepth 100000 in
set_option maxHeartbeats 1600000 in
theorem rgetInts_any (a : Option Addr) (len cap : Nat) (zs : List Int) (hl : len ≤ 800000) (w : World) (h : Sl w a len cap zs) :
    Calls Try.prog 25 #[.slice a len cap] w (GotL Is (gis zs) w) := by
  have H := Lib.hid h
  have hz := h.sz
  subst hz
  clear h
  cases hd : C.dec zs with
  | none =>
    have HG := Lib.hid (gi_none hd)
    have HN := Lib.hid (show gis zs = none by unfold gis; rw [cnt_no hd]; rfl)
    clear hd
    go_enter Try.func25, Try.ntmps25
    go_wp2_with (go_at_call 23; refine (rgetInt_any _ _ _ zs hl _ H.out).mono ?_; intro e w1 hgot; obtain ⟨rfl, hb1⟩ := got_no hgot HG.out; have HB := Lib.hid hb1; clear hb1 hgot)
    go_ret3
    exact gotl_none HN.out HB.out
  | some p =>
    obtain ⟨u, k⟩ := p
    have HG := Lib.hid (gi_some hd)
    have hin := (C.in64_iff _).1 (C.zag_in (C.enc_dec H.out.bd hd).2.1)
    have hrl : (zs.drop k).length ≤ 800000 := by rw [List.length_drop]; omega
    have H1 := Lib.hid (fun h => show gis zs = none by unfold gis; rw [cnt_out hd h]; rfl)
    have H2 := Lib.hid (fun h0 h1 => show gis zs = lst di (C.zag u).toNat (zs.drop k) by unfold gis; rw [cnt_in hd h0 h1]; rfl)
    clear hd
    generalize C.zag u = n at *
    generalize zs.drop k = rest at *
    obtain ⟨hin0, hin1⟩ := hin
    have HRL := Lib.hid hrl
    rcases Int.lt_or_le n 0 with h0 | h0
    · have HN := Lib.hid (H1.out (.inl h0))
      clear H1 H2
      go_enter Try.func25, Try.ntmps25
      go_wp2_with (go_at_call 23; refine (rgetInt_any _ _ _ zs hl _ H.out).mono ?_; intro e w1 hgot; obtain ⟨A1, c1, rfl, hs1, hb1⟩ := got_yes hgot HG.out; have HB := Lib.hid hb1; have HS := Lib.hid hs1; clear hb1 hgot hs1)
      go_ret3
      exact gotl_none HN.out HB.out
    · rcases Int.lt_or_le (rest.length : Int) n with h1 | h1
      · have HN := Lib.hid (H1.out (.inr h1))
        clear H1 H2
        go_enter Try.func25, Try.ntmps25
        go_wp2_with (go_at_call 23; refine (rgetInt_any _ _ _ zs hl _ H.out).mono ?_; intro e w1 hgot; obtain ⟨A1, c1, rfl, hs1, hb1⟩ := got_yes hgot HG.out; have HB := Lib.hid hb1; have HS := Lib.hid hs1; clear hb1 hgot hs1)
        go_ret3
        exact gotl_none HN.out HB.out
      · have HY := Lib.hid (H2.out h0 h1)
        clear H1 H2
        obtain ⟨m, rfl⟩ := Int.eq_ofNat_of_zero_le h0
        rw [Int.toNat_natCast] at HY
        have hm9 : m ≤ 800000 := by omega
        clear h0 hin0 hin1
        go_enter Try.func25, Try.ntmps25
        go_wp2_with (go_at_call 23; refine (rgetInt_in w.heap.size _ _ _ zs hl _ H.out H.out.here).mono ?_; intro e w1 hgot; obtain ⟨A1, c1, rfl, hs1, hi1, hb1⟩ := gotin_yes hgot HG.out; have HB := Lib.hid hb1; have HS := Lib.hid hs1; have HIn := Lib.hid hi1; clear hb1 hgot hs1 hi1)
        have g1 : decide ((m : Int) < 0) = false := by simp
        have g2 : decide (rest.length < m) = false := by simp; omega
        simp only [g1, g2, Bool.or_false]
        clear g1 g2 h1
        go_loopw [6, 8, 9, 10, 11, 12] (fun r out i x y ok wr => ∃ (A A4 : Option Addr) (c c4 k : Nat) (xs : List Int) (rs : List Int), k ≤ m ∧ i = .int .i64 k ∧ r = .slice A rs.length c ∧ out = .slice A4 xs.length c4 ∧ xs.length = k ∧ Hid (Prg di m rest k xs rs) ∧ Hid (Sl wr A rs.length c rs) ∧ Hid (wr.ownsRow w.heap.size 3 1 (.slice A4 xs.length c4) xs.length (xs.map (Value.int .i64))) ∧ Hid (∀ z ∈ xs, C.in64 z) ∧ Hid (Below w.heap.size w wr) ∧ Hid (In w.heap.size rs.length A)) (fun _ _ i _ _ _ _ => m - (intOf i).toNat)
        case atStart => exact ⟨A1, none, c1, 0, 0, [], rest, Nat.zero_le _, rfl, rfl, rfl, rfl, Lib.hid prg_zero, HS, Lib.hid (World.ownsRow_nil _ _ _ _), Lib.hid (by simp), HB, HIn⟩
        case round =>
          obtain ⟨A2, A4, c2, c4, k, xs, rs, hk, rfl, rfl, rfl, rfl, HP, HS2, HR, HK, HBr, HI⟩ := hrel
          by_cases hlt : xs.length < m
          · have hrs : rs.length ≤ 800000 := Nat.le_trans HP.out.rl HRL.out
            cases hd : di rs with
            | none =>
              have HGr := Lib.hid (show gi rs = none by rw [gi_di, hd]; rfl)
              have HF := Lib.hid (HY.out.trans (prg_none HP.out hlt hd))
              clear hd
              go_wp2_with (go_at_call 23; refine (rgetInt_in w.heap.size _ _ _ rs hrs _ HS2.out HI.out).mono ?_; intro e w3 hgot; obtain ⟨rfl, hb3⟩ := gotin_no hgot HGr.out; have HB3 := Lib.hid (HBr.out.trans (hb3.mono HBr.out.size)); clear hb3 hgot)
              go_ret3
              exact gotl_none HF.out HB3.out
            | some p =>
              obtain ⟨x, r'⟩ := p
              have HGr := Lib.hid (show gi rs = some ((Value.int .i64) x, r') by rw [gi_di, hd]; rfl)
              have HP2 := Lib.hid (prg_some HP.out hlt hd (di_len hd))
              have HX := Lib.hid (di_ok HS2.out.bd hd)
              clear hd
              go_wp2_with (first
                | (go_at_call 23; refine (rgetInt_in w.heap.size _ _ _ rs hrs _ HS2.out HI.out).mono ?_; intro e w3 hgot; obtain ⟨A3, c3, rfl, hs3, hi3, hb3⟩ := gotin_yes hgot HGr.out; have HI3 := Lib.hid hi3; have HR3 := Lib.hid (row_keep HR.out hb3); have HB3 := Lib.hid (HBr.out.trans (hb3.mono HBr.out.size)); have HS3 := Lib.hid hs3; clear hb3 hgot hs3 hi3)
                | (at_builtin; (with_reducible refine app_oneI rfl (.tmp 44) (.tmp 46) ?_ _ xs ?_ HR3.out HB3.out.size x _ _ ?_ (by omega) ?_); (rfl); (rfl); (rfl); intro v4 w4 hr4 hb4; obtain ⟨A5, c5, rfl⟩ := row_shapeI hr4; have HR4 := Lib.hid hr4; have HB4 := Lib.hid (HB3.out.trans hb4); have HS4 := Lib.hid (HS3.out.under HI3.out hb4); clear hr4 hb4))
              go_roundw
              case rel => exact ⟨A3, A5, c3, c5, xs.length + 1, xs ++ [x], r', hlt, by go_num, rfl, by first | rfl | simp, by simp, HP2, HS4, HR4, Lib.hid (all_snoc HK.out HX.out), HB4, HI3⟩
              case measure => simp [intOf]; omega
          · obtain rfl : xs.length = m := by omega
            have HF := Lib.hid (HY.out.trans (prg_end HP.out))
            go_wp2
            go_ret3
            exact gotl_some HF.out rfl rfl (row_listI HR.out HK.out) HS2.out HBr.out
end Go.Proofs.Ytgfodleoollmmaa
