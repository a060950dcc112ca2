/- GlobOrders: for every input the statement returns true. Conditions: none beyond the statement's own. -/
import Derived.Test.YtbaghejoolemlaaRows
import Derived.Test.YtbaghejoolemlaaW9
import Derived.Laws.AppendOwnNone
import Derived.ProofKit
import Derived.OpenShut
import Derived.ShutString
import Derived.ChangeOld
import Derived.Below
import Derived.SliceStrings
namespace Go.Proofs.Ytbaghejoolemlaa.globOrders
open Go.ChangeShapes Go.WideShapes Go.ChangeAt Go.RowKit
open Go.ChangeMaps (open_string shut_string)
set_option linter.unusedVariables false

theorem own : ownKnob Try.prog.godebug = none := by kernel_rfl
theorem laidOut : laidOutB Try.prog = true := by kernel_rfl

theorem strs_of_row {w : World} {x : Addr} {len cap : Nat} {zs : List ByteArray} (hl : len ≤ cap) (hm : cap ≤ maxLen) (hz : zs.length = cap) (hc : ∀ i, i < zs.length → w.cell? (x.add i) = some (.string (zs.getD i ByteArray.empty))) (hw : ∀ s ∈ zs, s.size ≤ maxLen) :
    Strs w (some x) len (zs.take len) := by
  unfold maxLen at hm hw
  refine ⟨by rw [List.length_take]; omega, by omega, fun s hs => by have := hw s (List.mem_of_mem_take hs); omega, fun h0 => ?_⟩
  obtain ⟨b, off, s⟩ := x
  have hf := hc 0 (by omega)
  have hs : s = none := by simpa [Addr.add] using World.cell?_spot hf
  subst hs
  · refine ⟨b, off, rfl, World.block_lt_of_cell? w _ hf, fun i hi => ?_⟩
    have := hc i (by omega)
    rw [Addr.add_lit] at this
    rw [this, List.getD_eq_getElem?_getD, List.getD_eq_getElem?_getD, List.getElem?_take, if_pos hi]
theorem info9 : (Try.prog.info? 9).map (fun i => (i.zero, i.size, i.bytes)) = some (some (.string ⟨#[]⟩), 1, 16) := by kernel_rfl
/-- One append of a slice of texts that came in to a row of the call's own. -/
theorem app_strs {w w0 : World} {ops : Array Oper} {rest : List Oper} {o : Oper} {a : Act} {Q : Exit → Act → World → Prop} (hgd : o.guard = none) (s x : Operand)
    (ho : o.op = .call { callee := .builtin .append, args := #[s, x], argTypes := #[28, 28] })
    (v : Value) (n : Nat) (xs : List ByteArray) (hs : a.eval s = v) (hown : w0.ownsRow w.heap.size 9 1 v n (xs.map Value.string)) (hb : Below w.heap.size w w0)
    (A : Option Addr) (len cap : Nat) (z : List ByteArray) (hx : a.eval x = .slice A len cap) (hS : Strs w A len z) (hA : A = none → len = 0 ∧ cap = 0) (hn : n + len ≤ 1000)
    (h : ∀ v' w', w'.ownsRow w.heap.size 9 1 v' (n + len) ((xs ++ z).map Value.string) → Below w.heap.size w w' → wpList Try.prog ops Q rest (a.put o.dst v') w') : wpList Try.prog ops Q (o :: rest) a w0 := by
  obtain ⟨i0, hi0, hz0, hz1, hz2⟩ := info_parts info9
  cases A with
  | none =>
    obtain ⟨rfl, rfl⟩ := hA rfl
    obtain rfl : z = [] := List.eq_nil_of_length_eq_zero hS.1
    refine wpList_append_own_none hgd _ _ 28 ho w.heap.size 9 i0 1 Try.underlying28 hi0 v n _ hs hown hx ?_
    refine h v w0 ?_ hb
    simpa using hown
  | some ad =>
    refine wpList_append_own _ hgd _ _ 28 ho w.heap.size 9 i0 (.string ⟨#[]⟩) 1 16 Try.underlying28 hi0 hz0 hz1 hz2 rfl (by decide) v n _ hs hown ad len cap (z.map Value.string) hx (by rw [List.length_map, hS.1, Nat.mul_one]) ?_ ?_ (by unfold maxLen; omega) (by omega) hb.size ?_
    · intro j u hu
      rw [List.getElem?_map] at hu
      have hj : j < z.length := by
        rcases Nat.lt_or_ge j z.length with h | h
        · exact h
        · rw [List.getElem?_eq_none h] at hu; cases hu
      obtain ⟨b, off, e, hlt, hc⟩ := hS.2.2.2 (by rw [← hS.1]; omega)
      injection e with e
      subst e
      rw [Addr.add_lit, hb.cell (p := ⟨b, off + j, none⟩) hlt, hc j (by rw [← hS.1]; exact hj), ← hu, List.getD_eq_getElem?_getD, List.getElem?_eq_getElem hj]
      rfl
    · intro u hu
      obtain ⟨y, _, rfl⟩ := List.mem_map.1 hu
      rfl
    · intro v' w' hown' hg _
      refine h v' w' ?_ (hb.grown hg hb.size (fun k hk => (hown.lt k hk).1))
      rw [List.map_append]
      exact hown'
theorem strs_of_own {w : World} {base : Nat} {A : Option Addr} {n c : Nat} {ls : List ByteArray} (h : w.ownsRow base 9 1 (.slice A n c) n (ls.map Value.string)) (hn : n ≤ 9223372036854775807) (hz : ∀ x ∈ ls, x.size ≤ 9223372036854775807) : Strs w A n ls := by
  have hl : ls.length = n := by have := h.1; simpa using this
  rcases h.2 with ⟨e, rfl⟩ | ⟨g, cap, cur, e, _, hh, hnc, _, hsz, htake⟩
  · exact ⟨hl, hn, hz, by omega⟩
  · injection e with e1 e2 e3
    subst e1 e3
    refine ⟨hl, hn, hz, fun h0 => ⟨g, 0, rfl, lt_of_block hh, fun i hi => ?_⟩⟩
    rw [Nat.zero_add, h.cellAt i (by omega), List.getElem?_map]
    rw [List.getElem?_eq_getElem (by omega), List.getD_eq_getElem?_getD, List.getElem?_eq_getElem (by omega)]
    rfl
theorem fst_app (a b : List ByteArray) (s : List Int) : fst (a ++ b) s = if fst a s < 0 ∧ 0 ≤ fst b s then (a.length : Int) + fst b s else fst a s := by
  unfold fst
  rw [List.findIdx?_append]
  cases h1 : a.findIdx? (fun p => gm (bys p) s) with
  | some i =>
    show (i : Int) = _
    rw [if_neg (by show ¬ ((i : Int) < 0 ∧ _); omega)]
  | none =>
    cases h2 : b.findIdx? (fun p => gm (bys p) s) with
    | none => rw [if_neg (by show ¬ ((-1 : Int) < 0 ∧ (0 : Int) ≤ -1); omega)]; rfl
    | some j =>
      rw [if_pos (by show (-1 : Int) < 0 ∧ (0 : Int) ≤ (j : Int); omega)]
      show ((j + a.length : Nat) : Int) = (a.length : Int) + (j : Int)
      omega

set_option maxHeartbeats 1600000 in
theorem walk (a0 : Option Addr) (len0 cap0 : Nat) (z0 : List ByteArray) (a1 : Option Addr) (len1 cap1 : Nat) (z1 : List ByteArray) (a2 : ByteArray) (w : World) (w0 : Strs w a0 len0 z0) (v0 : len0 ≤ cap0 ∧ (a0 = none → len0 = 0 ∧ cap0 = 0)) (w1 : Strs w a1 len1 z1) (v1 : len1 ≤ cap1 ∧ (a1 = none → len1 = 0 ∧ cap1 = 0)) (w2 : a2.size ≤ maxLen) :
    Calls Try.prog 9 #[.slice a0 len0 cap0, .slice a1 len1 cap1, .string a2] w fun e w' => e = .returned (.bool true) ∧ Below w.heap.size w w' := by
  have hs : a2.size ≤ 9223372036854775807 := by unfold maxLen at w2; omega
  have hl0 := w0.2.1
  have hl1 := w1.2.1
  have H0 := Lib.hid w0
  have H1 := Lib.hid w1
  have V0 := Lib.hid v0.2
  have V1 := Lib.hid v1.2
  clear w0 w1 v0 v1
  by_cases h0 : 20 < len0
  · have g0 : decide ((20 : Int) < (len0 : Int)) = true := by simp; omega
    go_enter Try.func9, Try.ntmps9
    go_wp2
    go_ret
    exact ⟨rfl, Below.refl _ _⟩
  have g0 : decide ((20 : Int) < (len0 : Int)) = false := by simp; omega
  by_cases h1 : 20 < len1
  · have g1 : decide ((20 : Int) < (len1 : Int)) = true := by simp; omega
    go_enter Try.func9, Try.ntmps9
    go_wp2
    go_ret
    exact ⟨rfl, Below.refl _ _⟩
  have g1 : decide ((20 : Int) < (len1 : Int)) = false := by simp; omega
  by_cases h2 : 200 < a2.size
  · have g2 : decide ((200 : Int) < (a2.size : Int)) = true := by simp; omega
    go_enter Try.func9, Try.ntmps9
    go_wp2
    go_ret
    exact ⟨rfl, Below.refl _ _⟩
  have g2 : decide ((200 : Int) < (a2.size : Int)) = false := by simp; omega
  have HO0 := Lib.hid (World.ownsRow_lit (base := w.heap.size) (e := 9) (size := 1) w #[] 0 (Nat.le_refl _) (by decide) rfl)
  have HB0 := Lib.hid ((Below.refl w.heap.size w).alloc (Nat.le_refl _) (.cells #[] 9))
  go_enter Try.func9, Try.ntmps9
  go_wp2_with (first
    | (at_builtin; refine app_strs (w := w) rfl (.tmp 25) (.tmp 26) rfl _ 0 [] rfl HO0.out HB0.out a0 len0 cap0 z0 rfl H0.out V0.out (by omega) ?_; intro v3 w3 hown3 hb3; simp only [Nat.zero_add, List.nil_append] at hown3; obtain ⟨A3, C3, rfl⟩ := own_shape hown3; have HO3 := Lib.hid hown3; have HB3 := Lib.hid hb3; clear hown3 hb3)
    | (at_builtin; refine app_strs (w := w) rfl (.tmp 27) (.tmp 28) rfl _ len0 z0 rfl HO3.out HB3.out a1 len1 cap1 z1 rfl H1.out V1.out (by omega) ?_; intro v4 w4 hown4 hb4; obtain ⟨A4, C4, rfl⟩ := own_shape hown4; have HO4 := Lib.hid hown4; have HB4 := Lib.hid hb4; clear hown4 hb4))
  have HS := Lib.hid (strs_of_own HO4.out (by omega) (fun x hx => by rcases List.mem_append.1 hx with h | h; exact H0.out.2.2.1 x h; exact H1.out.2.2.1 x h))
  go_loop [8] (fun i => ∃ k : Nat, k ≤ len0 + len1 ∧ i = .int .i64 k) (fun i => len0 + len1 - (intOf i).toNat)
  case atStart => exact ⟨0, Nat.zero_le _, rfl⟩
  case round =>
    obtain ⟨k, hk, rfl⟩ := hrel
    by_cases hlt : k < len0 + len1
    · obtain ⟨b, off, rfl, t, ht, hts, hbl, hcell⟩ := HS.out.str hlt
      clear ht
      by_cases h5 : 100 < t.size
      · have g5 : decide ((100 : Int) < (t.size : Int)) = true := by simp; omega
        go_wp2
        go_ret
        exact ⟨rfl, HB4.out⟩
      · have g5 : decide ((100 : Int) < (t.size : Int)) = false := by simp; omega
        go_wp2
        go_round
        case rel => exact ⟨k + 1, by omega, by go_num⟩
        case measure => simp [intOf]; omega
    · have c1 := fun w h => first_any a0 len0 cap0 z0 a2 (by omega) w h
      have c2 := fun w h => first_any a1 len1 cap1 z1 a2 (by omega) w h
      have c3 := fun w h => first_any A4 (len0 + len1) C4 (z0 ++ z1) a2 (by omega) w h
      have c4 := fun w h => any_any A4 (len0 + len1) C4 (z0 ++ z1) a2 (by omega) w h
      have hap := fst_app z0 z1 (bys a2)
      have hb0 := fst_bd z0 (bys a2)
      have hb1 := fst_bd z1 (bys a2)
      rw [H0.out.1] at hap hb0
      rw [H1.out.1] at hb1
      generalize fst (z0 ++ z1) (bys a2) = z at *
      generalize fst z0 (bys a2) = x at *
      generalize fst z1 (bys a2) = y at *
      by_cases hx : 0 ≤ x
      · rw [if_neg (by omega)] at hap
        subst hap
        rw [decide_eq_true hx] at c4
        have C1 := Lib.hid c1
        have C2 := Lib.hid c2
        have C3 := Lib.hid c3
        have C4' := Lib.hid c4
        clear c1 c2 c3 c4 hb0
        go_wp2_with (first
          | (go_at_call 16; refine (live_any _).mono ?_; rintro e wl ⟨rfl, hbl⟩)
          | (go_at_call 19; (with_reducible refine (C1.out _ (H0.out.below HB4.out)).mono ?_); rintro e w5 ⟨rfl, hb5⟩; have B5 := Lib.hid (HB4.out.trans (hb5.mono HB4.out.size)); have HS5 := Lib.hid (HS.out.below hb5))
          | (go_at_call 19; (with_reducible refine (C2.out _ (H1.out.below B5.out)).mono ?_); rintro e w6 ⟨rfl, hb6⟩; have B6 := Lib.hid (B5.out.trans (hb6.mono B5.out.size)); have HS6 := Lib.hid (HS5.out.below hb6))
          | (go_at_call 19; (with_reducible refine (C3.out _ HS6.out).mono ?_); rintro e w7 ⟨rfl, hb7⟩; have B7 := Lib.hid (B6.out.trans (hb7.mono B6.out.size)); have HS7 := Lib.hid (HS6.out.below hb7))
          | (go_at_call 21; (with_reducible refine (C4'.out _ HS7.out).mono ?_); rintro e w8 ⟨rfl, hb8⟩; have B8 := Lib.hid (B7.out.trans (hb8.mono B7.out.size))))
        go_ret
        exact ⟨rfl, B8.out.trans (hbl.mono B8.out.size)⟩
      · by_cases hy : 0 ≤ y
        · rw [if_pos (by omega)] at hap
          subst hap
          rw [decide_eq_true (by omega)] at c4
          have hx2 : x < 0 := by omega
          have C1 := Lib.hid c1
          have C2 := Lib.hid c2
          have C3 := Lib.hid c3
          have C4' := Lib.hid c4
          clear c1 c2 c3 c4 hb0
          go_wp2_with (first
            | (go_at_call 16; refine (live_any _).mono ?_; rintro e wl ⟨rfl, hbl⟩)
            | (go_at_call 19; (with_reducible refine (C1.out _ (H0.out.below HB4.out)).mono ?_); rintro e w5 ⟨rfl, hb5⟩; have B5 := Lib.hid (HB4.out.trans (hb5.mono HB4.out.size)); have HS5 := Lib.hid (HS.out.below hb5))
            | (go_at_call 19; (with_reducible refine (C2.out _ (H1.out.below B5.out)).mono ?_); rintro e w6 ⟨rfl, hb6⟩; have B6 := Lib.hid (B5.out.trans (hb6.mono B5.out.size)); have HS6 := Lib.hid (HS5.out.below hb6))
            | (go_at_call 19; (with_reducible refine (C3.out _ HS6.out).mono ?_); rintro e w7 ⟨rfl, hb7⟩; have B7 := Lib.hid (B6.out.trans (hb7.mono B6.out.size)); have HS7 := Lib.hid (HS6.out.below hb7))
            | (go_at_call 21; (with_reducible refine (C4'.out _ HS7.out).mono ?_); rintro e w8 ⟨rfl, hb8⟩; have B8 := Lib.hid (B7.out.trans (hb8.mono B7.out.size))))
          go_ret
          exact ⟨rfl, B8.out.trans (hbl.mono B8.out.size)⟩
        · obtain rfl : x = -1 := by omega
          rw [if_neg (by omega)] at hap
          subst hap
          rw [decide_eq_false (by omega)] at c4
          have hy2 : y < 0 := by omega
          have hy3 : decide (0 ≤ y) = false := decide_eq_false hy
          have hm1 : ((-1 : Int) == -1) = true := rfl
          have hm2 : decide ((0 : Int) ≤ -1) = false := rfl
          have C1 := Lib.hid c1
          have C2 := Lib.hid c2
          have C3 := Lib.hid c3
          have C4' := Lib.hid c4
          clear c1 c2 c3 c4 hb0
          go_wp2_with (first
            | (go_at_call 16; refine (live_any _).mono ?_; rintro e wl ⟨rfl, hbl⟩)
            | (go_at_call 19; (with_reducible refine (C1.out _ (H0.out.below HB4.out)).mono ?_); rintro e w5 ⟨rfl, hb5⟩; have B5 := Lib.hid (HB4.out.trans (hb5.mono HB4.out.size)); have HS5 := Lib.hid (HS.out.below hb5))
            | (go_at_call 19; (with_reducible refine (C2.out _ (H1.out.below B5.out)).mono ?_); rintro e w6 ⟨rfl, hb6⟩; have B6 := Lib.hid (B5.out.trans (hb6.mono B5.out.size)); have HS6 := Lib.hid (HS5.out.below hb6))
            | (go_at_call 19; (with_reducible refine (C3.out _ HS6.out).mono ?_); rintro e w7 ⟨rfl, hb7⟩; have B7 := Lib.hid (B6.out.trans (hb7.mono B6.out.size)); have HS7 := Lib.hid (HS6.out.below hb7))
            | (go_at_call 21; (with_reducible refine (C4'.out _ HS7.out).mono ?_); rintro e w8 ⟨rfl, hb8⟩; have B8 := Lib.hid (B7.out.trans (hb8.mono B7.out.size))))
          go_ret
          exact ⟨rfl, B8.out.trans (hbl.mono B8.out.size)⟩

set_option maxRecDepth 100000 in
theorem lifted (os : Os) (started : os.Started) (H : Type) (enc : TypeId × Value → H) :
    ReturnsInHanded {} Try.checked os 9 .any (Rows.globOrdersSpec.pre6 enc Try.prog Try.f9 Rows.globOrdersRow.domain false) (Rows.globOrdersSpec.post enc Try.prog Try.f9 false true false false) := by
  refine returnsInHanded_of_change (C := Try.checked) own started (by kernel_rfl) Try.func9
    (ChangeSpec.witness6 (enc := enc) (C := Try.checked) false ⟨#[], #[.slice none 0 0, .slice none 0 0, .string ByteArray.empty], []⟩ 8 (by kernel_rfl) (by kernel_rfl) (by kernel_rfl) (by kernel_rfl)) ?_
  intro W base args ds gs before hval0 hW hcnd _
  have hval : ∀ (j : Nat) t v, Try.f9.params[j]? = some t → args[j]? = some v → Value.okWide Try.prog W .any base t v := hval0
  have hW' := hW
  obtain ⟨p, q, hA0, hV, rfl, hfz, hnd⟩ := hW
  have hA : DataW.TrodAll enc Try.prog W 0 (fun _ => true) true Try.f9.params.toList args.toList ds p := hA0
  rw [Try.params9] at hA hval
  obtain ⟨v0, vs0, d0, ds0, p0, q0, hargs, rfl, rfl, h0, r0⟩ := trodAll_cons hA
  obtain ⟨v1, vs1, d1, ds1, p1, q1, rfl, rfl, rfl, h1, r1⟩ := trodAll_cons r0
  obtain ⟨v2, vs2, d2, ds2, p2, q2, rfl, rfl, rfl, h2, r2⟩ := trodAll_cons r1
  obtain ⟨rfl, rfl, rfl⟩ := trodAll_nil r2
  obtain rfl : args = #[v0, v1, v2] := by cases args; simp_all
  obtain ⟨rfl, rfl⟩ := trodVars_none hV
  obtain ⟨a0, len0, cap0, rfl⟩ := okWide_slice Try.underlying28 (hval 0 28 v0 rfl rfl)
  have k0 := h0
  have lt0 : ∀ x ∈ p0, x.block < W.heap.size := by obtain ⟨m, hm⟩ := k0; exact DataW.trod_lt m _ _ _ hm
  obtain ⟨z0, w0, v0⟩ : ∃ zs, Strs W a0 len0 zs ∧ len0 ≤ cap0 ∧ (a0 = none → len0 = 0 ∧ cap0 = 0) := by
    obtain ⟨fuel, hf⟩ := h0
    rcases open_strings Try.underlying28 Try.underlying9 (by kernel_rfl) hf with ⟨hcs, _⟩ | ⟨x, l, c, zs, hcs, _, hl, hm, hz, _, hcell, hwz⟩
    · simp [Value.cells] at hcs
      obtain ⟨rfl, rfl, rfl⟩ := hcs
      exact ⟨[], ⟨rfl, by omega, by simp, by omega⟩, Nat.le_refl _, fun _ => ⟨rfl, rfl⟩⟩
    · simp [Value.cells] at hcs
      obtain ⟨rfl, rfl, rfl⟩ := hcs
      exact ⟨zs.take len0, strs_of_row hl hm (by simpa using hz) hcell hwz, hl, fun h => by cases h⟩
  obtain ⟨a1, len1, cap1, rfl⟩ := okWide_slice Try.underlying28 (hval 1 28 v1 rfl rfl)
  have k1 := h1
  have lt1 : ∀ x ∈ p1, x.block < W.heap.size := by obtain ⟨m, hm⟩ := k1; exact DataW.trod_lt m _ _ _ hm
  obtain ⟨z1, w1, v1⟩ : ∃ zs, Strs W a1 len1 zs ∧ len1 ≤ cap1 ∧ (a1 = none → len1 = 0 ∧ cap1 = 0) := by
    obtain ⟨fuel, hf⟩ := h1
    rcases open_strings Try.underlying28 Try.underlying9 (by kernel_rfl) hf with ⟨hcs, _⟩ | ⟨x, l, c, zs, hcs, _, hl, hm, hz, _, hcell, hwz⟩
    · simp [Value.cells] at hcs
      obtain ⟨rfl, rfl, rfl⟩ := hcs
      exact ⟨[], ⟨rfl, by omega, by simp, by omega⟩, Nat.le_refl _, fun _ => ⟨rfl, rfl⟩⟩
    · simp [Value.cells] at hcs
      obtain ⟨rfl, rfl, rfl⟩ := hcs
      exact ⟨zs.take len1, strs_of_row hl hm (by simpa using hz) hcell hwz, hl, fun h => by cases h⟩
  obtain ⟨a2, rfl, rfl, rfl, w2⟩ := open_string Try.underlying9 (hval 2 9 v2 rfl rfl) h2
  clear hA0 hval0
  refine (walk a0 len0 cap0 z0 a1 len1 cap1 z1 a2 W w0 v0 w1 v1 w2).mono fun e W' ⟨he, bel⟩ => ?_
  subst he
  exact ⟨_, rfl, _, _, _, [], _, [], hW', trodAll_mk1 (shut_bool Try.underlying4 _), (trodAll_cons_mk (Below.trod laidOut (by kernel_rfl) (of_decide_eq_true (by kernel_rfl)) k0 bel lt0) (trodAll_cons_mk (Below.trod laidOut (by kernel_rfl) (of_decide_eq_true (by kernel_rfl)) k1 bel lt1) (trodAll_cons_mk (shut_string Try.underlying9 w2) trodAll_mk0))), rfl, bel.frame _, fun h => by cases h⟩

theorem over : Rows.globOrdersRow.holds Try.pinned (OpenSpec.ofChange Rows.globOrdersSpec) :=
  OpenClaim.holds_of_wide 9 Try.f9 rfl rfl rfl rfl rfl rfl rfl ⟨rfl, rfl, rfl, rfl, rfl⟩ rfl rfl rfl rfl rfl (by kernel_rfl) Try.func9 (by kernel_rfl)
    (of_decide_eq_true (by kernel_rfl)) (by unfold Func.isWrapper; first | (rw [if_pos (by decide +kernel)]; kernel_rfl) | (rw [if_neg (by decide +kernel)]; exact ⟨rfl, rfl⟩))
    (fun os started H enc _ => lifted os started H enc)

theorem proved : Rows.GlobOrdersSaid := over
#print axioms proved
end Go.Proofs.Ytbaghejoolemlaa.globOrders
