/- AccessFirst: its walk. -/
import Derived.Test.YtokofmolbdpklaaAR
import Derived.Test.YtokofmolbdpklaaK2
import Derived.Test.YtokofmolbdpklaaO3
import Derived.Deep.Cut
import Derived.Deep.CutRange
import Derived.Deep.RegionHeld3
namespace Go.Proofs.Ytokofmolbdpklaa
open Go.RowKit
set_option linter.unusedVariables false
set_option linter.unusedSimpArgs false

theorem info39 : (Try.prog.info? 39).map (fun i => (i.zero, i.size, i.bytes)) = some (some (.agg #[.int .i64 0, .string ⟨#[]⟩, .string ⟨#[]⟩, .int .i64 0, .bool false, .string ⟨#[]⟩, .int .i64 0, .int .i64 0, .slice none 0 0, .slice none 0 0, .string ⟨#[]⟩, .int .i64 0, .int .i64 0, .bool false, .string ⟨#[]⟩, .slice none 0 0, .slice none 0 0, .slice none 0 0, .slice none 0 0, .int .i64 0, .int .i64 0, .int .i64 0, .int .i64 0, .int .i64 0, .int .i64 0, .int .i64 0, .int .i64 0, .string ⟨#[]⟩, .int .i64 0]), 29, 376) := by kernel_rfl
/-- The list with one more event. -/
def addE (n : Nat) (E : Nat → Evd) (m : Evd) (j : Nat) : Evd := if j < n then E j else m
theorem addE_lt {n : Nat} {E : Nat → Evd} {m : Evd} {j : Nat} (h : j < n) : addE n E m j = E j := if_pos h
theorem addE_eq (n : Nat) (E : Nat → Evd) (m : Evd) : addE n E m n = m := if_neg (Nat.lt_irrefl _)
theorem fk_succ (n : Nat) (kd : Nat → Int) : fk (n + 1) kd = (fk n kd).or (if kd n == 6 then some n else none) := by
  unfold fk
  rw [List.range_succ, List.find?_append]
  congr 1
  rw [List.find?_cons]
  cases kd n == 6 <;> rfl
theorem fk_congr {n : Nat} {kd kd' : Nat → Int} (h : ∀ j, j < n → kd' j = kd j) : fk n kd' = fk n kd := by
  induction n with
  | zero => rfl
  | succ n ih => rw [fk_succ, fk_succ, ih (fun j hj => h j (by omega)), h n (by omega)]
theorem fk_lt {n k : Nat} {kd : Nat → Int} (h : fk n kd = some k) : k < n := by
  unfold fk at h
  have := List.mem_of_find?_eq_some h
  simpa using this
def hasK (n : Nat) (kd : Nat → Int) : Bool := (fk n kd).isSome
theorem hasK_succ (n : Nat) (kd : Nat → Int) : hasK (n + 1) kd = (hasK n kd || (kd n == 6)) := by
  unfold hasK
  rw [fk_succ]
  cases fk n kd <;> cases kd n == 6 <;> rfl
theorem may_has (n : Nat) (E : Nat → Evd) (m : Evd) (sv : ByteArray) (h : hasK n (fun j => (E j).e3) = true) :
    mayI (n + 1) (fun j => (addE n E m j).e3) (fun j => (addE n E m j).C) sv = mayI n (fun j => (E j).e3) (fun j => (E j).C) sv := by
  unfold hasK at h
  unfold mayI
  rw [fk_succ, fk_congr (kd := fun j => (E j).e3) (fun j hj => by show (addE n E m j).e3 = _; rw [addE_lt hj])]
  cases hf : fk n (fun j => (E j).e3) with
  | none => rw [hf] at h; cases h
  | some k =>
    have hk := fk_lt hf
    show (if allow (addE n E m k).C sv then (0 : Int) else 22) = _
    rw [addE_lt hk]
theorem may_none (n : Nat) (E : Nat → Evd) (sv : ByteArray) (h : hasK n (fun j => (E j).e3) = false) : mayI n (fun j => (E j).e3) (fun j => (E j).C) sv = 0 := by
  unfold hasK at h
  unfold mayI
  cases hf : fk n (fun j => (E j).e3) with
  | none => rfl
  | some k => rw [hf] at h; cases h
theorem may_new (n : Nat) (E : Nat → Evd) (m : Evd) (sv : ByteArray) (h : hasK n (fun j => (E j).e3) = false) :
    mayI (n + 1) (fun j => (addE n E m j).e3) (fun j => (addE n E m j).C) sv = if (m.e3 == 6) = true then (if allow m.C sv = true then 0 else 22) else 0 := by
  unfold hasK at h
  unfold mayI
  rw [fk_succ, fk_congr (kd := fun j => (E j).e3) (fun j hj => by show (addE n E m j).e3 = _; rw [addE_lt hj])]
  cases hf : fk n (fun j => (E j).e3) with
  | none =>
    simp only [addE_eq, Option.none_or]
    cases hz : m.e3 == 6
    · rfl
    · simp only [if_true, addE_eq]
  | some k => rw [hf] at h; cases h
theorem cellsE_one (e : Evd) : ∀ u ∈ cellsE e, u.oneCell' = true := by
  intro u hu
  simp only [evc, List.mem_cons, List.not_mem_nil, or_false] at hu
  rcases hu with rfl | rfl | rfl | rfl | rfl | rfl | rfl | rfl | rfl | rfl | rfl | rfl | rfl | rfl | rfl | rfl | rfl | rfl | rfl | rfl | rfl | rfl | rfl | rfl | rfl | rfl | rfl | rfl | rfl <;> rfl
theorem Evx.rws {w : World} {A : Option Addr} {n c : Nat} {E : Nat → Evd} (h : Evx w A n E) (hn : A = none → n = 0 ∧ c = 0) : Rws w A n c 29 (fun j => cellsE (E j)) := by
  refine ⟨fun j _ => rfl, fun j _ => cellsE_one _, h.big, hn, ?_⟩
  rcases Nat.eq_zero_or_pos n with h0 | h0
  · exact .inl h0
  · obtain ⟨b, off, e, hlt, hc⟩ := h.at_ h0
    exact .inr ⟨b, off, e, hlt, fun j hj i v hv => hc j hj i v hv⟩
theorem src_row {w : World} {g : Nat} {cs : List Value} {T : TypeId} (h : Blk w g cs T) (k : Nat) (hl : cs.length = 1 * k) (h1 : ∀ u ∈ cs, u.oneCell' = true) : Src w (some ⟨g, 0, none⟩) 1 1 k cs :=
  ⟨hl, (fun e => by cases e), .inr ⟨g, 0, rfl, h.lt, fun j u hu => by rw [Nat.zero_add]; exact h.cell hu⟩, h1⟩
theorem ev_snoc {w4 : World} {B : Nat} {n : Nat} {v : Value} {E : Nat → Evd} {m : Evd} (hn : n ≤ 1000000) (hw : ∀ j, j < n → Wfe (E j)) (hwm : Wfe m) (hc : ∀ j, j < n → IsCt w4 (E j).C (E j).a) (hcm : IsCt w4 m.C m.a)
    (h : w4.ownsRow B 39 29 v (0 + n + 1) ([] ++ flat n (fun j => cellsE (E j)) ++ cellsE m)) : ∃ A c, v = .slice A (n + 1) c ∧ Evx w4 A (n + 1) (addE n E m) := by
  rw [Nat.zero_add, List.nil_append] at h
  have e : flat n (fun j => cellsE (E j)) ++ cellsE m = flat (n + 1) (fun j => cellsE (addE n E m j)) := by
    rw [flat_succ, flat_congr (n := n) (L := fun j => cellsE (E j)) (M := fun j => cellsE (addE n E m j)) (fun j hj => by show cellsE (addE n E m j) = _; rw [addE_lt hj]), addE_eq]
  rw [e] at h
  obtain ⟨A, c, rfl⟩ := own_slice h
  have hr := own_rows h (fun j _ => rfl) (fun j _ => cellsE_one _) (by unfold maxLen; omega)
  refine ⟨A, c, rfl, by omega, fun h0 => ?_, fun j hj => ?_, fun j hj => ?_⟩
  · rcases hr.at_ with h1 | ⟨b, off, e1, hlt, hx⟩
    · omega
    · exact ⟨b, off, e1, hlt, fun j hj i v hv => hx j hj i v hv⟩
  · by_cases hj' : j < n
    · rw [addE_lt hj']; exact hc j hj'
    · rw [show j = n by omega, addE_eq]; exact hcm
  · by_cases hj' : j < n
    · rw [addE_lt hj']; exact hw j hj'
    · rw [show j = n by omega, addE_eq]; exact hwm
/-- What region 13 leaves. -/
def Longer (u : World) (n : Nat) (E : Nat → Evd) (s : Value) (w : World) : Prop := ∃ A c, s = .slice A (n + 1) c ∧ Evx w A (n + 1) E ∧ Below u.heap.size u w
theorem of14_h (A : Option Addr) (n c : Nat) (kd : Nat → Int) (C : Nat → Ct) (ad : Nat → Ads) (w w1 : World) (h : Evl w A n kd C ad) (hm : ∀ j, j < n → Sm (C j)) (hb : Below w.heap.size w w1) :
    Calls Try.prog 14 #[.slice A n c] w1 fun e w' => OfU (ctk n kd C) (hasK n kd) e w' ∧ Below w1.heap.size w1 w' := of14_u A n c kd C ad w w1 h hm hb
theorem midE {w : World} {b : Nat} {m : Evd} (h : Blk w b (cellsE m) 39) : World.rangeAt w b 10 (cells m.C m.a) := h.mid 10 16
set_option maxRecDepth 100000 in
set_option maxHeartbeats 8000000 in
theorem first_walk (A : Option Addr) (n c : Nat) (E : Nat → Evd) (m : Evd) (sv : ByteArray) (hsv : sv.size ≤ 9223372036854775807) (w : World) (h : Evx w A n E) (hnil : A = none → n = 0 ∧ c = 0) (hcm : IsCt w m.C m.a) (hwm : Wfe m) :
    Calls Try.prog 6 #[.slice A n c, .agg (cellsE m).toArray, .string sv] w fun e w' => e = .returned (.bool true) ∧ Below w.heap.size w w' := by
  have hbig := h.big
  have X1 := Lib.hid (blk_new w (cellsE m) 39)
  have BX := Lib.hid ((Below.refl _ w).alloc (Nat.le_refl _) (.cells (cellsE m).toArray 39))
  have H := Lib.hid h
  have HC := Lib.hid hcm
  have HWm := Lib.hid hwm
  have HN := Lib.hid hnil
  have HV := Lib.hid hsv
  have AW := Lib.hid (fun u => awake8 u)
  have G13 := Lib.hid (fun u (hb : Below w.heap.size w u) => great13 A n c 20 E u (h.below hb))
  have L19 := Lib.hid (fun u (hb : Below w.heap.size w u) => long19e m u (hcm.below hb) hwm)
  have G7 := Lib.hid (fun u (hb : Below w.heap.size w u) => great7b m.C m.a sv hsv u (hcm.below hb))
  have HG := Lib.hid (fun h => great_bound (nA := m.C.nA) (nD := m.C.nD) (al := m.C.al) (dn := m.C.dn) (sv := sv) h)
  clear h hcm hwm hnil hsv
  generalize great m.C.nA m.C.nD m.C.al m.C.dn sv = gq at G7 HG
  go_enter Try.func6, Try.ntmps6
  go_upto_region 1 with (fail)
  generalize hbe : w.heap.size = be at X1 ⊢
  generalize hw1 : (w.alloc _) = u1 at X1 BX ⊢
  have Hbe := Lib.hid hbe
  clear hbe hw1
  cases gq
  all_goals
    go_upto_region 3 with (first
      | (go_at_call 13; (with_reducible refine (G13.out _ BX.out).mono ?_); rintro e w2 ⟨⟨q, rfl, hq⟩, hb2⟩; have X2 := Lib.hid (X1.out.below hb2); have HQ := Lib.hid hq; have BX := Lib.hid (BX.out.trans (hb2.mono BX.out.size)); clear hb2 hq; cases q)
      | (refine load_mid_g (by rfl) 39 _ rfl be 0 rfl (cellsE m) _ X2.out.range Try.underlying39 rfl size39 ?_)
      | (go_at_call 19; (with_reducible refine (L19.out _ BX.out).mono ?_); rintro e w3 ⟨⟨q3, rfl, hq3⟩, hb3⟩; have X3 := Lib.hid (X2.out.below hb3); have R3 := Lib.hid (midE X3.out); have HQ3 := Lib.hid hq3; have BX := Lib.hid (BX.out.trans (hb3.mono BX.out.size)); clear hb3 hq3; cases q3)
      | (refine load_mid_g (by rfl) 28 _ rfl be 10 rfl (cells m.C m.a) _ R3.out Try.underlying28 rfl size28c ?_)
      | (go_at_call 7; (with_reducible refine (G7.out _ BX.out).mono ?_); rintro e w4 ⟨rfl, hb4⟩; have X4 := Lib.hid (X3.out.below hb4); have BX := Lib.hid (BX.out.trans (hb4.mono BX.out.size)); clear hb4)
      | (go_at_call 8; (with_reducible refine (AW.out _).mono ?_); rintro e w5 ⟨rfl, hb5⟩; have BX := Lib.hid (BX.out.trans (hb5.mono BX.out.size)); clear hb5))
  all_goals first
    | (go_ret; exact ⟨rfl, BX.out⟩)
    | skip
  obtain ⟨hn20, hU⟩ := HQ.out trivial
  have HU := Lib.hid hU
  have HL := Lib.hid (HQ3.out trivial)
  have HB := Lib.hid (HG.out trivial)
  clear hU HQ HQ3 HG G13 L19 G7 X1 X2 X3 R3
  have hs : sv.size ≤ 4611686018427387903 := by have := HB.out.2.2; omega
  have HSv := Lib.hid hs
  clear hs
  generalize hu3 : w4 = u3 at X4 BX ⊢
  clear hu3
  have HSz := Lib.hid BX.out.size
  go_wp2
  go_loopg [7, 8] n (fun gg s7 s8 wr => ∃ kk : Nat, kk ≤ n ∧ n - kk ≤ gg ∧ s8 = .int .i64 kk ∧ s7 = .bool (hasK kk (fun j => (E j).e3)) ∧ Hid (∀ j, j < kk → (E j).C.nA ≤ 20 ∧ (E j).C.nD ≤ 20) ∧ Hid (Below u3.heap.size u3 wr))
  case atStart => exact ⟨0, Nat.zero_le _, by omega, rfl, rfl, Lib.hid (fun j hj => absurd hj (Nat.not_lt_zero _)), Lib.hid (Below.refl _ _)⟩
  case round =>
    obtain ⟨kk, hkk, hg, rfl, rfl, HO, BW⟩ := hrel
    have BT := Lib.hid (BX.out.trans (BW.out.mono HSz.out))
    by_cases hlt : kk < n
    · have hltz : (kk : Int) < (n : Int) := by omega
      obtain ⟨b, off, eA, _, R⟩ := (H.out.below BT.out).evl.get hlt
      have HG := Lib.hid (great7b (E kk).C (E kk).a sv HV.out wr ((H.out.below BT.out).ct kk hlt))
      have HNb := Lib.hid (fun h => great_bound (nA := (E kk).C.nA) (nD := (E kk).C.nD) (al := (E kk).C.al) (dn := (E kk).C.dn) (sv := sv) h)
      have HS := Lib.hid (hasK_succ kk (fun j => (E j).e3))
      have KC := Lib.hid (fun u (hb : Below w.heap.size w u) => (H.out.below hb).evl.get hlt)
      subst eA
      generalize great (E kk).C.nA (E kk).C.nD (E kk).C.al (E kk).C.dn sv = g at HG HNb
      generalize hasK kk (fun j => (E j).e3) = f at HS ⊢
      cases g
      · cases hz : ((E kk).e3 == 6)
        all_goals
          have HZ := Lib.hid hz
          cases f
          all_goals
            go_wp2_with (first
              | (refine load_mid_g (by rfl) 28 _ rfl b (off + kk * 29 + 10) rfl (cells (E kk).C (E kk).a) _ R.out Try.underlying28 rfl size28c ?_)
              | (go_at_call 7; (with_reducible refine HG.out.mono ?_); rintro e w3 ⟨rfl, hb3⟩; have B3 := Lib.hid (BT.out.trans (hb3.mono BT.out.size)); obtain ⟨b', off', e', kc, _⟩ := KC.out _ B3.out; simp only [Option.some.injEq, Addr.mk.injEq, and_true] at e'; obtain ⟨rfl, rfl⟩ := e'))
            go_roundg (n - (kk + 1))
            case measure => omega
            case rel =>
              refine ⟨kk + 1, by omega, by omega, by go_num, (by rw [HS.out]; simp only [HZ.out]; rfl), Lib.hid (fun j hj => ?_), Lib.hid (BW.out.trans (hb3.mono BW.out.size))⟩
              by_cases e : j = kk
              · subst e; exact ⟨(HNb.out trivial).1, (HNb.out trivial).2.1⟩
              · exact HO.out j (by omega)
      · go_wp2_with (first
          | (refine load_mid_g (by rfl) 28 _ rfl b (off + kk * 29 + 10) rfl (cells (E kk).C (E kk).a) _ R.out Try.underlying28 rfl size28c ?_)
          | (go_at_call 7; (with_reducible refine HG.out.mono ?_); rintro e w3 ⟨rfl, hb3⟩)
          | (go_at_call 8; (with_reducible refine (AW.out _).mono ?_); rintro e u4 ⟨rfl, hb5⟩))
        go_ret
        exact ⟨rfl, BX.out.trans ((BW.out.trans ((hb3.trans (hb5.mono hb3.size)).mono BW.out.size)).mono HSz.out)⟩
    · have hltz : ¬ (kk : Int) < (n : Int) := by omega
      obtain rfl : kk = n := by omega
      have HM : Hid (∀ j, j < kk → Sm (E j).C) := Lib.hid (fun j hj => ⟨by have := (HO.out j hj).1; omega, by have := (HO.out j hj).2; omega, by have := (HU.out j hj).1; omega, by have := (HU.out j hj).2; omega⟩)
      have HMm : Hid (∀ j, j < kk + 1 → Sm (addE kk E m j).C) := Lib.hid (fun j hj => by
        by_cases hj' : j < kk
        · rw [addE_lt hj']; exact HM.out j hj'
        · rw [show j = kk by omega, addE_eq]; exact ⟨by have := HB.out.1; omega, by have := HB.out.2.1; omega, by have := HL.out.1; omega, by have := HL.out.2; omega⟩)
      have O14 := Lib.hid (fun u (hb : Below w.heap.size w u) => of14_h A kk c (fun j => (E j).e3) (fun j => (E j).C) (fun j => (E j).a) w u H.out.evl HM.out hb)
      have M17 := Lib.hid (fun u (hb : Below w.heap.size w u) => may17g A kk c (fun j => (E j).e3) (fun j => (E j).C) (fun j => (E j).a) sv (fun _ => HSv.out) w u H.out.evl HM.out hb)
      have HR1 := Lib.hid (may_none kk E sv)
      have HR2 := Lib.hid (may_has kk E m sv)
      have HR3 := Lib.hid (may_new kk E m sv)
      have XW := Lib.hid (X4.out.below BW.out)
      have M17b := Lib.hid (fun (A' : Option Addr) (c' : Nat) (u0 : World) (he : Evx u0 A' (kk + 1) (addE kk E m)) (u : World) (hb : Below u0.heap.size u0 u) => may17g A' (kk + 1) c' (fun j => (addE kk E m j).e3) (fun j => (addE kk E m j).C) (fun j => (addE kk E m j).a) sv (fun _ => HSv.out) u0 u he.evl HMm.out hb)
      generalize mayI (kk + 1) (fun j => (addE kk E m j).e3) (fun j => (addE kk E m j).C) sv = r2 at M17b HR2 HR3
      generalize mayI kk (fun j => (E j).e3) (fun j => (E j).C) sv = r at M17 HR1 HR2
      generalize hasK kk (fun j => (E j).e3) = f at O14 HR1 HR2 HR3 ⊢
      generalize ctk kk (fun j => (E j).e3) (fun j => (E j).C) = Ck at O14
      clear HM HMm HU HL HB HO BX BW HSz X4 hltz hlt
      cases f
      · obtain rfl := HR1.out rfl
        have HRn := Lib.hid (HR3.out rfl)
        clear HR1 HR2 HR3
        go_upto_region 13 with (first
          | (go_at_call 14; (with_reducible refine (O14.out _ BT.out).mono ?_); rintro e w1 ⟨⟨a1, rfl, hc1⟩, hb1⟩; have X1 := Lib.hid (XW.out.below hb1); have B1 := Lib.hid (BT.out.trans (hb1.mono BT.out.size)); clear hc1 hb1)
          | (refine store_mid_as rfl 28 _ _ rfl w1.heap.size 0 (cells Ck a1).toArray rfl rfl (Blk.there (n := 16) (blk_new w1 c16 28) (by decide)) size28c (ctc_one _ _) ?_; intro w5 qw5; have X5 : Hid (Blk w5 be (cellsE m) 39) := Lib.hid (by rw [qw5]; exact (X1.out.alloc _).otherAll _ _ _ (by have := X1.out.lt; omega)); have B5 : Hid (Below w.heap.size w w5) := Lib.hid (by rw [qw5]; exact below_setAll B1.out.size _ _ _ (B1.out.alloc B1.out.size _)); clear qw5)
          | (go_at_call 17; (with_reducible refine (M17.out _ B5.out).mono ?_); rintro e u ⟨rfl, hb6⟩; have HX := Lib.hid (X5.out.below hb6); have B6 := Lib.hid (B5.out.trans (hb6.mono B5.out.size)); clear hb6))
        have HE := Lib.hid (H.out.below B6.out)
        have HCm := Lib.hid (HC.out.below B6.out)
        have hnil := HN.out
        obtain ⟨i0, hi, hz0, hz1, hz2⟩ := info_parts info39
        have HI := Lib.hid (And.intro hi (And.intro hz0 (And.intro hz1 hz2)))
        clear hi hz0 hz1 hz2
        go_cut [11] from 66 to 71 (fun s11 wx => Longer u kk (addE kk E m) s11 wx)
        case first =>
          refine wp_region_held_drew (S := (fun w' => Blk w' be (cellsE m) 39 ∧ Below u.heap.size u w')) (by kernel_rfl) (⟨HX.out.drew, (Below.refl _ _).drew⟩) (fun hH0 => ?_)
          generalize u.drew = y0 at hH0 ⊢
          have RX0 : Hid (Blk y0 be (cellsE m) 39) := Lib.hid hH0.1
          have RB0 : Hid (Below u.heap.size u y0) := Lib.hid hH0.2
          refine wpAnyH_take (i := 1) (oi := ({ dst := some 67, op := Op.move (Operand.tmp 0), type := 32, pos := "law.go:76", after := #[], guard := none } : Oper)) (v := ?hv1) rfl (by kernel_rfl) (by kernel_rfl) (by kernel_rfl) (fun _ _ _ h => h) (Or.inl ⟨by rfl, ?hy1⟩) (by assumption) ?hr1
          case hy1 => (intro w hSw; (try dsimp only at hSw); go_simp; (try with_reducible rfl))
          try simp only [Act.put, List.setIfInBounds_toArray, List.set_cons_zero, List.set_cons_succ]
          refine wpAnyH_take (i := 3) (oi := ({ dst := some 69, op := Op.load 39 (Operand.tmp 4), type := 39, pos := "law.go:76", after := #[], guard := none } : Oper)) (v := .agg (cellsE m).toArray) rfl (by kernel_rfl) (by kernel_rfl) (by kernel_rfl) (fun _ _ _ h => h) (yieldsIf_load_mid (by rfl) 39 _ rfl be 0 rfl (cellsE m) _ (fun w hw => hw.1.range) Try.underlying39 rfl size39) (by assumption) ?_
          try simp only [Act.put, List.setIfInBounds_toArray, List.set_cons_zero, List.set_cons_succ]
          refine wpAnyH_ready (rs := [0, 4]) (by kernel_rfl) (by simp) ?_
          refine AllReadyH.cons (o := ({ dst := some 66, op := Op.buildSlice 32 0 #[], type := 32, pos := "law.go:76", after := #[], guard := none } : Oper)) rfl (fun KK hKK => ?_) ?_
          · go_simp
            generalize hy1 : World.alloc _ _ = y1
            generalize hg0 : (World.heap y0).size = g0
            have RX1 : Hid (Blk y1 be (cellsE m) 39) := Lib.hid (by rw [← hy1]; exact RX0.out.alloc _)
            have RB1 : Hid (Below u.heap.size u y1) := Lib.hid (by rw [← hy1]; exact RB0.out.alloc RB0.out.size _)
            have RO1 : Hid (y1.ownsRow u.heap.size 39 29 (.slice (some ⟨g0, 0, none⟩) 0 0) 0 []) := Lib.hid (by rw [← hy1, ← hg0]; exact World.ownsRow_made (base := u.heap.size) (e := 39) (size := 29) _ #[] 0 RB0.out.size (by decide) (by simp))
            clear hy1 hg0
            refine hKK.out _ _ (⟨RX1.out, RB1.out⟩) (fun hH1 => ?_)
            clear hKK KK
            try simp only [Act.put, List.setIfInBounds_toArray, List.set_cons_zero, List.set_cons_succ]
            refine wpAnyH_ready (rs := [2, 4]) (by kernel_rfl) (by simp) ?_
            refine AllReadyH.cons (o := ({ dst := some 68, op := Op.call { callee := Callee.builtin Builtin.append, args := #[Operand.tmp 66, Operand.tmp 67], argTypes := #[32, 32] }, type := 32, pos := "law.go:76", after := #[{ on := 0, ground := Ground.data }, { on := 1, ground := Ground.data }], guard := none } : Oper)) rfl (fun KK hKK => ?_) ?_
            · have RS := Lib.hid ((Evx.rws (HE.out.below RB1.out) hnil).src)
              refine step_append_any _ rfl (.tmp 66) (.tmp 67) 32 rfl u.heap.size 39 i0 _ 29 376 Try.underlying32 HI.out.1 HI.out.2.1 HI.out.2.2.1 HI.out.2.2.2 rfl (by decide) (.slice (some ⟨g0, 0, none⟩) 0 0) 0 [] rfl RO1.out A kk c (flat kk (fun j => cellsE (E j))) rfl RS.out (by unfold maxLen; omega) (by omega) RB1.out.size ?_
              intro v3 y2 hgr
              have RB2 : Hid (Below u.heap.size u y2) := Lib.hid (hgr.below RB1.out RO1.out)
              have RV2 := Lib.hid hgr.own
              have RX2 : Hid (Blk y2 be (cellsE m) 39) := Lib.hid (HX.out.below RB2.out)
              clear hgr
              refine hKK.out _ _ (⟨RX2.out, RB2.out⟩) (fun hH2 => ?_)
              clear hKK KK
              try simp only [Act.put, List.setIfInBounds_toArray, List.set_cons_zero, List.set_cons_succ]
              refine wpAnyH_ready (rs := [4]) (by kernel_rfl) (by simp) ?_
              refine AllReadyH.cons (o := ({ dst := some 70, op := Op.buildSlice 32 1 #[(0, Operand.tmp 69)], type := 32, pos := "law.go:76", after := #[{ on := 3, ground := Ground.data }], guard := none } : Oper)) rfl (fun KK hKK => ?_) AllReadyH.nil
              go_simp
              generalize hy3 : World.alloc _ _ = y3
              generalize hg4 : (World.heap y2).size = g4
              have RX3 : Hid (Blk y3 be (cellsE m) 39) := Lib.hid (by rw [← hy3]; exact RX2.out.alloc _)
              have RB3 : Hid (Below u.heap.size u y3) := Lib.hid (by rw [← hy3]; exact RB2.out.alloc RB2.out.size _)
              have RG3 : Hid (Blk y3 g4 (cellsE m) 39) := Lib.hid (by rw [← hy3, ← hg4]; exact blk_new _ (cellsE m) 39)
              have RV3 : Hid (y3.ownsRow u.heap.size 39 29 v3 (0 + kk) ([] ++ (flat kk (fun j => cellsE (E j))))) := Lib.hid (by rw [← hy3]; exact RV2.out.alloc _)
              clear hy3 hg4
              refine hKK.out _ _ (⟨RX3.out, RB3.out⟩) (fun hH3 => ?_)
              clear hKK KK
              try simp only [Act.put, List.setIfInBounds_toArray, List.set_cons_zero, List.set_cons_succ]
              refine wpAnyH_ready (rs := [5]) (by kernel_rfl) (by simp) ?_
              refine AllReadyH.cons (o := ({ dst := some 71, op := Op.call { callee := Callee.builtin Builtin.append, args := #[Operand.tmp 68, Operand.tmp 70], argTypes := #[32, 32] }, type := 32, pos := "law.go:76", after := #[{ on := 2, ground := Ground.data }, { on := 4, ground := Ground.data }, { on := 2, ground := Ground.chain }], guard := none } : Oper)) rfl (fun KK hKK => ?_) AllReadyH.nil
              refine step_append_any _ rfl (.tmp 68) (.tmp 70) 32 rfl u.heap.size 39 i0 _ 29 376 Try.underlying32 HI.out.1 HI.out.2.1 HI.out.2.2.1 HI.out.2.2.2 rfl (by decide) v3 _ _ rfl RV3.out (some ⟨g4, 0, none⟩) 1 1 (cellsE m) rfl (src_row RG3.out 29 rfl (cellsE_one m)) (by unfold maxLen; omega) (by omega) RB3.out.size ?_
              intro v5 y4 hgr
              have RB4 : Hid (Below u.heap.size u y4) := Lib.hid (hgr.below RB3.out RV3.out)
              have RX4 : Hid (Blk y4 be (cellsE m) 39) := Lib.hid (HX.out.below RB4.out)
              obtain ⟨A5, c5, e5, hE5⟩ := ev_snoc (by omega) HE.out.wf HWm.out (HE.out.below RB4.out).ct (HCm.out.below RB4.out) hgr.own
              subst e5
              have RE := Lib.hid hE5
              clear hgr hE5
              refine hKK.out _ _ (⟨RX4.out, RB4.out⟩) (fun hH4 => ?_)
              clear hKK KK
              try simp only [Act.put, List.setIfInBounds_toArray, List.set_cons_zero, List.set_cons_succ]
              refine wpAnyH_take (i := 6) (oi := ({ dst := some 11, op := Op.assign (Operand.tmp 71), type := 32, pos := "law.go:76", after := #[{ on := 5, ground := Ground.data }, { on := 5, ground := Ground.chain }, { on := 0, ground := Ground.phase }, { on := 1, ground := Ground.phase }, { on := 2, ground := Ground.phase }, { on := 3, ground := Ground.phase }, { on := 4, ground := Ground.phase }, { on := 5, ground := Ground.phase }], guard := none } : Oper)) (v := ?hv2) rfl (by kernel_rfl) (by kernel_rfl) (by kernel_rfl) (fun _ _ _ h => h) (Or.inl ⟨by rfl, ?hy2⟩) (by assumption) ?hr2
              case hy2 => (intro w hSw; (try dsimp only at hSw); go_simp; (try with_reducible rfl))
              try simp only [Act.put, List.setIfInBounds_toArray, List.set_cons_zero, List.set_cons_succ]
              refine wpAnyH_done (by kernel_rfl) ?_ _
              go_wp2
              go_meet
              refine ⟨A5, c5, rfl, ?_, ?_⟩
              · exact RE.out
              · exact RB4.out
            refine AllReadyH.cons (o := ({ dst := some 70, op := Op.buildSlice 32 1 #[(0, Operand.tmp 69)], type := 32, pos := "law.go:76", after := #[{ on := 3, ground := Ground.data }], guard := none } : Oper)) rfl (fun KK hKK => ?_) AllReadyH.nil
            go_simp
            generalize hy2 : World.alloc _ _ = y2
            generalize hg4 : (World.heap y1).size = g4
            have RX2 : Hid (Blk y2 be (cellsE m) 39) := Lib.hid (by rw [← hy2]; exact RX1.out.alloc _)
            have RB2 : Hid (Below u.heap.size u y2) := Lib.hid (by rw [← hy2]; exact RB1.out.alloc RB1.out.size _)
            have RG2 : Hid (Blk y2 g4 (cellsE m) 39) := Lib.hid (by rw [← hy2, ← hg4]; exact blk_new _ (cellsE m) 39)
            have RO2 : Hid (y2.ownsRow u.heap.size 39 29 (.slice (some ⟨g0, 0, none⟩) 0 0) 0 []) := Lib.hid (by rw [← hy2]; exact RO1.out.alloc _)
            have RN : g4 ≠ g0 := by have := (RO1.out.lt g0 rfl).2; omega
            clear hy2 hg4
            refine hKK.out _ _ (⟨RX2.out, RB2.out⟩) (fun hH2 => ?_)
            clear hKK KK
            try simp only [Act.put, List.setIfInBounds_toArray, List.set_cons_zero, List.set_cons_succ]
            refine wpAnyH_ready (rs := [2]) (by kernel_rfl) (by simp) ?_
            refine AllReadyH.cons (o := ({ dst := some 68, op := Op.call { callee := Callee.builtin Builtin.append, args := #[Operand.tmp 66, Operand.tmp 67], argTypes := #[32, 32] }, type := 32, pos := "law.go:76", after := #[{ on := 0, ground := Ground.data }, { on := 1, ground := Ground.data }], guard := none } : Oper)) rfl (fun KK hKK => ?_) AllReadyH.nil
            have RS := Lib.hid ((Evx.rws (HE.out.below RB2.out) hnil).src)
            refine step_append_any _ rfl (.tmp 66) (.tmp 67) 32 rfl u.heap.size 39 i0 _ 29 376 Try.underlying32 HI.out.1 HI.out.2.1 HI.out.2.2.1 HI.out.2.2.2 rfl (by decide) (.slice (some ⟨g0, 0, none⟩) 0 0) 0 [] rfl RO2.out A kk c (flat kk (fun j => cellsE (E j))) rfl RS.out (by unfold maxLen; omega) (by omega) RB2.out.size ?_
            intro v3 y3 hgr
            have RB3 : Hid (Below u.heap.size u y3) := Lib.hid (hgr.below RB2.out RO2.out)
            have RV3 := Lib.hid hgr.own
            have RX3 : Hid (Blk y3 be (cellsE m) 39) := Lib.hid (HX.out.below RB3.out)
            have RG3 : Hid (Blk y3 g4 (cellsE m) 39) := Lib.hid ⟨(hgr.grow.block g4 RG2.out.lt (by simp [Value.ownBlock]; omega)).trans RG2.out.heap⟩
            clear hgr
            refine hKK.out _ _ (⟨RX3.out, RB3.out⟩) (fun hH3 => ?_)
            clear hKK KK
            try simp only [Act.put, List.setIfInBounds_toArray, List.set_cons_zero, List.set_cons_succ]
            refine wpAnyH_ready (rs := [5]) (by kernel_rfl) (by simp) ?_
            refine AllReadyH.cons (o := ({ dst := some 71, op := Op.call { callee := Callee.builtin Builtin.append, args := #[Operand.tmp 68, Operand.tmp 70], argTypes := #[32, 32] }, type := 32, pos := "law.go:76", after := #[{ on := 2, ground := Ground.data }, { on := 4, ground := Ground.data }, { on := 2, ground := Ground.chain }], guard := none } : Oper)) rfl (fun KK hKK => ?_) AllReadyH.nil
            refine step_append_any _ rfl (.tmp 68) (.tmp 70) 32 rfl u.heap.size 39 i0 _ 29 376 Try.underlying32 HI.out.1 HI.out.2.1 HI.out.2.2.1 HI.out.2.2.2 rfl (by decide) v3 _ _ rfl RV3.out (some ⟨g4, 0, none⟩) 1 1 (cellsE m) rfl (src_row RG3.out 29 rfl (cellsE_one m)) (by unfold maxLen; omega) (by omega) RB3.out.size ?_
            intro v5 y4 hgr
            have RB4 : Hid (Below u.heap.size u y4) := Lib.hid (hgr.below RB3.out RV3.out)
            have RX4 : Hid (Blk y4 be (cellsE m) 39) := Lib.hid (HX.out.below RB4.out)
            obtain ⟨A5, c5, e5, hE5⟩ := ev_snoc (by omega) HE.out.wf HWm.out (HE.out.below RB4.out).ct (HCm.out.below RB4.out) hgr.own
            subst e5
            have RE := Lib.hid hE5
            clear hgr hE5
            refine hKK.out _ _ (⟨RX4.out, RB4.out⟩) (fun hH4 => ?_)
            clear hKK KK
            try simp only [Act.put, List.setIfInBounds_toArray, List.set_cons_zero, List.set_cons_succ]
            refine wpAnyH_take (i := 6) (oi := ({ dst := some 11, op := Op.assign (Operand.tmp 71), type := 32, pos := "law.go:76", after := #[{ on := 5, ground := Ground.data }, { on := 5, ground := Ground.chain }, { on := 0, ground := Ground.phase }, { on := 1, ground := Ground.phase }, { on := 2, ground := Ground.phase }, { on := 3, ground := Ground.phase }, { on := 4, ground := Ground.phase }, { on := 5, ground := Ground.phase }], guard := none } : Oper)) (v := ?hv3) rfl (by kernel_rfl) (by kernel_rfl) (by kernel_rfl) (fun _ _ _ h => h) (Or.inl ⟨by rfl, ?hy3⟩) (by assumption) ?hr3
            case hy3 => (intro w hSw; (try dsimp only at hSw); go_simp; (try with_reducible rfl))
            try simp only [Act.put, List.setIfInBounds_toArray, List.set_cons_zero, List.set_cons_succ]
            refine wpAnyH_done (by kernel_rfl) ?_ _
            go_wp2
            go_meet
            refine ⟨A5, c5, rfl, ?_, ?_⟩
            · exact RE.out
            · exact RB4.out
          refine AllReadyH.cons (o := ({ dst := some 70, op := Op.buildSlice 32 1 #[(0, Operand.tmp 69)], type := 32, pos := "law.go:76", after := #[{ on := 3, ground := Ground.data }], guard := none } : Oper)) rfl (fun KK hKK => ?_) AllReadyH.nil
          go_simp
          generalize hy1 : World.alloc _ _ = y1
          generalize hg4 : (World.heap y0).size = g4
          have RX1 : Hid (Blk y1 be (cellsE m) 39) := Lib.hid (by rw [← hy1]; exact RX0.out.alloc _)
          have RB1 : Hid (Below u.heap.size u y1) := Lib.hid (by rw [← hy1]; exact RB0.out.alloc RB0.out.size _)
          have RG1 : Hid (Blk y1 g4 (cellsE m) 39) := Lib.hid (by rw [← hy1, ← hg4]; exact blk_new _ (cellsE m) 39)
          clear hy1 hg4
          refine hKK.out _ _ (⟨RX1.out, RB1.out⟩) (fun hH1 => ?_)
          clear hKK KK
          try simp only [Act.put, List.setIfInBounds_toArray, List.set_cons_zero, List.set_cons_succ]
          refine wpAnyH_ready (rs := [0]) (by kernel_rfl) (by simp) ?_
          refine AllReadyH.cons (o := ({ dst := some 66, op := Op.buildSlice 32 0 #[], type := 32, pos := "law.go:76", after := #[], guard := none } : Oper)) rfl (fun KK hKK => ?_) AllReadyH.nil
          go_simp
          generalize hy2 : World.alloc _ _ = y2
          generalize hg0 : (World.heap y1).size = g0
          have RX2 : Hid (Blk y2 be (cellsE m) 39) := Lib.hid (by rw [← hy2]; exact RX1.out.alloc _)
          have RB2 : Hid (Below u.heap.size u y2) := Lib.hid (by rw [← hy2]; exact RB1.out.alloc RB1.out.size _)
          have RO2 : Hid (y2.ownsRow u.heap.size 39 29 (.slice (some ⟨g0, 0, none⟩) 0 0) 0 []) := Lib.hid (by rw [← hy2, ← hg0]; exact World.ownsRow_made (base := u.heap.size) (e := 39) (size := 29) _ #[] 0 RB1.out.size (by decide) (by simp))
          have RG2 : Hid (Blk y2 g4 (cellsE m) 39) := Lib.hid (by rw [← hy2]; exact RG1.out.alloc _)
          have RN : g4 ≠ g0 := by have := RG1.out.lt; omega
          clear hy2 hg0
          refine hKK.out _ _ (⟨RX2.out, RB2.out⟩) (fun hH2 => ?_)
          clear hKK KK
          try simp only [Act.put, List.setIfInBounds_toArray, List.set_cons_zero, List.set_cons_succ]
          refine wpAnyH_ready (rs := [2]) (by kernel_rfl) (by simp) ?_
          refine AllReadyH.cons (o := ({ dst := some 68, op := Op.call { callee := Callee.builtin Builtin.append, args := #[Operand.tmp 66, Operand.tmp 67], argTypes := #[32, 32] }, type := 32, pos := "law.go:76", after := #[{ on := 0, ground := Ground.data }, { on := 1, ground := Ground.data }], guard := none } : Oper)) rfl (fun KK hKK => ?_) AllReadyH.nil
          have RS := Lib.hid ((Evx.rws (HE.out.below RB2.out) hnil).src)
          refine step_append_any _ rfl (.tmp 66) (.tmp 67) 32 rfl u.heap.size 39 i0 _ 29 376 Try.underlying32 HI.out.1 HI.out.2.1 HI.out.2.2.1 HI.out.2.2.2 rfl (by decide) (.slice (some ⟨g0, 0, none⟩) 0 0) 0 [] rfl RO2.out A kk c (flat kk (fun j => cellsE (E j))) rfl RS.out (by unfold maxLen; omega) (by omega) RB2.out.size ?_
          intro v3 y3 hgr
          have RB3 : Hid (Below u.heap.size u y3) := Lib.hid (hgr.below RB2.out RO2.out)
          have RV3 := Lib.hid hgr.own
          have RX3 : Hid (Blk y3 be (cellsE m) 39) := Lib.hid (HX.out.below RB3.out)
          have RG3 : Hid (Blk y3 g4 (cellsE m) 39) := Lib.hid ⟨(hgr.grow.block g4 RG2.out.lt (by simp [Value.ownBlock]; omega)).trans RG2.out.heap⟩
          clear hgr
          refine hKK.out _ _ (⟨RX3.out, RB3.out⟩) (fun hH3 => ?_)
          clear hKK KK
          try simp only [Act.put, List.setIfInBounds_toArray, List.set_cons_zero, List.set_cons_succ]
          refine wpAnyH_ready (rs := [5]) (by kernel_rfl) (by simp) ?_
          refine AllReadyH.cons (o := ({ dst := some 71, op := Op.call { callee := Callee.builtin Builtin.append, args := #[Operand.tmp 68, Operand.tmp 70], argTypes := #[32, 32] }, type := 32, pos := "law.go:76", after := #[{ on := 2, ground := Ground.data }, { on := 4, ground := Ground.data }, { on := 2, ground := Ground.chain }], guard := none } : Oper)) rfl (fun KK hKK => ?_) AllReadyH.nil
          refine step_append_any _ rfl (.tmp 68) (.tmp 70) 32 rfl u.heap.size 39 i0 _ 29 376 Try.underlying32 HI.out.1 HI.out.2.1 HI.out.2.2.1 HI.out.2.2.2 rfl (by decide) v3 _ _ rfl RV3.out (some ⟨g4, 0, none⟩) 1 1 (cellsE m) rfl (src_row RG3.out 29 rfl (cellsE_one m)) (by unfold maxLen; omega) (by omega) RB3.out.size ?_
          intro v5 y4 hgr
          have RB4 : Hid (Below u.heap.size u y4) := Lib.hid (hgr.below RB3.out RV3.out)
          have RX4 : Hid (Blk y4 be (cellsE m) 39) := Lib.hid (HX.out.below RB4.out)
          obtain ⟨A5, c5, e5, hE5⟩ := ev_snoc (by omega) HE.out.wf HWm.out (HE.out.below RB4.out).ct (HCm.out.below RB4.out) hgr.own
          subst e5
          have RE := Lib.hid hE5
          clear hgr hE5
          refine hKK.out _ _ (⟨RX4.out, RB4.out⟩) (fun hH4 => ?_)
          clear hKK KK
          try simp only [Act.put, List.setIfInBounds_toArray, List.set_cons_zero, List.set_cons_succ]
          refine wpAnyH_take (i := 6) (oi := ({ dst := some 11, op := Op.assign (Operand.tmp 71), type := 32, pos := "law.go:76", after := #[{ on := 5, ground := Ground.data }, { on := 5, ground := Ground.chain }, { on := 0, ground := Ground.phase }, { on := 1, ground := Ground.phase }, { on := 2, ground := Ground.phase }, { on := 3, ground := Ground.phase }, { on := 4, ground := Ground.phase }, { on := 5, ground := Ground.phase }], guard := none } : Oper)) (v := ?hv4) rfl (by kernel_rfl) (by kernel_rfl) (by kernel_rfl) (fun _ _ _ h => h) (Or.inl ⟨by rfl, ?hy4⟩) (by assumption) ?hr4
          case hy4 => (intro w hSw; (try dsimp only at hSw); go_simp; (try with_reducible rfl))
          try simp only [Act.put, List.setIfInBounds_toArray, List.set_cons_zero, List.set_cons_succ]
          refine wpAnyH_done (by kernel_rfl) ?_ _
          go_wp2
          go_meet
          refine ⟨A5, c5, rfl, ?_, ?_⟩
          · exact RE.out
          · exact RB4.out
        case rest =>
          obtain ⟨A', c', rfl, hE', hbl⟩ := hcut
          obtain ⟨wl, rfl⟩ : ∃ x : World, x = wc := ⟨_, rfl⟩
          have XL := Lib.hid (HX.out.below hbl)
          have BL := Lib.hid (B6.out.trans (hbl.mono B6.out.size))
          have HSl := Lib.hid BL.out.size
          have MB := Lib.hid (fun u hb => M17b.out A' c' wl hE' u hb)
          have AL := Lib.hid (fun u (hb : Below wl.heap.size wl u) => allowed9 m.C m.a sv HSv.out u (HC.out.below (BL.out.trans (hb.mono BL.out.size))))
          have kz := XL.out.cell (i := 3) rfl
          clear hE' hbl M17b HX B6
          cases hz : (m.e3 == 6)
          · obtain rfl : r2 = 0 := by have := HRn.out; rw [hz] at this; exact this
            have hz2 : (m.e3 != 6) = true := by rw [bne, hz]; rfl
            clear HRn
            go_wp2_with (first
              | (go_at_call 17; (with_reducible refine (MB.out _ (Below.refl _ _)).mono ?_); rintro e u7 ⟨rfl, hb7⟩; have B7 := Lib.hid (BL.out.trans (hb7.mono BL.out.size)); clear hb7)
              | (go_at_call 17; (with_reducible refine (M17.out _ B7.out).mono ?_); rintro e u8 ⟨rfl, hb8⟩; have B8 := Lib.hid (B7.out.trans (hb8.mono B7.out.size)); clear hb8)
              | (go_at_call 8; (with_reducible refine (AW.out _).mono ?_); rintro e u9 ⟨rfl, hb9⟩))
            go_ret
            exact ⟨rfl, B8.out.trans (hb9.mono B8.out.size)⟩
          · have hz2 : (m.e3 != 6) = false := by rw [bne, hz]; rfl
            have hr : r2 = if allow m.C sv = true then 0 else 22 := by have := HRn.out; rw [hz] at this; exact this
            clear HRn
            generalize allow m.C sv = q at AL hr
            go_upto_region 16 with (fail)
            clear kz hz hz2
            cases q
            · simp only [Bool.false_eq_true, if_false] at hr
              subst hr
              refine wp_region_held_drew (S := (fun w' => Blk w' be (cellsE m) 39 ∧ Below wl.heap.size wl w')) (by kernel_rfl) (by first | exact ⟨XL.out.drew, (Below.refl _ _).drew⟩ | exact ⟨hH0.1.below hb3, hH0.2.trans (hb3.mono hH0.2.size)⟩ | exact hH0) (fun hH0 => ?_)
              refine wpAnyH_take (i := 0) (oi := ({ dst := some 88, op := Op.move (Operand.tmp 11), type := 32, pos := "law.go:80", after := #[], guard := none } : Oper)) (v := ?hv9) rfl (by kernel_rfl) (by kernel_rfl) (by kernel_rfl) (fun _ _ _ h => h) (Or.inl ⟨by rfl, ?hy9⟩) (by assumption) ?hr9
              case hy9 => (intro w hSw; (try dsimp only at hSw); go_simp; (try with_reducible rfl))
              try simp only [Act.put, List.setIfInBounds_toArray, List.set_cons_zero, List.set_cons_succ]
              refine wpAnyH_take (i := 1) (oi := ({ dst := some 89, op := Op.move (Operand.tmp 2), type := 9, pos := "law.go:80", after := #[], guard := none } : Oper)) (v := ?hv10) rfl (by kernel_rfl) (by kernel_rfl) (by kernel_rfl) (fun _ _ _ h => h) (Or.inl ⟨by rfl, ?hy10⟩) (by assumption) ?hr10
              case hy10 => (intro w hSw; (try dsimp only at hSw); go_simp; (try with_reducible rfl))
              try simp only [Act.put, List.setIfInBounds_toArray, List.set_cons_zero, List.set_cons_succ]
              refine wpAnyH_take (i := 4) (oi := ({ dst := some 92, op := Op.fieldAddr 39 (Operand.tmp 4) 10, type := 0, pos := "law.go:80", after := #[], guard := none } : Oper)) (v := ?hv11) rfl (by kernel_rfl) (by kernel_rfl) (by kernel_rfl) (fun _ _ _ h => h) (Or.inl ⟨by rfl, ?hy11⟩) (by assumption) ?hr11
              case hy11 => (intro w hSw; (try dsimp only at hSw); go_simp; (try with_reducible rfl))
              try simp only [Act.put, List.setIfInBounds_toArray, List.set_cons_zero, List.set_cons_succ]
              refine wpAnyH_take (i := 5) (oi := ({ dst := some 93, op := Op.load 28 (Operand.tmp 92), type := 28, pos := "law.go:80", after := #[{ on := 4, ground := Ground.data }], guard := none } : Oper)) (v := .agg (cells m.C m.a).toArray) rfl (by kernel_rfl) (by kernel_rfl) (by kernel_rfl) (fun _ _ _ h => h) (yieldsIf_load_mid (by rfl) 28 _ rfl be 10 rfl (cells m.C m.a) _ (fun w hw => midE hw.1) Try.underlying28 rfl size28c) (by assumption) ?hr12
              try simp only [Act.put, List.setIfInBounds_toArray, List.set_cons_zero, List.set_cons_succ]
              refine wpAnyH_take (i := 6) (oi := ({ dst := some 94, op := Op.move (Operand.tmp 2), type := 9, pos := "law.go:80", after := #[], guard := none } : Oper)) (v := ?hv13) rfl (by kernel_rfl) (by kernel_rfl) (by kernel_rfl) (fun _ _ _ h => h) (Or.inl ⟨by rfl, ?hy13⟩) (by assumption) ?hr13
              case hy13 => (intro w hSw; (try dsimp only at hSw); go_simp; (try with_reducible rfl))
              try simp only [Act.put, List.setIfInBounds_toArray, List.set_cons_zero, List.set_cons_succ]
              refine wpAnyH_ready (rs := [2]) (by kernel_rfl) (by simp) ?_
              refine AllReadyH.cons (o := ({ dst := some 90, op := Op.call { callee := Callee.value (Operand.func 17), args := #[Operand.tmp 88, Operand.tmp 89], argTypes := #[32, 9] }, type := 43, pos := "law.go:80", after := #[{ on := 0, ground := Ground.data }, { on := 1, ground := Ground.data }], guard := none } : Oper)) rfl (fun KK hKK => ?_) AllReadyH.nil
              (go_simp; (with_reducible refine (MB.out _ hH0.2).mono ?_); rintro e0 w3 ⟨rfl, hb3⟩)
              refine hKK.out _ _ (by first | exact ⟨XL.out.drew, (Below.refl _ _).drew⟩ | exact ⟨hH0.1.below hb3, hH0.2.trans (hb3.mono hH0.2.size)⟩ | exact hH0) (fun hH1 => ?_)
              clear hKK KK hH0
              try simp only [Act.put, List.setIfInBounds_toArray, List.set_cons_zero, List.set_cons_succ]
              refine wpAnyH_take (i := 3) (oi := ({ dst := some 91, op := Op.binOp BinOp.eql 43 (Operand.tmp 90) (Operand.const (Value.int IntKind.i64 0)) 43, type := 4, pos := "law.go:80", after := #[{ on := 2, ground := Ground.data }], guard := none } : Oper)) (v := ?hv14) rfl (by kernel_rfl) (by kernel_rfl) (by kernel_rfl) (fun _ _ _ h => h) (Or.inl ⟨by rfl, ?hy14⟩) (by assumption) ?hr14
              case hy14 => (intro w hSw; (try dsimp only at hSw); go_simp; (try with_reducible rfl))
              try simp only [Act.put, List.setIfInBounds_toArray, List.set_cons_zero, List.set_cons_succ]
              refine wpAnyH_ready (rs := [7]) (by kernel_rfl) (by simp) ?_
              refine AllReadyH.cons (o := ({ dst := some 95, op := Op.call { callee := Callee.value (Operand.func 9), args := #[Operand.tmp 93, Operand.tmp 94], argTypes := #[28, 9] }, type := 4, pos := "law.go:80", after := #[{ on := 5, ground := Ground.data }, { on := 6, ground := Ground.data }, { on := 2, ground := Ground.chain }], guard := none } : Oper)) rfl (fun KK hKK => ?_) AllReadyH.nil
              (go_simp; (with_reducible refine (AL.out _ hH1.2).mono ?_); rintro e0 w3 ⟨rfl, hb3⟩)
              refine hKK.out _ _ (by first | exact ⟨XL.out.drew, (Below.refl _ _).drew⟩ | exact ⟨hH1.1.below hb3, hH1.2.trans (hb3.mono hH1.2.size)⟩ | exact hH1) (fun hH2 => ?_)
              clear hKK KK hH1
              try simp only [Act.put, List.setIfInBounds_toArray, List.set_cons_zero, List.set_cons_succ]
              refine wpAnyH_take (i := 8) (oi := ({ dst := some 96, op := Op.binOp BinOp.eql 4 (Operand.tmp 91) (Operand.tmp 95) 4, type := 4, pos := "law.go:80", after := #[{ on := 3, ground := Ground.data }, { on := 7, ground := Ground.data }], guard := none } : Oper)) (v := ?hv15) rfl (by kernel_rfl) (by kernel_rfl) (by kernel_rfl) (fun _ _ _ h => h) (Or.inl ⟨by rfl, ?hy15⟩) (by assumption) ?hr15
              case hy15 => (intro w hSw; (try dsimp only at hSw); go_simp; (try with_reducible rfl))
              try simp only [Act.put, List.setIfInBounds_toArray, List.set_cons_zero, List.set_cons_succ]
              refine wpAnyH_take (i := 9) (oi := ({ dst := some 97, op := Op.move (Operand.tmp 96), type := 4, pos := "law.go:80", after := #[{ on := 8, ground := Ground.data }, { on := 7, ground := Ground.chain }], guard := none } : Oper)) (v := ?hv16) rfl (by kernel_rfl) (by kernel_rfl) (by kernel_rfl) (fun _ _ _ h => h) (Or.inl ⟨by rfl, ?hy16⟩) (by assumption) ?hr16
              case hy16 => (intro w hSw; (try dsimp only at hSw); go_simp; (try with_reducible rfl))
              try simp only [Act.put, List.setIfInBounds_toArray, List.set_cons_zero, List.set_cons_succ]
              refine wpAnyH_ready (rs := [10]) (by kernel_rfl) (by simp) ?_
              refine AllReadyH.cons (o := ({ dst := some 98, op := Op.call { callee := Callee.value (Operand.func 8), args := #[], argTypes := #[] }, type := 4, pos := "law.go:80", after := #[{ on := 9, ground := Ground.chain }, { on := 9, ground := Ground.guard }], guard := some (9, true) } : Oper)) rfl (fun KK hKK => ?_) AllReadyH.nil
              (go_simp; (with_reducible refine (AW.out _).mono ?_); rintro e0 w3 ⟨rfl, hb3⟩)
              refine hKK.out _ _ (by first | exact ⟨XL.out.drew, (Below.refl _ _).drew⟩ | exact ⟨hH2.1.below hb3, hH2.2.trans (hb3.mono hH2.2.size)⟩ | exact hH2) (fun hH3 => ?_)
              clear hKK KK hH2
              try simp only [Act.put, List.setIfInBounds_toArray, List.set_cons_zero, List.set_cons_succ]
              refine wpAnyH_take (i := 11) (oi := ({ dst := some 99, op := Op.pick (Operand.tmp 97) (Operand.tmp 98) (Operand.const (Value.bool false)), type := 4, pos := "law.go:80", after := #[{ on := 9, ground := Ground.data }, { on := 10, ground := Ground.data }], guard := none } : Oper)) (v := ?hv17) rfl (by kernel_rfl) (by kernel_rfl) (by kernel_rfl) (fun _ _ _ h => h) (Or.inl ⟨by rfl, ?hy17⟩) (by assumption) ?hr17
              case hy17 => (intro w hSw; (try dsimp only at hSw); go_simp; (try with_reducible rfl))
              try simp only [Act.put, List.setIfInBounds_toArray, List.set_cons_zero, List.set_cons_succ]
              refine wpAnyH_take (i := 12) (oi := ({ dst := some 6, op := Op.assign (Operand.tmp 99), type := 4, pos := "law.go:80", after := #[{ on := 11, ground := Ground.data }, { on := 10, ground := Ground.chain }, { on := 0, ground := Ground.phase }, { on := 1, ground := Ground.phase }, { on := 2, ground := Ground.phase }, { on := 3, ground := Ground.phase }, { on := 4, ground := Ground.phase }, { on := 5, ground := Ground.phase }, { on := 6, ground := Ground.phase }, { on := 7, ground := Ground.phase }, { on := 8, ground := Ground.phase }, { on := 9, ground := Ground.phase }, { on := 10, ground := Ground.phase }, { on := 11, ground := Ground.phase }], guard := none } : Oper)) (v := ?hv18) rfl (by kernel_rfl) (by kernel_rfl) (by kernel_rfl) (fun _ _ _ h => h) (Or.inl ⟨by rfl, ?hy18⟩) (by assumption) ?hr18
              case hy18 => (intro w hSw; (try dsimp only at hSw); go_simp; (try with_reducible rfl))
              try simp only [Act.put, List.setIfInBounds_toArray, List.set_cons_zero, List.set_cons_succ]
              refine wpAnyH_done (by kernel_rfl) ?_ _
              have hBl := hH3.2
              clear hH3
              go_wp2
              go_ret
              exact ⟨rfl, BL.out.trans (hBl.mono HSl.out)⟩
            · simp only [if_true] at hr
              subst hr
              refine wp_region_held_drew (S := (fun w' => Blk w' be (cellsE m) 39 ∧ Below wl.heap.size wl w')) (by kernel_rfl) (by first | exact ⟨XL.out.drew, (Below.refl _ _).drew⟩ | exact ⟨hH0.1.below hb3, hH0.2.trans (hb3.mono hH0.2.size)⟩ | exact hH0) (fun hH0 => ?_)
              refine wpAnyH_take (i := 0) (oi := ({ dst := some 88, op := Op.move (Operand.tmp 11), type := 32, pos := "law.go:80", after := #[], guard := none } : Oper)) (v := ?hv19) rfl (by kernel_rfl) (by kernel_rfl) (by kernel_rfl) (fun _ _ _ h => h) (Or.inl ⟨by rfl, ?hy19⟩) (by assumption) ?hr19
              case hy19 => (intro w hSw; (try dsimp only at hSw); go_simp; (try with_reducible rfl))
              try simp only [Act.put, List.setIfInBounds_toArray, List.set_cons_zero, List.set_cons_succ]
              refine wpAnyH_take (i := 1) (oi := ({ dst := some 89, op := Op.move (Operand.tmp 2), type := 9, pos := "law.go:80", after := #[], guard := none } : Oper)) (v := ?hv20) rfl (by kernel_rfl) (by kernel_rfl) (by kernel_rfl) (fun _ _ _ h => h) (Or.inl ⟨by rfl, ?hy20⟩) (by assumption) ?hr20
              case hy20 => (intro w hSw; (try dsimp only at hSw); go_simp; (try with_reducible rfl))
              try simp only [Act.put, List.setIfInBounds_toArray, List.set_cons_zero, List.set_cons_succ]
              refine wpAnyH_take (i := 4) (oi := ({ dst := some 92, op := Op.fieldAddr 39 (Operand.tmp 4) 10, type := 0, pos := "law.go:80", after := #[], guard := none } : Oper)) (v := ?hv21) rfl (by kernel_rfl) (by kernel_rfl) (by kernel_rfl) (fun _ _ _ h => h) (Or.inl ⟨by rfl, ?hy21⟩) (by assumption) ?hr21
              case hy21 => (intro w hSw; (try dsimp only at hSw); go_simp; (try with_reducible rfl))
              try simp only [Act.put, List.setIfInBounds_toArray, List.set_cons_zero, List.set_cons_succ]
              refine wpAnyH_take (i := 5) (oi := ({ dst := some 93, op := Op.load 28 (Operand.tmp 92), type := 28, pos := "law.go:80", after := #[{ on := 4, ground := Ground.data }], guard := none } : Oper)) (v := .agg (cells m.C m.a).toArray) rfl (by kernel_rfl) (by kernel_rfl) (by kernel_rfl) (fun _ _ _ h => h) (yieldsIf_load_mid (by rfl) 28 _ rfl be 10 rfl (cells m.C m.a) _ (fun w hw => midE hw.1) Try.underlying28 rfl size28c) (by assumption) ?hr22
              try simp only [Act.put, List.setIfInBounds_toArray, List.set_cons_zero, List.set_cons_succ]
              refine wpAnyH_take (i := 6) (oi := ({ dst := some 94, op := Op.move (Operand.tmp 2), type := 9, pos := "law.go:80", after := #[], guard := none } : Oper)) (v := ?hv23) rfl (by kernel_rfl) (by kernel_rfl) (by kernel_rfl) (fun _ _ _ h => h) (Or.inl ⟨by rfl, ?hy23⟩) (by assumption) ?hr23
              case hy23 => (intro w hSw; (try dsimp only at hSw); go_simp; (try with_reducible rfl))
              try simp only [Act.put, List.setIfInBounds_toArray, List.set_cons_zero, List.set_cons_succ]
              refine wpAnyH_ready (rs := [2]) (by kernel_rfl) (by simp) ?_
              refine AllReadyH.cons (o := ({ dst := some 90, op := Op.call { callee := Callee.value (Operand.func 17), args := #[Operand.tmp 88, Operand.tmp 89], argTypes := #[32, 9] }, type := 43, pos := "law.go:80", after := #[{ on := 0, ground := Ground.data }, { on := 1, ground := Ground.data }], guard := none } : Oper)) rfl (fun KK hKK => ?_) AllReadyH.nil
              (go_simp; (with_reducible refine (MB.out _ hH0.2).mono ?_); rintro e0 w3 ⟨rfl, hb3⟩)
              refine hKK.out _ _ (by first | exact ⟨XL.out.drew, (Below.refl _ _).drew⟩ | exact ⟨hH0.1.below hb3, hH0.2.trans (hb3.mono hH0.2.size)⟩ | exact hH0) (fun hH1 => ?_)
              clear hKK KK hH0
              try simp only [Act.put, List.setIfInBounds_toArray, List.set_cons_zero, List.set_cons_succ]
              refine wpAnyH_take (i := 3) (oi := ({ dst := some 91, op := Op.binOp BinOp.eql 43 (Operand.tmp 90) (Operand.const (Value.int IntKind.i64 0)) 43, type := 4, pos := "law.go:80", after := #[{ on := 2, ground := Ground.data }], guard := none } : Oper)) (v := ?hv24) rfl (by kernel_rfl) (by kernel_rfl) (by kernel_rfl) (fun _ _ _ h => h) (Or.inl ⟨by rfl, ?hy24⟩) (by assumption) ?hr24
              case hy24 => (intro w hSw; (try dsimp only at hSw); go_simp; (try with_reducible rfl))
              try simp only [Act.put, List.setIfInBounds_toArray, List.set_cons_zero, List.set_cons_succ]
              refine wpAnyH_ready (rs := [7]) (by kernel_rfl) (by simp) ?_
              refine AllReadyH.cons (o := ({ dst := some 95, op := Op.call { callee := Callee.value (Operand.func 9), args := #[Operand.tmp 93, Operand.tmp 94], argTypes := #[28, 9] }, type := 4, pos := "law.go:80", after := #[{ on := 5, ground := Ground.data }, { on := 6, ground := Ground.data }, { on := 2, ground := Ground.chain }], guard := none } : Oper)) rfl (fun KK hKK => ?_) AllReadyH.nil
              (go_simp; (with_reducible refine (AL.out _ hH1.2).mono ?_); rintro e0 w3 ⟨rfl, hb3⟩)
              refine hKK.out _ _ (by first | exact ⟨XL.out.drew, (Below.refl _ _).drew⟩ | exact ⟨hH1.1.below hb3, hH1.2.trans (hb3.mono hH1.2.size)⟩ | exact hH1) (fun hH2 => ?_)
              clear hKK KK hH1
              try simp only [Act.put, List.setIfInBounds_toArray, List.set_cons_zero, List.set_cons_succ]
              refine wpAnyH_take (i := 8) (oi := ({ dst := some 96, op := Op.binOp BinOp.eql 4 (Operand.tmp 91) (Operand.tmp 95) 4, type := 4, pos := "law.go:80", after := #[{ on := 3, ground := Ground.data }, { on := 7, ground := Ground.data }], guard := none } : Oper)) (v := ?hv25) rfl (by kernel_rfl) (by kernel_rfl) (by kernel_rfl) (fun _ _ _ h => h) (Or.inl ⟨by rfl, ?hy25⟩) (by assumption) ?hr25
              case hy25 => (intro w hSw; (try dsimp only at hSw); go_simp; (try with_reducible rfl))
              try simp only [Act.put, List.setIfInBounds_toArray, List.set_cons_zero, List.set_cons_succ]
              refine wpAnyH_take (i := 9) (oi := ({ dst := some 97, op := Op.move (Operand.tmp 96), type := 4, pos := "law.go:80", after := #[{ on := 8, ground := Ground.data }, { on := 7, ground := Ground.chain }], guard := none } : Oper)) (v := ?hv26) rfl (by kernel_rfl) (by kernel_rfl) (by kernel_rfl) (fun _ _ _ h => h) (Or.inl ⟨by rfl, ?hy26⟩) (by assumption) ?hr26
              case hy26 => (intro w hSw; (try dsimp only at hSw); go_simp; (try with_reducible rfl))
              try simp only [Act.put, List.setIfInBounds_toArray, List.set_cons_zero, List.set_cons_succ]
              refine wpAnyH_ready (rs := [10]) (by kernel_rfl) (by simp) ?_
              refine AllReadyH.cons (o := ({ dst := some 98, op := Op.call { callee := Callee.value (Operand.func 8), args := #[], argTypes := #[] }, type := 4, pos := "law.go:80", after := #[{ on := 9, ground := Ground.chain }, { on := 9, ground := Ground.guard }], guard := some (9, true) } : Oper)) rfl (fun KK hKK => ?_) AllReadyH.nil
              (go_simp; (with_reducible refine (AW.out _).mono ?_); rintro e0 w3 ⟨rfl, hb3⟩)
              refine hKK.out _ _ (by first | exact ⟨XL.out.drew, (Below.refl _ _).drew⟩ | exact ⟨hH2.1.below hb3, hH2.2.trans (hb3.mono hH2.2.size)⟩ | exact hH2) (fun hH3 => ?_)
              clear hKK KK hH2
              try simp only [Act.put, List.setIfInBounds_toArray, List.set_cons_zero, List.set_cons_succ]
              refine wpAnyH_take (i := 11) (oi := ({ dst := some 99, op := Op.pick (Operand.tmp 97) (Operand.tmp 98) (Operand.const (Value.bool false)), type := 4, pos := "law.go:80", after := #[{ on := 9, ground := Ground.data }, { on := 10, ground := Ground.data }], guard := none } : Oper)) (v := ?hv27) rfl (by kernel_rfl) (by kernel_rfl) (by kernel_rfl) (fun _ _ _ h => h) (Or.inl ⟨by rfl, ?hy27⟩) (by assumption) ?hr27
              case hy27 => (intro w hSw; (try dsimp only at hSw); go_simp; (try with_reducible rfl))
              try simp only [Act.put, List.setIfInBounds_toArray, List.set_cons_zero, List.set_cons_succ]
              refine wpAnyH_take (i := 12) (oi := ({ dst := some 6, op := Op.assign (Operand.tmp 99), type := 4, pos := "law.go:80", after := #[{ on := 11, ground := Ground.data }, { on := 10, ground := Ground.chain }, { on := 0, ground := Ground.phase }, { on := 1, ground := Ground.phase }, { on := 2, ground := Ground.phase }, { on := 3, ground := Ground.phase }, { on := 4, ground := Ground.phase }, { on := 5, ground := Ground.phase }, { on := 6, ground := Ground.phase }, { on := 7, ground := Ground.phase }, { on := 8, ground := Ground.phase }, { on := 9, ground := Ground.phase }, { on := 10, ground := Ground.phase }, { on := 11, ground := Ground.phase }], guard := none } : Oper)) (v := ?hv28) rfl (by kernel_rfl) (by kernel_rfl) (by kernel_rfl) (fun _ _ _ h => h) (Or.inl ⟨by rfl, ?hy28⟩) (by assumption) ?hr28
              case hy28 => (intro w hSw; (try dsimp only at hSw); go_simp; (try with_reducible rfl))
              try simp only [Act.put, List.setIfInBounds_toArray, List.set_cons_zero, List.set_cons_succ]
              refine wpAnyH_done (by kernel_rfl) ?_ _
              have hBl := hH3.2
              clear hH3
              go_wp2
              go_ret
              exact ⟨rfl, BL.out.trans (hBl.mono HSl.out)⟩
      · obtain rfl := HR2.out rfl
        clear HR1 HR2 HR3
        go_upto_region 13 with (first
          | (go_at_call 14; (with_reducible refine (O14.out _ BT.out).mono ?_); rintro e w1 ⟨⟨a1, rfl, hc1⟩, hb1⟩; have X1 := Lib.hid (XW.out.below hb1); have B1 := Lib.hid (BT.out.trans (hb1.mono BT.out.size)); clear hc1 hb1)
          | (refine store_mid_as rfl 28 _ _ rfl w1.heap.size 0 (cells Ck a1).toArray rfl rfl (Blk.there (n := 16) (blk_new w1 c16 28) (by decide)) size28c (ctc_one _ _) ?_; intro u qw5; have HX : Hid (Blk u be (cellsE m) 39) := Lib.hid (by rw [qw5]; exact (X1.out.alloc _).otherAll _ _ _ (by have := X1.out.lt; omega)); have B6 : Hid (Below w.heap.size w u) := Lib.hid (by rw [qw5]; exact below_setAll B1.out.size _ _ _ (B1.out.alloc B1.out.size _)); clear qw5))
        have HE := Lib.hid (H.out.below B6.out)
        have HCm := Lib.hid (HC.out.below B6.out)
        have hnil := HN.out
        obtain ⟨i0, hi, hz0, hz1, hz2⟩ := info_parts info39
        have HI := Lib.hid (And.intro hi (And.intro hz0 (And.intro hz1 hz2)))
        clear hi hz0 hz1 hz2
        go_cut [11] from 66 to 71 (fun s11 wx => Longer u kk (addE kk E m) s11 wx)
        case first =>
          refine wp_region_held_drew (S := (fun w' => Blk w' be (cellsE m) 39 ∧ Below u.heap.size u w')) (by kernel_rfl) (⟨HX.out.drew, (Below.refl _ _).drew⟩) (fun hH0 => ?_)
          generalize u.drew = y0 at hH0 ⊢
          have RX0 : Hid (Blk y0 be (cellsE m) 39) := Lib.hid hH0.1
          have RB0 : Hid (Below u.heap.size u y0) := Lib.hid hH0.2
          refine wpAnyH_take (i := 1) (oi := ({ dst := some 67, op := Op.move (Operand.tmp 0), type := 32, pos := "law.go:76", after := #[], guard := none } : Oper)) (v := ?hv5) rfl (by kernel_rfl) (by kernel_rfl) (by kernel_rfl) (fun _ _ _ h => h) (Or.inl ⟨by rfl, ?hy5⟩) (by assumption) ?hr5
          case hy5 => (intro w hSw; (try dsimp only at hSw); go_simp; (try with_reducible rfl))
          try simp only [Act.put, List.setIfInBounds_toArray, List.set_cons_zero, List.set_cons_succ]
          refine wpAnyH_take (i := 3) (oi := ({ dst := some 69, op := Op.load 39 (Operand.tmp 4), type := 39, pos := "law.go:76", after := #[], guard := none } : Oper)) (v := .agg (cellsE m).toArray) rfl (by kernel_rfl) (by kernel_rfl) (by kernel_rfl) (fun _ _ _ h => h) (yieldsIf_load_mid (by rfl) 39 _ rfl be 0 rfl (cellsE m) _ (fun w hw => hw.1.range) Try.underlying39 rfl size39) (by assumption) ?_
          try simp only [Act.put, List.setIfInBounds_toArray, List.set_cons_zero, List.set_cons_succ]
          refine wpAnyH_ready (rs := [0, 4]) (by kernel_rfl) (by simp) ?_
          refine AllReadyH.cons (o := ({ dst := some 66, op := Op.buildSlice 32 0 #[], type := 32, pos := "law.go:76", after := #[], guard := none } : Oper)) rfl (fun KK hKK => ?_) ?_
          · go_simp
            generalize hy1 : World.alloc _ _ = y1
            generalize hg0 : (World.heap y0).size = g0
            have RX1 : Hid (Blk y1 be (cellsE m) 39) := Lib.hid (by rw [← hy1]; exact RX0.out.alloc _)
            have RB1 : Hid (Below u.heap.size u y1) := Lib.hid (by rw [← hy1]; exact RB0.out.alloc RB0.out.size _)
            have RO1 : Hid (y1.ownsRow u.heap.size 39 29 (.slice (some ⟨g0, 0, none⟩) 0 0) 0 []) := Lib.hid (by rw [← hy1, ← hg0]; exact World.ownsRow_made (base := u.heap.size) (e := 39) (size := 29) _ #[] 0 RB0.out.size (by decide) (by simp))
            clear hy1 hg0
            refine hKK.out _ _ (⟨RX1.out, RB1.out⟩) (fun hH1 => ?_)
            clear hKK KK
            try simp only [Act.put, List.setIfInBounds_toArray, List.set_cons_zero, List.set_cons_succ]
            refine wpAnyH_ready (rs := [2, 4]) (by kernel_rfl) (by simp) ?_
            refine AllReadyH.cons (o := ({ dst := some 68, op := Op.call { callee := Callee.builtin Builtin.append, args := #[Operand.tmp 66, Operand.tmp 67], argTypes := #[32, 32] }, type := 32, pos := "law.go:76", after := #[{ on := 0, ground := Ground.data }, { on := 1, ground := Ground.data }], guard := none } : Oper)) rfl (fun KK hKK => ?_) ?_
            · have RS := Lib.hid ((Evx.rws (HE.out.below RB1.out) hnil).src)
              refine step_append_any _ rfl (.tmp 66) (.tmp 67) 32 rfl u.heap.size 39 i0 _ 29 376 Try.underlying32 HI.out.1 HI.out.2.1 HI.out.2.2.1 HI.out.2.2.2 rfl (by decide) (.slice (some ⟨g0, 0, none⟩) 0 0) 0 [] rfl RO1.out A kk c (flat kk (fun j => cellsE (E j))) rfl RS.out (by unfold maxLen; omega) (by omega) RB1.out.size ?_
              intro v3 y2 hgr
              have RB2 : Hid (Below u.heap.size u y2) := Lib.hid (hgr.below RB1.out RO1.out)
              have RV2 := Lib.hid hgr.own
              have RX2 : Hid (Blk y2 be (cellsE m) 39) := Lib.hid (HX.out.below RB2.out)
              clear hgr
              refine hKK.out _ _ (⟨RX2.out, RB2.out⟩) (fun hH2 => ?_)
              clear hKK KK
              try simp only [Act.put, List.setIfInBounds_toArray, List.set_cons_zero, List.set_cons_succ]
              refine wpAnyH_ready (rs := [4]) (by kernel_rfl) (by simp) ?_
              refine AllReadyH.cons (o := ({ dst := some 70, op := Op.buildSlice 32 1 #[(0, Operand.tmp 69)], type := 32, pos := "law.go:76", after := #[{ on := 3, ground := Ground.data }], guard := none } : Oper)) rfl (fun KK hKK => ?_) AllReadyH.nil
              go_simp
              generalize hy3 : World.alloc _ _ = y3
              generalize hg4 : (World.heap y2).size = g4
              have RX3 : Hid (Blk y3 be (cellsE m) 39) := Lib.hid (by rw [← hy3]; exact RX2.out.alloc _)
              have RB3 : Hid (Below u.heap.size u y3) := Lib.hid (by rw [← hy3]; exact RB2.out.alloc RB2.out.size _)
              have RG3 : Hid (Blk y3 g4 (cellsE m) 39) := Lib.hid (by rw [← hy3, ← hg4]; exact blk_new _ (cellsE m) 39)
              have RV3 : Hid (y3.ownsRow u.heap.size 39 29 v3 (0 + kk) ([] ++ (flat kk (fun j => cellsE (E j))))) := Lib.hid (by rw [← hy3]; exact RV2.out.alloc _)
              clear hy3 hg4
              refine hKK.out _ _ (⟨RX3.out, RB3.out⟩) (fun hH3 => ?_)
              clear hKK KK
              try simp only [Act.put, List.setIfInBounds_toArray, List.set_cons_zero, List.set_cons_succ]
              refine wpAnyH_ready (rs := [5]) (by kernel_rfl) (by simp) ?_
              refine AllReadyH.cons (o := ({ dst := some 71, op := Op.call { callee := Callee.builtin Builtin.append, args := #[Operand.tmp 68, Operand.tmp 70], argTypes := #[32, 32] }, type := 32, pos := "law.go:76", after := #[{ on := 2, ground := Ground.data }, { on := 4, ground := Ground.data }, { on := 2, ground := Ground.chain }], guard := none } : Oper)) rfl (fun KK hKK => ?_) AllReadyH.nil
              refine step_append_any _ rfl (.tmp 68) (.tmp 70) 32 rfl u.heap.size 39 i0 _ 29 376 Try.underlying32 HI.out.1 HI.out.2.1 HI.out.2.2.1 HI.out.2.2.2 rfl (by decide) v3 _ _ rfl RV3.out (some ⟨g4, 0, none⟩) 1 1 (cellsE m) rfl (src_row RG3.out 29 rfl (cellsE_one m)) (by unfold maxLen; omega) (by omega) RB3.out.size ?_
              intro v5 y4 hgr
              have RB4 : Hid (Below u.heap.size u y4) := Lib.hid (hgr.below RB3.out RV3.out)
              have RX4 : Hid (Blk y4 be (cellsE m) 39) := Lib.hid (HX.out.below RB4.out)
              obtain ⟨A5, c5, e5, hE5⟩ := ev_snoc (by omega) HE.out.wf HWm.out (HE.out.below RB4.out).ct (HCm.out.below RB4.out) hgr.own
              subst e5
              have RE := Lib.hid hE5
              clear hgr hE5
              refine hKK.out _ _ (⟨RX4.out, RB4.out⟩) (fun hH4 => ?_)
              clear hKK KK
              try simp only [Act.put, List.setIfInBounds_toArray, List.set_cons_zero, List.set_cons_succ]
              refine wpAnyH_take (i := 6) (oi := ({ dst := some 11, op := Op.assign (Operand.tmp 71), type := 32, pos := "law.go:76", after := #[{ on := 5, ground := Ground.data }, { on := 5, ground := Ground.chain }, { on := 0, ground := Ground.phase }, { on := 1, ground := Ground.phase }, { on := 2, ground := Ground.phase }, { on := 3, ground := Ground.phase }, { on := 4, ground := Ground.phase }, { on := 5, ground := Ground.phase }], guard := none } : Oper)) (v := ?hv6) rfl (by kernel_rfl) (by kernel_rfl) (by kernel_rfl) (fun _ _ _ h => h) (Or.inl ⟨by rfl, ?hy6⟩) (by assumption) ?hr6
              case hy6 => (intro w hSw; (try dsimp only at hSw); go_simp; (try with_reducible rfl))
              try simp only [Act.put, List.setIfInBounds_toArray, List.set_cons_zero, List.set_cons_succ]
              refine wpAnyH_done (by kernel_rfl) ?_ _
              go_wp2
              go_meet
              refine ⟨A5, c5, rfl, ?_, ?_⟩
              · exact RE.out
              · exact RB4.out
            refine AllReadyH.cons (o := ({ dst := some 70, op := Op.buildSlice 32 1 #[(0, Operand.tmp 69)], type := 32, pos := "law.go:76", after := #[{ on := 3, ground := Ground.data }], guard := none } : Oper)) rfl (fun KK hKK => ?_) AllReadyH.nil
            go_simp
            generalize hy2 : World.alloc _ _ = y2
            generalize hg4 : (World.heap y1).size = g4
            have RX2 : Hid (Blk y2 be (cellsE m) 39) := Lib.hid (by rw [← hy2]; exact RX1.out.alloc _)
            have RB2 : Hid (Below u.heap.size u y2) := Lib.hid (by rw [← hy2]; exact RB1.out.alloc RB1.out.size _)
            have RG2 : Hid (Blk y2 g4 (cellsE m) 39) := Lib.hid (by rw [← hy2, ← hg4]; exact blk_new _ (cellsE m) 39)
            have RO2 : Hid (y2.ownsRow u.heap.size 39 29 (.slice (some ⟨g0, 0, none⟩) 0 0) 0 []) := Lib.hid (by rw [← hy2]; exact RO1.out.alloc _)
            have RN : g4 ≠ g0 := by have := (RO1.out.lt g0 rfl).2; omega
            clear hy2 hg4
            refine hKK.out _ _ (⟨RX2.out, RB2.out⟩) (fun hH2 => ?_)
            clear hKK KK
            try simp only [Act.put, List.setIfInBounds_toArray, List.set_cons_zero, List.set_cons_succ]
            refine wpAnyH_ready (rs := [2]) (by kernel_rfl) (by simp) ?_
            refine AllReadyH.cons (o := ({ dst := some 68, op := Op.call { callee := Callee.builtin Builtin.append, args := #[Operand.tmp 66, Operand.tmp 67], argTypes := #[32, 32] }, type := 32, pos := "law.go:76", after := #[{ on := 0, ground := Ground.data }, { on := 1, ground := Ground.data }], guard := none } : Oper)) rfl (fun KK hKK => ?_) AllReadyH.nil
            have RS := Lib.hid ((Evx.rws (HE.out.below RB2.out) hnil).src)
            refine step_append_any _ rfl (.tmp 66) (.tmp 67) 32 rfl u.heap.size 39 i0 _ 29 376 Try.underlying32 HI.out.1 HI.out.2.1 HI.out.2.2.1 HI.out.2.2.2 rfl (by decide) (.slice (some ⟨g0, 0, none⟩) 0 0) 0 [] rfl RO2.out A kk c (flat kk (fun j => cellsE (E j))) rfl RS.out (by unfold maxLen; omega) (by omega) RB2.out.size ?_
            intro v3 y3 hgr
            have RB3 : Hid (Below u.heap.size u y3) := Lib.hid (hgr.below RB2.out RO2.out)
            have RV3 := Lib.hid hgr.own
            have RX3 : Hid (Blk y3 be (cellsE m) 39) := Lib.hid (HX.out.below RB3.out)
            have RG3 : Hid (Blk y3 g4 (cellsE m) 39) := Lib.hid ⟨(hgr.grow.block g4 RG2.out.lt (by simp [Value.ownBlock]; omega)).trans RG2.out.heap⟩
            clear hgr
            refine hKK.out _ _ (⟨RX3.out, RB3.out⟩) (fun hH3 => ?_)
            clear hKK KK
            try simp only [Act.put, List.setIfInBounds_toArray, List.set_cons_zero, List.set_cons_succ]
            refine wpAnyH_ready (rs := [5]) (by kernel_rfl) (by simp) ?_
            refine AllReadyH.cons (o := ({ dst := some 71, op := Op.call { callee := Callee.builtin Builtin.append, args := #[Operand.tmp 68, Operand.tmp 70], argTypes := #[32, 32] }, type := 32, pos := "law.go:76", after := #[{ on := 2, ground := Ground.data }, { on := 4, ground := Ground.data }, { on := 2, ground := Ground.chain }], guard := none } : Oper)) rfl (fun KK hKK => ?_) AllReadyH.nil
            refine step_append_any _ rfl (.tmp 68) (.tmp 70) 32 rfl u.heap.size 39 i0 _ 29 376 Try.underlying32 HI.out.1 HI.out.2.1 HI.out.2.2.1 HI.out.2.2.2 rfl (by decide) v3 _ _ rfl RV3.out (some ⟨g4, 0, none⟩) 1 1 (cellsE m) rfl (src_row RG3.out 29 rfl (cellsE_one m)) (by unfold maxLen; omega) (by omega) RB3.out.size ?_
            intro v5 y4 hgr
            have RB4 : Hid (Below u.heap.size u y4) := Lib.hid (hgr.below RB3.out RV3.out)
            have RX4 : Hid (Blk y4 be (cellsE m) 39) := Lib.hid (HX.out.below RB4.out)
            obtain ⟨A5, c5, e5, hE5⟩ := ev_snoc (by omega) HE.out.wf HWm.out (HE.out.below RB4.out).ct (HCm.out.below RB4.out) hgr.own
            subst e5
            have RE := Lib.hid hE5
            clear hgr hE5
            refine hKK.out _ _ (⟨RX4.out, RB4.out⟩) (fun hH4 => ?_)
            clear hKK KK
            try simp only [Act.put, List.setIfInBounds_toArray, List.set_cons_zero, List.set_cons_succ]
            refine wpAnyH_take (i := 6) (oi := ({ dst := some 11, op := Op.assign (Operand.tmp 71), type := 32, pos := "law.go:76", after := #[{ on := 5, ground := Ground.data }, { on := 5, ground := Ground.chain }, { on := 0, ground := Ground.phase }, { on := 1, ground := Ground.phase }, { on := 2, ground := Ground.phase }, { on := 3, ground := Ground.phase }, { on := 4, ground := Ground.phase }, { on := 5, ground := Ground.phase }], guard := none } : Oper)) (v := ?hv7) rfl (by kernel_rfl) (by kernel_rfl) (by kernel_rfl) (fun _ _ _ h => h) (Or.inl ⟨by rfl, ?hy7⟩) (by assumption) ?hr7
            case hy7 => (intro w hSw; (try dsimp only at hSw); go_simp; (try with_reducible rfl))
            try simp only [Act.put, List.setIfInBounds_toArray, List.set_cons_zero, List.set_cons_succ]
            refine wpAnyH_done (by kernel_rfl) ?_ _
            go_wp2
            go_meet
            refine ⟨A5, c5, rfl, ?_, ?_⟩
            · exact RE.out
            · exact RB4.out
          refine AllReadyH.cons (o := ({ dst := some 70, op := Op.buildSlice 32 1 #[(0, Operand.tmp 69)], type := 32, pos := "law.go:76", after := #[{ on := 3, ground := Ground.data }], guard := none } : Oper)) rfl (fun KK hKK => ?_) AllReadyH.nil
          go_simp
          generalize hy1 : World.alloc _ _ = y1
          generalize hg4 : (World.heap y0).size = g4
          have RX1 : Hid (Blk y1 be (cellsE m) 39) := Lib.hid (by rw [← hy1]; exact RX0.out.alloc _)
          have RB1 : Hid (Below u.heap.size u y1) := Lib.hid (by rw [← hy1]; exact RB0.out.alloc RB0.out.size _)
          have RG1 : Hid (Blk y1 g4 (cellsE m) 39) := Lib.hid (by rw [← hy1, ← hg4]; exact blk_new _ (cellsE m) 39)
          clear hy1 hg4
          refine hKK.out _ _ (⟨RX1.out, RB1.out⟩) (fun hH1 => ?_)
          clear hKK KK
          try simp only [Act.put, List.setIfInBounds_toArray, List.set_cons_zero, List.set_cons_succ]
          refine wpAnyH_ready (rs := [0]) (by kernel_rfl) (by simp) ?_
          refine AllReadyH.cons (o := ({ dst := some 66, op := Op.buildSlice 32 0 #[], type := 32, pos := "law.go:76", after := #[], guard := none } : Oper)) rfl (fun KK hKK => ?_) AllReadyH.nil
          go_simp
          generalize hy2 : World.alloc _ _ = y2
          generalize hg0 : (World.heap y1).size = g0
          have RX2 : Hid (Blk y2 be (cellsE m) 39) := Lib.hid (by rw [← hy2]; exact RX1.out.alloc _)
          have RB2 : Hid (Below u.heap.size u y2) := Lib.hid (by rw [← hy2]; exact RB1.out.alloc RB1.out.size _)
          have RO2 : Hid (y2.ownsRow u.heap.size 39 29 (.slice (some ⟨g0, 0, none⟩) 0 0) 0 []) := Lib.hid (by rw [← hy2, ← hg0]; exact World.ownsRow_made (base := u.heap.size) (e := 39) (size := 29) _ #[] 0 RB1.out.size (by decide) (by simp))
          have RG2 : Hid (Blk y2 g4 (cellsE m) 39) := Lib.hid (by rw [← hy2]; exact RG1.out.alloc _)
          have RN : g4 ≠ g0 := by have := RG1.out.lt; omega
          clear hy2 hg0
          refine hKK.out _ _ (⟨RX2.out, RB2.out⟩) (fun hH2 => ?_)
          clear hKK KK
          try simp only [Act.put, List.setIfInBounds_toArray, List.set_cons_zero, List.set_cons_succ]
          refine wpAnyH_ready (rs := [2]) (by kernel_rfl) (by simp) ?_
          refine AllReadyH.cons (o := ({ dst := some 68, op := Op.call { callee := Callee.builtin Builtin.append, args := #[Operand.tmp 66, Operand.tmp 67], argTypes := #[32, 32] }, type := 32, pos := "law.go:76", after := #[{ on := 0, ground := Ground.data }, { on := 1, ground := Ground.data }], guard := none } : Oper)) rfl (fun KK hKK => ?_) AllReadyH.nil
          have RS := Lib.hid ((Evx.rws (HE.out.below RB2.out) hnil).src)
          refine step_append_any _ rfl (.tmp 66) (.tmp 67) 32 rfl u.heap.size 39 i0 _ 29 376 Try.underlying32 HI.out.1 HI.out.2.1 HI.out.2.2.1 HI.out.2.2.2 rfl (by decide) (.slice (some ⟨g0, 0, none⟩) 0 0) 0 [] rfl RO2.out A kk c (flat kk (fun j => cellsE (E j))) rfl RS.out (by unfold maxLen; omega) (by omega) RB2.out.size ?_
          intro v3 y3 hgr
          have RB3 : Hid (Below u.heap.size u y3) := Lib.hid (hgr.below RB2.out RO2.out)
          have RV3 := Lib.hid hgr.own
          have RX3 : Hid (Blk y3 be (cellsE m) 39) := Lib.hid (HX.out.below RB3.out)
          have RG3 : Hid (Blk y3 g4 (cellsE m) 39) := Lib.hid ⟨(hgr.grow.block g4 RG2.out.lt (by simp [Value.ownBlock]; omega)).trans RG2.out.heap⟩
          clear hgr
          refine hKK.out _ _ (⟨RX3.out, RB3.out⟩) (fun hH3 => ?_)
          clear hKK KK
          try simp only [Act.put, List.setIfInBounds_toArray, List.set_cons_zero, List.set_cons_succ]
          refine wpAnyH_ready (rs := [5]) (by kernel_rfl) (by simp) ?_
          refine AllReadyH.cons (o := ({ dst := some 71, op := Op.call { callee := Callee.builtin Builtin.append, args := #[Operand.tmp 68, Operand.tmp 70], argTypes := #[32, 32] }, type := 32, pos := "law.go:76", after := #[{ on := 2, ground := Ground.data }, { on := 4, ground := Ground.data }, { on := 2, ground := Ground.chain }], guard := none } : Oper)) rfl (fun KK hKK => ?_) AllReadyH.nil
          refine step_append_any _ rfl (.tmp 68) (.tmp 70) 32 rfl u.heap.size 39 i0 _ 29 376 Try.underlying32 HI.out.1 HI.out.2.1 HI.out.2.2.1 HI.out.2.2.2 rfl (by decide) v3 _ _ rfl RV3.out (some ⟨g4, 0, none⟩) 1 1 (cellsE m) rfl (src_row RG3.out 29 rfl (cellsE_one m)) (by unfold maxLen; omega) (by omega) RB3.out.size ?_
          intro v5 y4 hgr
          have RB4 : Hid (Below u.heap.size u y4) := Lib.hid (hgr.below RB3.out RV3.out)
          have RX4 : Hid (Blk y4 be (cellsE m) 39) := Lib.hid (HX.out.below RB4.out)
          obtain ⟨A5, c5, e5, hE5⟩ := ev_snoc (by omega) HE.out.wf HWm.out (HE.out.below RB4.out).ct (HCm.out.below RB4.out) hgr.own
          subst e5
          have RE := Lib.hid hE5
          clear hgr hE5
          refine hKK.out _ _ (⟨RX4.out, RB4.out⟩) (fun hH4 => ?_)
          clear hKK KK
          try simp only [Act.put, List.setIfInBounds_toArray, List.set_cons_zero, List.set_cons_succ]
          refine wpAnyH_take (i := 6) (oi := ({ dst := some 11, op := Op.assign (Operand.tmp 71), type := 32, pos := "law.go:76", after := #[{ on := 5, ground := Ground.data }, { on := 5, ground := Ground.chain }, { on := 0, ground := Ground.phase }, { on := 1, ground := Ground.phase }, { on := 2, ground := Ground.phase }, { on := 3, ground := Ground.phase }, { on := 4, ground := Ground.phase }, { on := 5, ground := Ground.phase }], guard := none } : Oper)) (v := ?hv8) rfl (by kernel_rfl) (by kernel_rfl) (by kernel_rfl) (fun _ _ _ h => h) (Or.inl ⟨by rfl, ?hy8⟩) (by assumption) ?hr8
          case hy8 => (intro w hSw; (try dsimp only at hSw); go_simp; (try with_reducible rfl))
          try simp only [Act.put, List.setIfInBounds_toArray, List.set_cons_zero, List.set_cons_succ]
          refine wpAnyH_done (by kernel_rfl) ?_ _
          go_wp2
          go_meet
          refine ⟨A5, c5, rfl, ?_, ?_⟩
          · exact RE.out
          · exact RB4.out
        case rest =>
          obtain ⟨A', c', rfl, hE', hbl⟩ := hcut
          obtain ⟨wl, rfl⟩ : ∃ x : World, x = wc := ⟨_, rfl⟩
          have BL := Lib.hid (B6.out.trans (hbl.mono B6.out.size))
          have MB := Lib.hid (fun u hb => M17b.out A' c' wl hE' u hb)
          clear hE' hbl M17b HX B6
          go_wp2_with (first
            | (go_at_call 17; (with_reducible refine (MB.out _ (Below.refl _ _)).mono ?_); rintro e u7 ⟨rfl, hb7⟩; have B7 := Lib.hid (BL.out.trans (hb7.mono BL.out.size)); clear hb7)
            | (go_at_call 17; (with_reducible refine (M17.out _ B7.out).mono ?_); rintro e u8 ⟨rfl, hb8⟩; have B8 := Lib.hid (B7.out.trans (hb8.mono B7.out.size)); clear hb8)
            | (go_at_call 8; (with_reducible refine (AW.out _).mono ?_); rintro e u9 ⟨rfl, hb9⟩))
          go_ret
          exact ⟨rfl, B8.out.trans (hb9.mono B8.out.size)⟩
end Go.Proofs.Ytokofmolbdpklaa
