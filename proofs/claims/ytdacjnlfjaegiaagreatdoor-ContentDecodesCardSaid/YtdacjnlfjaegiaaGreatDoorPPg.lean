/- ContentDecodes: its walk. Bounds: as the statement says. No condition. -/
import Derived.Test.YtdacjnlfjaegiaaGreatDoorPK36
import Derived.Test.YtdacjnlfjaegiaaGreatDoorPK37
import Derived.Test.YtdacjnlfjaegiaaGreatDoorPK53
import Derived.OpenShut
namespace Go.Proofs.YtdacjnlfjaegiaaGreatDoor
open Go Go.RowKit
set_option linter.unusedVariables false
set_option linter.unusedSimpArgs false
set_option maxRecDepth 100000

theorem gtkB_shape (z : List Int) (f : Bool) : ∃ (x : Bool) (z' : List Int) (f' : Bool), gtk Cd.gb (.bool false) z f = (.bool x, z', f') := by
  unfold gtk
  cases f with
  | true => exact ⟨_, _, _, rfl⟩
  | false =>
    rw [if_neg (by decide), gb_gbb]
    cases gbb z with
    | none => exact ⟨_, _, _, rfl⟩
    | some p => exact ⟨_, _, _, rfl⟩
theorem ccs_one (C : Cn) (a : Ads) : (ccs C a).toArray.all (·.oneCell') = true := by simp [Value.oneCell']
theorem dcg_two {r : Option Cn} {C D : Cn} (h1 : r = some C ∨ r = none ∧ C = c0) (h2 : r = some D ∨ r = none ∧ D = c0) : C = D := by
  rcases h1 with h1 | ⟨h1, h3⟩ <;> rcases h2 with h2 | ⟨h2, h4⟩
  · exact Option.some.inj (h1.symm.trans h2)
  · rw [h1] at h2; cases h2
  · rw [h1] at h2; cases h2
  · rw [h3, h4]
set_option maxHeartbeats 16000000 in
theorem decodes_walk (A : Option Addr) (cc : Nat) (zs : List Int) (w : World) (h : Cd.Sl w A zs.length cc zs) (hl : Lt w) : Calls Tryz.prog 8 #[.slice A zs.length cc] w fun e w' => e = .returned (.bool true) ∧ Below w.heap.size w w' := by
  have HH := Lib.hid h
  have HL := Lib.hid hl
  have hle := h.le
  clear h hl hle
  by_cases hb : 3000 < zs.length
  · have hz : (3000 : Int) < (zs.length : Int) := by omega
    clear hb
    go_enter Tryz.func8, Tryz.ntmps8
    go_wp2
    go_ret
    exact ⟨rfl, Below.refl _ _⟩
  · have hz : ¬ (3000 : Int) < (zs.length : Int) := by omega
    have HZ := Lib.hid (show BZ zs from ⟨HH.out.bd, by omega⟩)
    clear hb
    obtain ⟨r, HD, HR⟩ : ∃ r : Option Cn, Hid (∀ y, Below w.heap.size w y → Calls Tryz.prog 30 #[.slice A zs.length cc] y (DcG r y)) ∧ Hid (∀ y, Below w.heap.size w y → Calls Tryz.prog 32 #[.slice A zs.length cc] y (DcG r y)) := by
      obtain ⟨x0, z1, f1, e0⟩ : ∃ x z f, gtkT zs false = (x, z, f) := ⟨_, _, _, rfl⟩
      obtain ⟨x1, z2, f2, e1⟩ : ∃ x z f, gtkI z1 f1 = (x, z, f) := ⟨_, _, _, rfl⟩
      obtain ⟨x2, z3, f3, e2⟩ : ∃ x z f, gtkI z2 f2 = (x, z, f) := ⟨_, _, _, rfl⟩
      obtain ⟨x3, z4, f4, e3⟩ : ∃ (x : Bool) (z : List Int) (f : Bool), gtk Cd.gb (.bool false) z3 f3 = (.bool x, z, f) := gtkB_shape z3 f3
      obtain ⟨x4, z5, f5, e4⟩ : ∃ x z f, gtkT z4 f4 = (x, z, f) := ⟨_, _, _, rfl⟩
      obtain ⟨x5, z6, f6, e5⟩ : ∃ x z f, gtkL z5 f5 = (x, z, f) := ⟨_, _, _, rfl⟩
      obtain ⟨x6, z7, f7, e6⟩ : ∃ x z f, gtkL z6 f6 = (x, z, f) := ⟨_, _, _, rfl⟩
      exact ⟨dcE x0 x1 x2 x3 x4 x5 x6 (dcL z7 f7), Lib.hid (fun y hb => decode30 zs z1 z2 z3 z4 z5 z6 z7 f1 f2 f3 f4 f5 f6 f7 x0 x4 x1 x2 x3 x5 x6 e0 e1 e2 e3 e4 e5 e6 HZ.out A cc y (HH.out.below hb)), Lib.hid (fun y hb => rdecode32 zs z1 z2 z3 z4 z5 z6 z7 f1 f2 f3 f4 f5 f6 f7 x0 x4 x1 x2 x3 x5 x6 e0 e1 e2 e3 e4 e5 e6 HZ.out A cc y (HH.out.below hb))⟩
    clear HH HZ
    obtain ⟨q, hq⟩ : ∃ q : Bool, r.isSome = q := ⟨_, rfl⟩
    have HQ := Lib.hid hq
    have e0 : (q == q) = true := by cases q <;> rfl
    clear hq
    go_enter Tryz.func8, Tryz.ntmps8
    go_upto_region 5 with (first
      | (go_at_call 30; (with_reducible refine (HD.out w (Below.refl _ _)).mono ?_); rintro e w1 ⟨C, aL, rfl, hi, hb, hr⟩; have I1 := Lib.hid hi; have B1 := Lib.hid hb; have RC := Lib.hid hr; clear hi hb hr HD; rw [HQ.out])
      | (refine store_as rfl 29 _ _ rfl [.string ⟨#[]⟩, .int .i64 0, .int .i64 0, .bool false, .string ⟨#[]⟩, .slice none 0 0, .slice none 0 0, .slice none 0 0, .slice none 0 0, .int .i64 0, .int .i64 0, .int .i64 0, .int .i64 0, .int .i64 0, .int .i64 0, .int .i64 0] (ccs C aL) rfl rfl rfl size29 (ccs_one _ _) ?_; intro w2 hx hb; have X2 := Lib.hid hx; have I2 := Lib.hid (I1.out.below hb); have B2 := Lib.hid (B1.out.trans (hb.mono B1.out.size)); clear hx hb I1)
      | (go_at_call 32; (with_reducible refine (HR.out w2 B2.out).mono ?_); rintro e w3 ⟨D, aM, rfl, hi, hb, hr⟩; obtain rfl : C = D := dcg_two RC.out hr; have J3 := Lib.hid hi; have I3 := Lib.hid (I2.out.below hb); have X3 := Lib.hid (X2.out.below hb); have B3 := Lib.hid (B2.out.trans (hb.mono B2.out.size)); clear hi hb hr HR RC I2 X2; rw [HQ.out])
      | (refine store_as rfl 29 _ _ rfl [.string ⟨#[]⟩, .int .i64 0, .int .i64 0, .bool false, .string ⟨#[]⟩, .slice none 0 0, .slice none 0 0, .slice none 0 0, .slice none 0 0, .int .i64 0, .int .i64 0, .int .i64 0, .int .i64 0, .int .i64 0, .int .i64 0, .int .i64 0] (ccs C aM) rfl rfl rfl size29 (ccs_one _ _) ?_; intro w4 hx hb; have Y4 := Lib.hid hx; have X4 := Lib.hid (X3.out.below hb); have I4 := Lib.hid (I3.out.below hb); have J4 := Lib.hid (J3.out.below hb); have B4 := Lib.hid (B3.out.trans (hb.mono B3.out.size)); clear hx hb I3 J3 X3)
      | fail)
    have HC := Lib.hid (fun y (hb : Below w4.heap.size w4 y) => same23r C aL aM y (I4.out.below hb) (J4.out.below hb))
    have HT := Lib.hid (HL.out.below B4.out)
    clear HL B1 B2 B3 HQ
    go_wp2_with (first
      | (refine load_mid_g (by first | rfl | (simp only [e0]; rfl)) 29 _ rfl w1.heap.size 0 rfl (ccs C aL) _ X4.out.range Tryz.underlying29 rfl size29 ?_)
      | (refine load_mid_g (by first | rfl | (simp only [e0]; rfl)) 29 _ rfl w3.heap.size 0 rfl (ccs C aM) _ Y4.out.range Tryz.underlying29 rfl size29 ?_)
      | (go_at_call 23; (with_reducible refine (HC.out w4 (Below.refl _ _)).mono ?_); rintro e w5 ⟨rfl, hb⟩; have B5 := Lib.hid (B4.out.trans (hb.mono B4.out.size)); have HT5 := Lib.hid (HT.out.below hb); clear hb)
      | (go_at_call 16; (with_reducible refine (live16 w5 HT5.out).mono ?_); rintro e w6 ⟨rfl, hb⟩; have B6 := Lib.hid (B5.out.trans (hb.mono B5.out.size)); clear hb)
      | fail)
    go_ret
    exact ⟨rfl, B6.out⟩
end Go.Proofs.YtdacjnlfjaegiaaGreatDoor
namespace Go.Proofs.YtdacjnlfjaegiaaGreatDoor
open Go.RowKit
set_option linter.unusedVariables false

/-- A slice of integers that came in: nil, or a row of `cap` cells with the numbers `zs`. -/
def IsRow (k : IntKind) (w : World) (a : Option Addr) (len cap : Nat) (zs : List Int) : Prop :=
  (a = none ∧ len = 0 ∧ cap = 0 ∧ zs = []) ∨
  ∃ x, a = some x ∧ len ≤ cap ∧ cap ≤ maxLen ∧ zs.length = cap ∧ (∀ i, i < zs.length → w.cell? (x.add i) = some (.int k (zs.getD i 0))) ∧ ∀ n ∈ zs, (Lit.int k n).wf = true

theorem sl_of_row {w : World} {a : Option Addr} {len cap : Nat} {zs : List Int} (h : IsRow .u8 w a len cap zs) : Cd.Sl w a len cap (zs.take len) := by
  rcases h with ⟨rfl, rfl, rfl, rfl⟩ | ⟨x, rfl, hl, hm, hz, hcell, hwz⟩
  · exact Cd.Sl.empty w none 0 (fun _ => rfl)
  · refine ⟨by rw [List.length_take]; omega, fun z hz' => bounds_u8 (hwz z (List.mem_of_mem_take hz')), hl, (fun h => by cases h), fun h0 => ?_⟩
    obtain ⟨b, off, rfl, hc⟩ := ints_at hcell (by omega)
    refine ⟨b, off, rfl, World.block_lt_of_cell? w ⟨b, off + 0, none⟩ (hc 0 (by omega)), fun i hi => ?_⟩
    rw [hc i (by omega)]
    congr 2
    rw [List.getD_eq_getElem?_getD, List.getD_eq_getElem?_getD, List.getElem?_take, if_pos hi]
end Go.Proofs.YtdacjnlfjaegiaaGreatDoor
