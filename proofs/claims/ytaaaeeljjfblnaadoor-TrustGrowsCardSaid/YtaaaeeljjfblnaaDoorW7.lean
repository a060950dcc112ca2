/- The helper lives of the statements on trust returns true. Condition: the listed table. -/
import Derived.Test.YtaaaeeljjfblnaaDoorW6
import Derived.Great.Walk
import Derived.Deep.RegionHeld3
import Derived.Deep.Cut
namespace Go.Proofs.YtaaaeeljjfblnaaDoor
open Go.RowKit
set_option linter.unusedVariables false
set_option linter.unusedSimpArgs false
set_option maxRecDepth 100000

abbrev bd : ByteArray := ⟨#[100]⟩
abbrev be : ByteArray := ⟨#[101]⟩
abbrev bf : ByteArray := ⟨#[102]⟩
abbrev bbe : ByteArray := ⟨#[64, 98, 58, 115, 47, 101]⟩
def DS : Nat → Dv
  | 0 => ⟨⟨#[100]⟩, 1, true⟩
  | _ => ⟨⟨#[101]⟩, 2, false⟩
def sk (A : Option Addr) : Ks := ⟨⟨#[64, 98, 58, 115]⟩, 9, 0, A, 2, 2, DS⟩
def ow : Ks := ⟨⟨#[64, 97, 58, 115]⟩, 0, 0, none, 0, 0, DS⟩
abbrev zK : List Value := [.string ⟨#[]⟩, .int .i64 0, .int .i64 0, .slice none 0 0]
abbrev c6 : List Value := [.string ⟨#[100]⟩, .int .i64 1, .bool true, .string ⟨#[101]⟩, .int .i64 2, .bool false]
theorem DS_dvs {w : World} {g : Nat} (h : Blk w g c6 43) : Dvs w (some ⟨g, 0, none⟩) 2 2 DS := by
  refine ⟨⟨fun j _ => rfl, fun j _ u hu => ?_, by unfold maxLen; omega, (fun e => by cases e), .inr ⟨g, 0, rfl, h.lt, fun j hj i v hv => ?_⟩⟩, fun j hj => ?_⟩
  · simp only [rowD, encD, List.mem_cons, List.not_mem_nil, or_false] at hu
    rcases hu with rfl | rfl | rfl <;> rfl
  · obtain rfl | rfl : j = 0 ∨ j = 1 := by omega
    · have hi : i < 3 := (List.getElem?_eq_some_iff.1 hv).1
      refine h.cell ?_
      rw [show 0 + 0 * 3 + i = i by omega, ← hv]
      obtain rfl | rfl | rfl : i = 0 ∨ i = 1 ∨ i = 2 := by omega
      all_goals rfl
    · have hi : i < 3 := (List.getElem?_eq_some_iff.1 hv).1
      refine h.cell ?_
      rw [show 0 + 1 * 3 + i = 3 + i by omega, ← hv]
      obtain rfl | rfl | rfl : i = 0 ∨ i = 1 ∨ i = 2 := by omega
      all_goals rfl
  · obtain rfl | rfl : j = 0 ∨ j = 1 := by omega
    · show (1 : Nat) ≤ 9223372036854775807; omega
    · show (1 : Nat) ≤ 9223372036854775807; omega
set_option maxHeartbeats 4000000 in
theorem sample21 (w : World) : Calls Tryd.prog 21 #[] w fun e w' => ∃ A, e = .returned (.agg (cellsK (sk A)).toArray) ∧ IsK w' (sk A) ∧ Below w.heap.size w w' := by
  have Y0 := Lib.hid ((blk_new w zK 24).alloc (.cells c6.toArray 43))
  have Y1 : Hid (Blk ((w.alloc (.cells zK.toArray 24)).alloc (.cells c6.toArray 43)) (w.heap.size + 1) c6 43) := Lib.hid (by
    have := blk_new (w.alloc (.cells zK.toArray 24)) c6 43
    rwa [show (w.alloc (.cells zK.toArray 24)).heap.size = w.heap.size + 1 by simp] at this)
  have B0 := Lib.hid (((Below.refl w.heap.size w).alloc (Nat.le_refl _) (.cells zK.toArray 24)).alloc (by simp) (.cells c6.toArray 43))
  go_enter Tryd.func21, Tryd.ntmps21
  go_wp2_with (refine wpList_store_mid rfl 24 _ _ rfl w.heap.size 0 (cellsK (sk (some ⟨w.heap.size + 1, 0, none⟩))).toArray rfl rfl (Blk.there (n := 4) Y0.out (by decide)) size24 (by simp [Value.oneCell']) ?_)
  (try simp only [Exit.inBlock, Exit.then])
  refine bodyPost_ret (results_cell_mid rfl _ _ w.heap.size (cellsK (sk (some ⟨w.heap.size + 1, 0, none⟩))) 24 _ rfl (Y0.out.setAll _ rfl) Tryd.underlying24 rfl size24) rfl ?_
  exact ⟨_, rfl, DS_dvs (Y1.out.otherAll _ _ _ (by omega)), below_setAll (Nat.le_refl _) _ _ _ B0.out⟩
theorem ints_nil (w : World) : Q.Ints w none 0 0 [] := ⟨rfl, Nat.le_refl _, by omega, fun _ => ⟨rfl, rfl⟩, .inl rfl⟩
theorem t1 (A : Option Addr) : tr ow (sk A) bd [] [] = 2 := by kernel_rfl
theorem t2 (A : Option Addr) : tr ow (sk A) bd [9] [] = 3 := by kernel_rfl
theorem t3 (A : Option Addr) : tr ow (sk A) be [] [] = 1 := by kernel_rfl
theorem t4 (A : Option Addr) : tr ow (sk A) bf [] [] = 0 := by kernel_rfl
theorem t5 (A : Option Addr) : tr ow (sk A) bd [] [⟨bbe⟩] = 2 := by kernel_rfl
theorem t6 (A : Option Addr) : tr ow (sk A) be [] [⟨bbe⟩] = 0 := by kernel_rfl
theorem l1 (A : Option Addr) : sndL ow (sk A) [] [] 2 = [⟨bd⟩, ⟨be⟩] := by kernel_rfl
theorem l3 (A : Option Addr) : sndL ow (sk A) [] [⟨bbe⟩] 2 = [⟨bd⟩] := by kernel_rfl
theorem sk_size (A : Option Addr) : ∀ j, j < (sk A).n → (sk A).us.size + 1 + ((sk A).D j).id.size ≤ 1000000 := by
  intro j hj
  have hj2 : j < 2 := hj
  obtain rfl | rfl : j = 0 ∨ j = 1 := by omega
  · show 4 + 1 + 1 ≤ 1000000; omega
  · show 4 + 1 + 1 ≤ 1000000; omega
theorem snd1 (A : Option Addr) (w : World) (hT : An w) (h : IsK w (sk A)) : Calls Tryd.prog 22 #[.agg (cellsK ow).toArray, .agg (cellsK (sk A)).toArray, .slice none 0 0, .slice none 0 0, .bool false] w fun e w' => (∃ A' c, e = .returned (.tuple #[.slice A' 2 c, .int .i64 0])) ∧ Below w.heap.size w w' :=
  (send22 ow (sk A) none none 0 0 0 0 [] [] false w hT h (ints_nil w) (T.Rcs.nil w) (sk_size A) (by show 2 ≤ 10000; omega)).mono fun e w' hp => by
    rcases hp with ⟨⟨⟨j, _, hj, _⟩, _⟩ | ⟨_, A', c, rfl, _⟩, hb⟩
    · cases hj
    · exact ⟨⟨A', c, by rw [show (sndL ow (sk A) [] [] (sk A).n).length = 2 by rw [show (sk A).n = 2 from rfl, l1]; rfl]⟩, hb⟩
theorem snd2 (A : Option Addr) (w : World) (hT : An w) (h : IsK w (sk A)) : Calls Tryd.prog 22 #[.agg (cellsK ow).toArray, .agg (cellsK (sk A)).toArray, .slice none 0 0, .slice none 0 0, .bool true] w fun e w' => e = .returned (.tuple #[.slice none 0 0, .int .i64 28]) ∧ Below w.heap.size w w' :=
  (send22 ow (sk A) none none 0 0 0 0 [] [] true w hT h (ints_nil w) (T.Rcs.nil w) (sk_size A) (by show 2 ≤ 10000; omega)).mono fun e w' hp => by
    rcases hp with ⟨⟨_, rfl⟩ | ⟨hn, _⟩, hb⟩
    · exact ⟨rfl, hb⟩
    · exact absurd ⟨rfl, t3 A⟩ (hn 1 (by show 1 < 2; omega))
theorem snd3 (A bA : Option Addr) (bc : Nat) (w : World) (hT : An w) (h : IsK w (sk A)) (hb : T.Rcs w bA 1 bc [⟨bbe⟩]) : Calls Tryd.prog 22 #[.agg (cellsK ow).toArray, .agg (cellsK (sk A)).toArray, .slice none 0 0, .slice bA 1 bc, .bool true] w fun e w' => (∃ b off c, e = .returned (.tuple #[.slice (some ⟨b, off, none⟩) 1 c, .int .i64 0]) ∧ b < w'.heap.size ∧ w'.cell? ⟨b, off, none⟩ = some (.string bd)) ∧ Below w.heap.size w w' :=
  (send22 ow (sk A) none bA 0 0 1 bc [] [⟨bbe⟩] true w hT h (ints_nil w) hb (sk_size A) (by show 2 ≤ 10000; omega)).mono fun e w' hp => by
    rcases hp with ⟨⟨⟨j, hj, _, h1⟩, _⟩ | ⟨_, A', c, rfl, hr⟩, hb⟩
    · have hj2 : j < 2 := hj
      obtain rfl | rfl : j = 0 ∨ j = 1 := by omega
      · rw [show ((sk A).D 0).id = bd from rfl, t5] at h1; cases h1
      · rw [show ((sk A).D 1).id = be from rfl, t6] at h1; cases h1
    · rw [show (sk A).n = 2 from rfl, l3] at hr ⊢
      obtain ⟨b, off, rfl, hlt, k⟩ := hr.str (k := 0) (by show 0 < 1; omega)
      exact ⟨⟨b, off, c, rfl, hlt, k⟩, hb⟩
theorem rcs_one (w : World) (x : ByteArray) (hx : x.size ≤ 1000) : T.Rcs (w.alloc (.cells #[.string x] 9)) (some ⟨w.heap.size, 0, none⟩) 1 1 [⟨x⟩] :=
  T.Rcs.ofBlk (blk_new w [.string x] 9) rfl rfl (Nat.le_refl _) (by omega) (fun p hp => by rw [List.mem_singleton] at hp; subst hp; show x.size ≤ 9223372036854775807; omega)
theorem lit_ints (w : World) (zs : List Int) (h : zs.length ≤ 1000000) : Q.Ints (w.alloc (.cells (zs.map (Value.int .i64)).toArray 3)) (some ⟨w.heap.size, 0, none⟩) zs.length zs.length zs :=
  ⟨rfl, Nat.le_refl _, h, (fun e => by cases e), .inr ⟨w.heap.size, 0, rfl, by simp, fun i hi => by rw [Nat.zero_add]; exact (blk_new w (zs.map (Value.int .i64)) 3).cell (Q.map_get hi)⟩⟩
theorem lit72 (w : World) : Q.Ints (w.alloc (.cells #[.int .i64 7, .int .i64 2] 3)) (some ⟨w.heap.size, 0, none⟩) 2 2 [7, 2] := lit_ints w [7, 2] (by decide)
theorem lit257 (w : World) : Q.Ints (w.alloc (.cells #[.int .i64 2, .int .i64 5, .int .i64 7] 3)) (some ⟨w.heap.size, 0, none⟩) 3 3 [2, 5, 7] := lit_ints w [2, 5, 7] (by decide)
theorem vf725 : vf [7, 2] 5 = [2, 5, 7] := by
  unfold vf
  rw [if_neg (by decide)]
  exact (Q.M.st_eq (by unfold Q.M.Srt; decide) (fun x => by simp; omega)).symm
theorem ver_lit (w : World) (A : Option Addr) (c : Nat) (h : Q.Ints w A 2 c [7, 2]) : Calls Tryd.prog 12 #[.slice A 2 c, .int .i64 5] w fun e w' => ∃ A' c', e = .returned (.slice A' 3 c') ∧ Q.Ints w' A' 3 c' [2, 5, 7] ∧ Below w.heap.size w w' := by
  have := verify12 A 2 c [7, 2] 5 w h (by omega)
  rw [vf725] at this
  exact this
theorem chg_lit (A : Option Addr) : chg (sk A) ow = true := by kernel_rfl
theorem sh_nil : shT [] = 3 := by kernel_rfl
theorem sh_call (w : World) : Calls Tryd.prog 14 #[.slice none 0 0] w fun e w' => e = .returned (.int .i64 3) ∧ Below w.heap.size w w' :=
  (shield14 none 0 0 [] w (ints_nil w)).mono fun e w' ⟨he, hb⟩ => ⟨by rw [he, sh_nil], by rw [← hb]; exact Below.refl _ _⟩
theorem chg_call (A : Option Addr) (w : World) : Calls Tryd.prog 16 #[.agg (cellsK (sk A)).toArray, .agg (cellsK ow).toArray] w fun e w' => e = .returned (.bool true) ∧ Below w.heap.size w w' := chg_lit A ▸ changed16 (sk A) ow w
set_option maxHeartbeats 16000000 in
theorem lives_any (w : World) (hT : An w) : Calls Tryd.prog 8 #[] w fun e w' => e = .returned (.bool true) ∧ Below w.heap.size w w' := by
  have HT := Lib.hid hT
  have CS := Lib.hid (sample21 w)
  clear hT
  go_enter Tryd.func8, Tryd.ntmps8
  go_upto_region 2 with (first
    | (go_at_call 21; (with_reducible refine CS.out.mono ?_); rintro e w1 ⟨A, rfl, hk, hb1⟩; have K1 := Lib.hid hk; have B1 := Lib.hid hb1; clear hk hb1)
    | (refine wpList_store_mid rfl 24 _ _ rfl w1.heap.size 0 (cellsK ow).toArray rfl rfl (Blk.there (n := 4) ((blk_new w1 zK 24).alloc (.cells zK.toArray 24)) (by decide)) size24 (by simp [Value.oneCell']) ?_; generalize hw2 : ((w1.alloc (.cells zK.toArray 24)).alloc (.cells zK.toArray 24)).setCells w1.heap.size 0 (cellsK ow).toArray.toList = w2; have P1 : Hid (Blk w2 w1.heap.size (cellsK ow) 24) := Lib.hid (by rw [← hw2]; exact ((blk_new w1 zK 24).alloc _).setAll _ rfl); have Z2 : Hid (Blk w2 (w1.heap.size + 1) zK 24) := Lib.hid (by rw [← hw2]; refine Blk.otherAll ?_ _ _ _ (by omega); have := blk_new (w1.alloc (.cells zK.toArray 24)) zK 24; rwa [show (w1.alloc (.cells zK.toArray 24)).heap.size = w1.heap.size + 1 by simp] at this); have Q2 : Hid (Below w1.heap.size w1 w2) := Lib.hid (by rw [← hw2]; exact below_setAll (Nat.le_refl _) _ _ _ (((Below.refl _ w1).alloc (Nat.le_refl _) _).alloc (by simp) _)); clear hw2)
    | (refine wpList_store_mid rfl 24 _ _ rfl (w1.heap.size + 1) 0 (cellsK (sk A)).toArray rfl rfl (Blk.there (n := 4) Z2.out (by decide)) size24 (by simp [Value.oneCell']) ?_; generalize hw3 : w2.setCells (w1.heap.size + 1) 0 (cellsK (sk A)).toArray.toList = w3; have P2 : Hid (Blk w3 (w1.heap.size + 1) (cellsK (sk A)) 24) := Lib.hid (by rw [← hw3]; exact Z2.out.setAll _ rfl); have P1 : Hid (Blk w3 w1.heap.size (cellsK ow) 24) := Lib.hid (by rw [← hw3]; exact P1.out.otherAll _ _ _ (by omega)); have Q3 : Hid (Below w1.heap.size w1 w3) := Lib.hid (by rw [← hw3]; exact below_setAll (Nat.le_succ _) _ _ _ Q2.out); clear hw3))
  have BW := Lib.hid (B1.out.trans (Q3.out.mono B1.out.size))
  have K3 := Lib.hid (K1.out.below Q3.out)
  have T3 := Lib.hid (HT.out.below BW.out)
  have B3 := Lib.hid (Below.refl w3.heap.size w3)
  have S1 := Lib.hid (fun u (hu : Below w3.heap.size w3 u) => snd1 A u (T3.out.below hu) (K3.out.below hu))
  have S2 := Lib.hid (fun u (hu : Below w3.heap.size w3 u) => snd2 A u (T3.out.below hu) (K3.out.below hu))
  have S3 := Lib.hid (fun bA bc u (hu : Below w3.heap.size w3 u) hb => snd3 A bA bc u (T3.out.below hu) (K3.out.below hu) hb)
  have F1 := Lib.hid (fun u (hu : Below w3.heap.size w3 u) => t1 A ▸ of23 ow (sk A) bd none none 0 0 0 0 [] [] u (T3.out.below hu) (K3.out.below hu) (ints_nil u) (T.Rcs.nil u) (by show 4 + 1 + 1 ≤ 1000000; omega))
  have F2 := Lib.hid (fun vA vc u (hu : Below w3.heap.size w3 u) hv => t2 A ▸ of23 ow (sk A) bd vA none 1 vc 0 0 [9] [] u (T3.out.below hu) (K3.out.below hu) hv (T.Rcs.nil u) (by show 4 + 1 + 1 ≤ 1000000; omega))
  have F3 := Lib.hid (fun u (hu : Below w3.heap.size w3 u) => t3 A ▸ of23 ow (sk A) be none none 0 0 0 0 [] [] u (T3.out.below hu) (K3.out.below hu) (ints_nil u) (T.Rcs.nil u) (by show 4 + 1 + 1 ≤ 1000000; omega))
  have F4 := Lib.hid (fun u (hu : Below w3.heap.size w3 u) => t4 A ▸ of23 ow (sk A) bf none none 0 0 0 0 [] [] u (T3.out.below hu) (K3.out.below hu) (ints_nil u) (T.Rcs.nil u) (by show 4 + 1 + 1 ≤ 1000000; omega))
  clear K1 B1 Q2 Q3 Z2 CS HT K3 T3
  generalize w1.heap.size = g1 at *
  go_upto_region 5 with (first
    | (refine load_mid_g (by rfl) 24 _ rfl g1 0 rfl (cellsK ow) _ (P1.out.below B3.out).range Tryd.underlying24 rfl size24 ?_)
    | (refine load_mid_g (by rfl) 24 _ rfl (g1 + 1) 0 rfl (cellsK (sk A)) _ (P2.out.below B3.out).range Tryd.underlying24 rfl size24 ?_)
    | (go_at_call 22; (with_reducible refine (S1.out _ B3.out).mono ?_); rintro e w4 ⟨⟨A4, c4, rfl⟩, hb4⟩; have B4 := Lib.hid (B3.out.trans (hb4.mono B3.out.size)); clear hb4)
    | (refine load_mid_g (by rfl) 24 _ rfl g1 0 rfl (cellsK ow) _ (P1.out.below B4.out).range Tryd.underlying24 rfl size24 ?_)
    | (refine load_mid_g (by rfl) 24 _ rfl (g1 + 1) 0 rfl (cellsK (sk A)) _ (P2.out.below B4.out).range Tryd.underlying24 rfl size24 ?_)
    | (go_at_call 22; (with_reducible refine (S2.out _ B4.out).mono ?_); rintro e w5 ⟨rfl, hb5⟩; have B5 := Lib.hid (B4.out.trans (hb5.mono B4.out.size)); clear hb5)
    | (refine load_mid_g (by rfl) 24 _ rfl g1 0 rfl (cellsK ow) _ (P1.out.below B5.out).range Tryd.underlying24 rfl size24 ?_)
    | (refine load_mid_g (by rfl) 24 _ rfl (g1 + 1) 0 rfl (cellsK (sk A)) _ (P2.out.below B5.out).range Tryd.underlying24 rfl size24 ?_)
    | (go_at_call 22; (with_reducible refine (S3.out _ _ _ (B5.out.alloc B5.out.size (.cells #[.string bbe] 9)) (rcs_one w5 bbe (by decide))).mono ?_); rintro e w6 ⟨⟨b6, o6, c6', rfl, hlt6, k6⟩, hb6⟩; have B6 := Lib.hid ((B5.out.alloc B5.out.size (.cells #[.string bbe] 9)).trans (hb6.mono (B5.out.alloc B5.out.size (.cells #[.string bbe] 9)).size)); have H6 := Lib.hid hlt6; have KK6 := Lib.hid k6; clear hb6 hlt6 k6))
  simp only [List.append_eq, List.cons_append, List.nil_append]
  go_wp2_with (first
    | (refine load_mid_g (by rfl) 24 _ rfl g1 0 rfl (cellsK ow) _ (P1.out.below B6.out).range Tryd.underlying24 rfl size24 ?_)
    | (refine load_mid_g (by rfl) 24 _ rfl (g1 + 1) 0 rfl (cellsK (sk A)) _ (P2.out.below B6.out).range Tryd.underlying24 rfl size24 ?_)
    | (go_at_call 23; (with_reducible refine (F1.out _ B6.out).mono ?_); rintro e w7 ⟨rfl, hb7⟩; have B7 := Lib.hid (B6.out.trans (hb7.mono B6.out.size)); have D7 := Lib.hid hb7; clear hb7)
    | (refine load_mid_g (by rfl) 24 _ rfl g1 0 rfl (cellsK ow) _ (P1.out.below B7.out).range Tryd.underlying24 rfl size24 ?_)
    | (refine load_mid_g (by rfl) 24 _ rfl (g1 + 1) 0 rfl (cellsK (sk A)) _ (P2.out.below B7.out).range Tryd.underlying24 rfl size24 ?_)
    | (go_at_call 23; (with_reducible refine (F2.out _ _ _ (B7.out.alloc B7.out.size (.cells #[.int .i64 9] 3)) (ints_one w7 9)).mono ?_); rintro e w8 ⟨rfl, hb8⟩; have B8 := Lib.hid ((B7.out.alloc B7.out.size (.cells #[.int .i64 9] 3)).trans (hb8.mono (B7.out.alloc B7.out.size (.cells #[.int .i64 9] 3)).size)); have D8 := Lib.hid ((D7.out.alloc D7.out.size (.cells #[.int .i64 9] 3)).trans (hb8.mono (D7.out.alloc D7.out.size (.cells #[.int .i64 9] 3)).size)); clear hb8)
    | (refine load_mid_g (by rfl) 24 _ rfl g1 0 rfl (cellsK ow) _ (P1.out.below B8.out).range Tryd.underlying24 rfl size24 ?_)
    | (refine load_mid_g (by rfl) 24 _ rfl (g1 + 1) 0 rfl (cellsK (sk A)) _ (P2.out.below B8.out).range Tryd.underlying24 rfl size24 ?_)
    | (go_at_call 23; (with_reducible refine (F3.out _ B8.out).mono ?_); rintro e w9 ⟨rfl, hb9⟩; have B9 := Lib.hid (B8.out.trans (hb9.mono B8.out.size)); have D9 := Lib.hid (D8.out.trans (hb9.mono D8.out.size)); clear hb9)
    | (refine load_mid_g (by rfl) 24 _ rfl g1 0 rfl (cellsK ow) _ (P1.out.below B9.out).range Tryd.underlying24 rfl size24 ?_)
    | (refine load_mid_g (by rfl) 24 _ rfl (g1 + 1) 0 rfl (cellsK (sk A)) _ (P2.out.below B9.out).range Tryd.underlying24 rfl size24 ?_)
    | (go_at_call 23; (with_reducible refine (F4.out _ B9.out).mono ?_); rintro e w10 ⟨rfl, hb10⟩; have B10 := Lib.hid (B9.out.trans (hb10.mono B9.out.size)); have k10 := ((D9.out.trans (hb10.mono D9.out.size)).cell (p := ⟨b6, o6, none⟩) H6.out).trans KK6.out; clear hb10)
    | (go_at_call 12; (refine (ver_lit _ _ _ (lit72 w10)).mono ?_); rintro e w11 ⟨A11, c11, rfl, h11, hb11⟩; have I11 := Lib.hid h11; have B11 := Lib.hid ((B10.out.alloc B10.out.size (.cells #[.int .i64 7, .int .i64 2] 3)).trans (hb11.mono (B10.out.alloc B10.out.size (.cells #[.int .i64 7, .int .i64 2] 3)).size)); clear h11 hb11)
    | (go_at_call 11; (refine (Q.same_any A11 3 c11 [2, 5, 7] _ 3 3 [2, 5, 7] _ (I11.out.below ((Below.refl _ w11).alloc (Nat.le_refl _) (.cells #[.int .i64 2, .int .i64 5, .int .i64 7] 3))) (lit257 w11)).mono ?_); rintro e w12 ⟨rfl, hb12⟩; have B12 := Lib.hid ((B11.out.alloc B11.out.size (.cells #[.int .i64 2, .int .i64 5, .int .i64 7] 3)).trans (hb12.mono (B11.out.alloc B11.out.size (.cells #[.int .i64 2, .int .i64 5, .int .i64 7] 3)).size)); clear hb12)
    | (go_at_call 14; (refine (sh_call w12).mono ?_); rintro e w13 ⟨rfl, hb13⟩; have B13 := Lib.hid (B12.out.trans (hb13.mono B12.out.size)); clear hb13)
    | (refine load_mid_g (by rfl) 24 _ rfl g1 0 rfl (cellsK ow) _ (P1.out.below B13.out).range Tryd.underlying24 rfl size24 ?_)
    | (refine load_mid_g (by rfl) 24 _ rfl (g1 + 1) 0 rfl (cellsK (sk A)) _ (P2.out.below B13.out).range Tryd.underlying24 rfl size24 ?_)
    | (go_at_call 16; (refine (chg_call A w13).mono ?_); rintro e w14 ⟨rfl, hb14⟩; have B14 := Lib.hid (B13.out.trans (hb14.mono B13.out.size)); clear hb14))
  go_ret
  exact ⟨rfl, BW.out.trans (B14.out.mono BW.out.size)⟩
end Go.Proofs.YtaaaeeljjfblnaaDoor
