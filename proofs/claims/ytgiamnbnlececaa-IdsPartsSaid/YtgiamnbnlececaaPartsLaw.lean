/- IdsParts: for every input the statement returns true. Conditions: none beyond the statement's own. -/
import Derived.Test.YtgiamnbnlececaaRows
import Derived.Test.YtgiamnbnlececaaW15
import Derived.Deep.Cut
import Derived.Deep.CutRange
import Derived.Deep.RegionHeld3
import Derived.ProofKit
import Derived.SizedLaws
import Derived.OpenShut
import Derived.ShutString
import Derived.ChangeOld
import Derived.Below
import Derived.SliceStrings
namespace Go.Proofs.Ytgiamnbnlececaa.idsParts
open Go.ChangeShapes Go.WideShapes Go.ChangeAt Go.RowKit
open Go.ChangeMaps (open_string shut_string)
set_option linter.unusedVariables false

theorem own : ownKnob Try.prog.godebug = none := by kernel_rfl
theorem laidOut : laidOutB Try.prog = true := by kernel_rfl

theorem cells35 : Try.prog.cellsOf 35 = 2 := by kernel_rfl
theorem cells9 : Try.prog.cellsOf 9 = 1 := by kernel_rfl
theorem agg_two (v : Value) (h : v.cells.toList.length = 2) : ∃ c0 c1, v = .agg #[c0, c1] := by
  cases v <;> simp [Value.cells] at h
  rename_i cs
  match cs, h with
  | ⟨[a, b]⟩, _ => exact ⟨a, b, rfl⟩
theorem sized_two {H : Type} {P : Program} {ts : List TypeId} {ds : List (DataW H)} (h : (DataW.weightsEach P ts ds).all (· ≤ reachBytes) = true) {j : Nat} {t e : TypeId} {n : Nat} {a b : List UInt8} (ht : ts[j]? = some t) (hd : ds[j]? = some (.agg [.lit (.string a), .lit (.string b)])) (hu : P.underlying t = some (.array n e)) : a.length ≤ reachBytes ∧ b.length ≤ reachBytes := by
  have h1 := List.all_eq_true.1 h _ (DataW.weights_mem_each ht hd a.length (by simp [DataW.weights, DataW.weightsAll, hu]))
  have h2 := List.all_eq_true.1 h _ (DataW.weights_mem_each ht hd b.length (by simp [DataW.weights, DataW.weightsAll, hu]))
  simp only [decide_eq_true_iff] at h1 h2
  exact ⟨h1, h2⟩
theorem undrew {w w' : World} (h : Below w.drew.heap.size w.drew w') : Below w.heap.size w w' := ⟨h.os, h.tape, h.output, h.size, h.block⟩
theorem err_beq (b : Bool) : (err b == 0) = b := by cases b <;> rfl
theorem err_bne (b : Bool) : (err b != 0) = !b := by cases b <;> rfl
theorem mkR_of {m : Int} {a b : ByteArray} (h : anyB (mkS m a b) = true) : mkR m a b = mkS m a b := by unfold mkR; rw [h]; rfl
theorem mkR_no {m : Int} {a b : ByteArray} (h : anyB (mkS m a b) = false) : mkR m a b = ⟨#[]⟩ := by unfold mkR; rw [h]; rfl
theorem any64 {s : ByteArray} (h : I.mkd 64 (bys s) = true) : anyB s = true := by unfold anyB; rw [h]; rfl
theorem any33 {s : ByteArray} (h : I.mkd 33 (bys s) = true) : anyB s = true := by unfold anyB; rw [h, Bool.or_true]
theorem loc_any' {s : ByteArray} (h : anyB s = true) : locA s = locP s := by unfold locA; rw [h]; rfl
theorem srv_any' {s : ByteArray} (h : anyB s = true) : srvA s = srvP s := by unfold srvA; rw [h]; rfl
theorem loc_no {s : ByteArray} (h : anyB s = false) : locA s = ⟨#[]⟩ := by unfold locA; rw [h]; rfl
theorem srv_no {s : ByteArray} (h : anyB s = false) : srvA s = ⟨#[]⟩ := by unfold srvA; rw [h]; rfl
/-- What the first half asks of a text: the cases. -/
theorem txt_cases (s : ByteArray) : (anyB s = false ∧ I.mkd 64 (bys s) = false ∧ I.mkd 33 (bys s) = false) ∨ (∃ m : Int, (m = 64 ∨ m = 33) ∧ anyB s = true ∧ I.mkd m (bys s) = true ∧ I.mkd 64 (bys s) = decide (m = 64) ∧ I.mkd 33 (bys s) = decide (m = 33)) := by
  cases h : anyB s
  · refine .inl ⟨rfl, ?_, ?_⟩
    · cases h1 : I.mkd 64 (bys s)
      · rfl
      · rw [any64 h1] at h; cases h
    · cases h1 : I.mkd 33 (bys s)
      · rfl
      · rw [any33 h1] at h; cases h
  · rcases any_of h with ⟨h1, h2⟩ | ⟨h1, h2⟩
    · exact .inr ⟨64, .inl rfl, rfl, h1, h1, h2⟩
    · exact .inr ⟨33, .inr rfl, rfl, h2, h1, h2⟩

set_option maxRecDepth 100000 in
set_option maxHeartbeats 3200000 in
theorem walk (a0 : ByteArray) (a1 : Int) (p q : ByteArray) (w : World) (w0 : a0.size ≤ maxLen) (u0 : a0.size ≤ 140737488351232) (w1 : (Lit.int .u8 a1).wf = true) (wp : p.size ≤ 140737488351232) (wq : q.size ≤ 140737488351232) :
    Calls Try.prog 7 #[.string a0, .int .u8 a1, .agg #[.string p, .string q]] w fun e w' => e = .returned (.bool true) ∧ Below w.heap.size w w' := by
  have hs : a0.size ≤ 9223372036854775807 := by unfold maxLen at w0; omega
  obtain ⟨ha0, ha1⟩ := bounds_u8 w1
  have hw1 := Lib.hid w1
  have CU := Lib.hid (user_any a0 hs)
  have CR := Lib.hid (room_any a0 hs)
  have CS := Lib.hid (serverOf_any a0 hs)
  have CL := Lib.hid (localOf_any a0 hs)
  have CM := Lib.hid (make_any a1 p q (by omega) (by omega))
  have he := fun b => err_beq b
  have hne := fun b => err_bne b
  have HT := Lib.hid (txt_cases a0)
  obtain ⟨b1, hb1⟩ : ∃ b, I.mkd 64 (bys a0) = b := ⟨_, rfl⟩
  obtain ⟨b2, hb2⟩ : ∃ b, I.mkd 33 (bys a0) = b := ⟨_, rfl⟩
  rw [hb1] at CU
  rw [hb2] at CR
  have HB1 := Lib.hid hb1
  have HB2 := Lib.hid hb2
  clear w1 hb1 hb2
  have BB := Lib.hid ((Below.refl w.heap.size w).alloc (Nat.le_refl _) (.cells #[.string p, .string q] 35))
  go_enter Try.func7, Try.ntmps7
  go_upto_region 2 with (first
    | (go_at_call 12; refine (CU.out _).mono ?_; rintro e wa ⟨rfl, hba⟩; have BA := Lib.hid hba; clear hba)
    | (go_at_call 14; refine (CR.out _).mono ?_; rintro e wb ⟨rfl, hbb⟩; have BC := Lib.hid (BA.out.trans (hbb.mono BA.out.size)); clear hbb))
  go_cut [7, 8, 42] from 13 to 41 (fun x y c wx => x = .bool b1 ∧ y = .bool b2 ∧ c = .bool false ∧ Below (w.alloc (.cells #[.string p, .string q] 35)).heap.size (w.alloc (.cells #[.string p, .string q] 35)) wx)
  case first =>
    rcases HT.out with ⟨h1, h2, h3⟩ | ⟨m, hm, h1, hmk, h2, h3⟩
    · have HS := Lib.hid (srv_no h1)
      have HL := Lib.hid (loc_no h1)
      rw [HB1.out] at h2
      rw [HB2.out] at h3
      have E1 := Lib.hid h2
      have E2 := Lib.hid h3
      rw [HS.out] at CS
      rw [HL.out] at CL
      clear h1
      go_wp2_with (first
        | (go_at_call 16; refine (CS.out _).mono ?_; rintro e wc ⟨rfl, hbc⟩; have BD := Lib.hid (BC.out.trans (hbc.mono BC.out.size)); clear hbc)
        | (go_at_call 18; refine (CL.out _).mono ?_; rintro e wd ⟨rfl, hbd⟩; have BE := Lib.hid (BD.out.trans (hbd.mono BD.out.size)); clear hbd))
      go_meet
      case rel => exact ⟨by rw [E1.out], by rw [E2.out], rfl, BE.out⟩
    · have HS := Lib.hid (srv_any' h1)
      have HL := Lib.hid (loc_any' h1)
      rw [HS.out] at CS
      rw [HL.out] at CL
      rw [HB1.out] at h2
      rw [HB2.out] at h3
      obtain ⟨z1, _, z2, _, _⟩ := mkd_sizes hmk
      have n1 := toList_empty z1
      have n2 := toList_empty z2
      clear h1 hmk z1 z2
      generalize locP a0 = x at *
      generalize srvP a0 = y at *
      rcases hm with rfl | rfl
      · have E1 := Lib.hid (show b1 = true from h2)
        have E2 := Lib.hid (show b2 = false from h3)
        replace h2 := E1.out
        replace h3 := E2.out
        go_wp2_with (first
          | (go_at_call 16; refine (CS.out _).mono ?_; rintro e wc ⟨rfl, hbc⟩; have BD := Lib.hid (BC.out.trans (hbc.mono BC.out.size)); clear hbc)
          | (go_at_call 18; refine (CL.out _).mono ?_; rintro e wd ⟨rfl, hbd⟩; have BE := Lib.hid (BD.out.trans (hbd.mono BD.out.size)); clear hbd))
        go_meet
        case rel => exact ⟨by rw [E1.out], by rw [E2.out], rfl, BE.out⟩
      · have E1 := Lib.hid (show b1 = false from h2)
        have E2 := Lib.hid (show b2 = true from h3)
        replace h2 := E1.out
        replace h3 := E2.out
        go_wp2_with (first
          | (go_at_call 16; refine (CS.out _).mono ?_; rintro e wc ⟨rfl, hbc⟩; have BD := Lib.hid (BC.out.trans (hbc.mono BC.out.size)); clear hbc)
          | (go_at_call 18; refine (CL.out _).mono ?_; rintro e wd ⟨rfl, hbd⟩; have BE := Lib.hid (BD.out.trans (hbd.mono BD.out.size)); clear hbd))
        go_meet
        case rel => exact ⟨by rw [E1.out], by rw [E2.out], rfl, BE.out⟩
  case rest =>
  obtain ⟨rfl, rfl, rfl, hbc1⟩ := hcut
  have BC1 := Lib.hid hbc1
  clear hbc1
  go_upto_region 4 with (fail)
  go_cut [46] from 43 to 45 (fun c wx => c = .bool (b1 || b2) ∧ Below (w.alloc (.cells #[.string p, .string q] 35)).heap.size (w.alloc (.cells #[.string p, .string q] 35)) wx)
  case first =>
    cases b1
    · go_wp2
      go_meet
      case rel => exact ⟨by simp, BC1.out⟩
    · go_wp2
      go_meet
      case rel => exact ⟨by simp, BC1.out⟩
  case rest =>
  obtain ⟨rfl, hbc2⟩ := hcut
  have BC1 := Lib.hid hbc2
  clear hbc2
  go_upto_if 46 with (fail)
  go_cut [7, 8, 9, 10, 46] from 47 to 82 (fun _ _ _ _ _ wx => Below (w.alloc (.cells #[.string p, .string q] 35)).heap.size (w.alloc (.cells #[.string p, .string q] 35)) wx)
  case first =>
    rcases HT.out with ⟨h1, h2, h3⟩ | ⟨m, hm, h1, hmk, h2, h3⟩
    · rw [HB1.out] at h2
      rw [HB2.out] at h3
      clear h1
      subst h2 h3
      go_wp2
      go_meet
      case rel => exact BC1.out
    · have HS := Lib.hid (srv_any' h1)
      have HL := Lib.hid (loc_any' h1)
      rw [HS.out] at CS
      rw [HL.out] at CL
      rw [HB1.out] at h2
      rw [HB2.out] at h3
      obtain ⟨z1, z2, z3, _, z4⟩ := mkd_sizes hmk
      have z5 := (I.mkd_iff.1 hmk).1
      rw [bys_len] at z5
      have hp0 : 0 < a0.size := z5.1
      have h0 : (a0[0].toNat : Int) = m := by rw [← bys_getD a0 0 hp0]; exact z5.2.1
      have hbt := byte_lt a0 0 hp0
      have C20 := Lib.hid (fun w' => show Calls Try.prog 20 #[.int .u8 (a0[0].toNat : Int), .string (locP a0), .string (srvP a0)] w' fun e w'' => e = .returned (.tuple #[.string a0, .int .i64 0]) ∧ Below w'.heap.size w' w'' from by
        refine (make_any _ _ _ (loc_size a0 (by omega)) (srv_size a0 (by omega)) w').mono fun e w'' hh => ?_
        obtain ⟨he1, hb1⟩ := hh
        refine ⟨?_, hb1⟩
        have hx : mkS (a0[0].toNat : Int) (locP a0) (srvP a0) = a0 := parts_make hbt.1 hbt.2 (by rw [h0]; exact hmk)
        rw [he1, mkR_of (by rw [hx]; exact h1), hx, h1]
        rfl)
      have C9 := Lib.hid (fun w' => show Calls Try.prog 9 #[.string (srvP a0)] w' fun e w'' => e = .returned (.int .i64 0) ∧ w' = w'' from
        (server_any (srvP a0) (srv_size a0 hs) w').mono fun e w'' ⟨he1, hb1⟩ => ⟨by rw [he1, z4]; rfl, hb1⟩)
      have g1 : decide ((32 : Int) < ((locP a0).size : Int)) = false := by simp; omega
      have g2 : ((a0[0].toNat : Int) == 64) = decide (m = 64) := by rw [h0]; rfl
      have HM0 := Lib.hid h0
      have HP := Lib.hid hp0
      clear h1 hmk z1 z2 z3 z4 z5 h0 hbt
      generalize locP a0 = x at *
      generalize srvP a0 = y at *
      rcases hm with rfl | rfl
      · replace h2 : b1 = true := h2
        replace h3 : b2 = false := h3
        subst h2 h3
        replace g2 : ((a0[0].toNat : Int) == 64) = true := g2
        go_wp2_with fail
        go_region_held3 (fun _ => True) (trivial)
          (first
            | (go_at_call 18; refine (CL.out _).mono ?_; rintro e wd ⟨rfl, hbd⟩; have BD := Lib.hid hbd; clear hbd)
            | (go_at_call 16; refine (CS.out _).mono ?_; rintro e we ⟨rfl, hbe⟩; have BE := Lib.hid hbe; clear hbe)
            | (go_at_call 20; refine (C20.out _).mono ?_; rintro e wf ⟨rfl, hbf⟩; have BF := Lib.hid hbf; clear hbf))
        all_goals
          have BG := Lib.hid (((BC1.out.drew.trans (BD.out.mono BC1.out.size)).trans (BE.out.mono (Nat.le_trans BC1.out.size BD.out.size))).trans (BF.out.mono (Nat.le_trans (Nat.le_trans BC1.out.size BD.out.size) BE.out.size)))
          clear BD BE BF
          go_wp2_with (first
            | (go_at_call 16; refine (CS.out _).mono ?_; rintro e wg ⟨rfl, hbg⟩; have BH := Lib.hid (BG.out.trans (hbg.mono BG.out.size)); clear hbg)
            | (go_at_call 9; refine (C9.out _).mono ?_; rintro e w' ⟨rfl, rfl⟩)
            | (go_at_call 18; refine (CL.out _).mono ?_; rintro e wh ⟨rfl, hbh⟩; have BI := Lib.hid (BH.out.trans (hbh.mono BH.out.size)); clear hbh))
          go_meet
          case rel => exact BI.out
      · replace h2 : b1 = false := h2
        replace h3 : b2 = true := h3
        subst h2 h3
        replace g2 : ((a0[0].toNat : Int) == 64) = false := g2
        have g3 : ¬ (a0[0].toNat : Int) = 64 := by have := HM0.out; omega
        have g4 : ¬ a0[0].toNat = 64 := by omega
        have g5 : ((a0[0].toNat : Int) != 64) = true := by rw [bne, g2]; rfl
        go_wp2_with fail
        go_region_held3 (fun _ => True) (trivial)
          (first
            | (go_at_call 18; refine (CL.out _).mono ?_; rintro e wd ⟨rfl, hbd⟩; have BD := Lib.hid hbd; clear hbd)
            | (go_at_call 16; refine (CS.out _).mono ?_; rintro e we ⟨rfl, hbe⟩; have BE := Lib.hid hbe; clear hbe)
            | (go_at_call 20; refine (C20.out _).mono ?_; rintro e wf ⟨rfl, hbf⟩; have BF := Lib.hid hbf; clear hbf))
        all_goals
          have BG := Lib.hid (((BC1.out.drew.trans (BD.out.mono BC1.out.size)).trans (BE.out.mono (Nat.le_trans BC1.out.size BD.out.size))).trans (BF.out.mono (Nat.le_trans (Nat.le_trans BC1.out.size BD.out.size) BE.out.size)))
          clear BD BE BF
          go_wp2_with (first
            | (go_at_call 16; refine (CS.out _).mono ?_; rintro e wg ⟨rfl, hbg⟩; have BH := Lib.hid (BG.out.trans (hbg.mono BG.out.size)); clear hbg)
            | (go_at_call 9; refine (C9.out _).mono ?_; rintro e w' ⟨rfl, rfl⟩)
            | (go_at_call 18; refine (CL.out _).mono ?_; rintro e wh ⟨rfl, hbh⟩; have BI := Lib.hid (BH.out.trans (hbh.mono BH.out.size)); clear hbh))
          go_meet
          case rel => exact BI.out
  case rest =>
  have BC2 := Lib.hid hcut
  clear hcut
  have cp : wc.cell? ⟨w.heap.size, 0, none⟩ = some (.string p) := (BC2.out.cell (p := ⟨w.heap.size, 0, none⟩) (by simp)).trans (new_cell w #[.string p, .string q] 35 0)
  have cq : wc.cell? ⟨w.heap.size, 1, none⟩ = some (.string q) := (BC2.out.cell (p := ⟨w.heap.size, 1, none⟩) (by simp)).trans (new_cell w #[.string p, .string q] 35 1)
  have BW := Lib.hid (((Below.refl w.heap.size w).alloc (Nat.le_refl _) (.cells #[.string p, .string q] 35)).trans (BC2.out.mono (by simp)))
  have HLT := Lib.hid (show w.heap.size < wc.heap.size by have := BC2.out.size; simp at this; omega)
  have hlt := HLT.out
  rcases txt_cases (mkS a1 p q) with ⟨h1, _, _⟩ | ⟨m, hm, h1, hmk, h2, h3⟩
  · rw [mkR_no h1, h1] at CM
    clear h1
    go_wp2_with (first
      | (go_at_call 20; refine (CM.out _).mono ?_; rw [err_f]; rintro e wi ⟨rfl, hbi⟩; have BI := Lib.hid (BW.out.trans (hbi.mono BW.out.size)); clear hbi)
      | (go_at_call 11; refine (awake_any _).mono ?_; rintro e wj ⟨rfl, hbj⟩; have BJ := Lib.hid (BI.out.trans (hbj.mono BI.out.size)); clear hbj))
    go_ret
    exact ⟨rfl, BJ.out⟩
  · rw [mkR_of h1, h1] at CM
    have hX : (mkS a1 p q).size ≤ 9223372036854775807 := by rw [mkS_size]; omega
    have DU := Lib.hid (user_any (mkS a1 p q) hX)
    have DR := Lib.hid (room_any (mkS a1 p q) hX)
    have DS := Lib.hid (serverOf_any (mkS a1 p q) hX)
    have DL := Lib.hid (localOf_any (mkS a1 p q) hX)
    obtain ⟨hma, hl, hsv, _, _⟩ := make_parts ha0 ha1 (n := m) (by rcases hm with rfl | rfl <;> decide) hmk
    rw [srv_any' h1, hsv] at DS
    rw [loc_any' h1, hl] at DL
    rw [h2] at DU
    rw [h3] at DR
    clear h1 hmk h2 h3 hl hsv hX
    subst hma
    generalize mkS m p q = X at *
    rcases hm with rfl | rfl
    · have DU' : Hid (∀ w, Calls Try.prog 12 #[.string X] w fun e w' => e = .returned (.int .i64 0) ∧ Below w.heap.size w w') := DU
      have DR' : Hid (∀ w, Calls Try.prog 14 #[.string X] w fun e w' => e = .returned (.int .i64 3) ∧ Below w.heap.size w w') := DR
      clear DU DR
      go_wp2_with (go_at_call 20; refine (CM.out _).mono ?_; rw [err_t]; rintro e wi ⟨rfl, hbi⟩; have BI := Lib.hid (BW.out.trans (hbi.mono BW.out.size)); have ci := (hbi.cell (p := ⟨w.heap.size, 0, none⟩) HLT.out).trans cp; have cj := (hbi.cell (p := ⟨w.heap.size, 1, none⟩) HLT.out).trans cq; have LI := Lib.hid (Nat.lt_of_lt_of_le HLT.out hbi.size); clear hbi cp cq)
      go_region_held3 (fun w' => w'.cell? ⟨w.heap.size, 0, none⟩ = some (.string p) ∧ w'.cell? ⟨w.heap.size, 1, none⟩ = some (.string q)) (go_keep)
        (first
          | (go_at_call 18; refine (DL.out _).mono ?_; rintro e wd ⟨rfl, hbd⟩; have hbd' : Below wi.heap.size wi wd := (by first | exact hbd | exact undrew hbd); have di := (hbd'.cell (p := ⟨w.heap.size, 0, none⟩) LI.out).trans ci; have dj := (hbd'.cell (p := ⟨w.heap.size, 1, none⟩) LI.out).trans cj; have LD := Lib.hid (Nat.lt_of_lt_of_le LI.out hbd'.size); have BD := Lib.hid (BI.out.trans (hbd'.mono BI.out.size)); clear hbd hbd' ci cj)
          | (go_at_call 16; refine (DS.out _).mono ?_; rintro e we ⟨rfl, hbe⟩; have hbe' : Below wd.heap.size wd we := (by first | exact hbe | exact undrew hbe); have ei := (hbe'.cell (p := ⟨w.heap.size, 0, none⟩) LD.out).trans di; have ej := (hbe'.cell (p := ⟨w.heap.size, 1, none⟩) LD.out).trans dj; have LE := Lib.hid (Nat.lt_of_lt_of_le LD.out hbe'.size); have BE := Lib.hid (BD.out.trans (hbe'.mono BD.out.size)); clear hbe hbe' di dj)
          | (go_at_call 12; refine (DU'.out _).mono ?_; rintro e wf ⟨rfl, hbf⟩; have hbf' : Below we.heap.size we wf := (by first | exact hbf | exact undrew hbf); have fi := (hbf'.cell (p := ⟨w.heap.size, 0, none⟩) LE.out).trans ei; have fj := (hbf'.cell (p := ⟨w.heap.size, 1, none⟩) LE.out).trans ej; have LF := Lib.hid (Nat.lt_of_lt_of_le LE.out hbf'.size); have BF := Lib.hid (BE.out.trans (hbf'.mono BE.out.size)); clear hbf hbf' ei ej)
          | (go_at_call 14; refine (DR'.out _).mono ?_; rintro e wg ⟨rfl, hbg⟩; have hbg' : Below wf.heap.size wf wg := (by first | exact hbg | exact undrew hbg); have gi := (hbg'.cell (p := ⟨w.heap.size, 0, none⟩) LF.out).trans fi; have gj := (hbg'.cell (p := ⟨w.heap.size, 1, none⟩) LF.out).trans fj; have LG := Lib.hid (Nat.lt_of_lt_of_le LF.out hbg'.size); have BG := Lib.hid (BF.out.trans (hbg'.mono BF.out.size)); clear hbg hbg' fi fj)
          | (go_at_call 11; refine (awake_any _).mono ?_; rintro e wh ⟨rfl, hbh⟩; have hbh' : Below wg.heap.size wg wh := (by first | exact hbh | exact undrew hbh); have hi := (hbh'.cell (p := ⟨w.heap.size, 0, none⟩) LG.out).trans gi; have hj := (hbh'.cell (p := ⟨w.heap.size, 1, none⟩) LG.out).trans gj; have BH := Lib.hid (BG.out.trans (hbh'.mono BG.out.size)); clear hbh hbh' gi gj))
      all_goals go_wp2
      all_goals go_ret
      all_goals exact ⟨rfl, BH.out⟩
    · have DU' : Hid (∀ w, Calls Try.prog 12 #[.string X] w fun e w' => e = .returned (.int .i64 3) ∧ Below w.heap.size w w') := DU
      have DR' : Hid (∀ w, Calls Try.prog 14 #[.string X] w fun e w' => e = .returned (.int .i64 0) ∧ Below w.heap.size w w') := DR
      clear DU DR
      go_wp2_with (go_at_call 20; refine (CM.out _).mono ?_; rw [err_t]; rintro e wi ⟨rfl, hbi⟩; have BI := Lib.hid (BW.out.trans (hbi.mono BW.out.size)); have ci := (hbi.cell (p := ⟨w.heap.size, 0, none⟩) HLT.out).trans cp; have cj := (hbi.cell (p := ⟨w.heap.size, 1, none⟩) HLT.out).trans cq; have LI := Lib.hid (Nat.lt_of_lt_of_le HLT.out hbi.size); clear hbi cp cq)
      go_region_held3 (fun w' => w'.cell? ⟨w.heap.size, 0, none⟩ = some (.string p) ∧ w'.cell? ⟨w.heap.size, 1, none⟩ = some (.string q)) (go_keep)
        (first
          | (go_at_call 18; refine (DL.out _).mono ?_; rintro e wd ⟨rfl, hbd⟩; have hbd' : Below wi.heap.size wi wd := (by first | exact hbd | exact undrew hbd); have di := (hbd'.cell (p := ⟨w.heap.size, 0, none⟩) LI.out).trans ci; have dj := (hbd'.cell (p := ⟨w.heap.size, 1, none⟩) LI.out).trans cj; have LD := Lib.hid (Nat.lt_of_lt_of_le LI.out hbd'.size); have BD := Lib.hid (BI.out.trans (hbd'.mono BI.out.size)); clear hbd hbd' ci cj)
          | (go_at_call 16; refine (DS.out _).mono ?_; rintro e we ⟨rfl, hbe⟩; have hbe' : Below wd.heap.size wd we := (by first | exact hbe | exact undrew hbe); have ei := (hbe'.cell (p := ⟨w.heap.size, 0, none⟩) LD.out).trans di; have ej := (hbe'.cell (p := ⟨w.heap.size, 1, none⟩) LD.out).trans dj; have LE := Lib.hid (Nat.lt_of_lt_of_le LD.out hbe'.size); have BE := Lib.hid (BD.out.trans (hbe'.mono BD.out.size)); clear hbe hbe' di dj)
          | (go_at_call 12; refine (DU'.out _).mono ?_; rintro e wf ⟨rfl, hbf⟩; have hbf' : Below we.heap.size we wf := (by first | exact hbf | exact undrew hbf); have fi := (hbf'.cell (p := ⟨w.heap.size, 0, none⟩) LE.out).trans ei; have fj := (hbf'.cell (p := ⟨w.heap.size, 1, none⟩) LE.out).trans ej; have LF := Lib.hid (Nat.lt_of_lt_of_le LE.out hbf'.size); have BF := Lib.hid (BE.out.trans (hbf'.mono BE.out.size)); clear hbf hbf' ei ej)
          | (go_at_call 14; refine (DR'.out _).mono ?_; rintro e wg ⟨rfl, hbg⟩; have hbg' : Below wf.heap.size wf wg := (by first | exact hbg | exact undrew hbg); have gi := (hbg'.cell (p := ⟨w.heap.size, 0, none⟩) LF.out).trans fi; have gj := (hbg'.cell (p := ⟨w.heap.size, 1, none⟩) LF.out).trans fj; have LG := Lib.hid (Nat.lt_of_lt_of_le LF.out hbg'.size); have BG := Lib.hid (BF.out.trans (hbg'.mono BF.out.size)); clear hbg hbg' fi fj)
          | (go_at_call 11; refine (awake_any _).mono ?_; rintro e wh ⟨rfl, hbh⟩; have hbh' : Below wg.heap.size wg wh := (by first | exact hbh | exact undrew hbh); have hi := (hbh'.cell (p := ⟨w.heap.size, 0, none⟩) LG.out).trans gi; have hj := (hbh'.cell (p := ⟨w.heap.size, 1, none⟩) LG.out).trans gj; have BH := Lib.hid (BG.out.trans (hbh'.mono BG.out.size)); clear hbh hbh' gi gj))
      all_goals go_wp2
      all_goals go_ret
      all_goals exact ⟨rfl, BH.out⟩

set_option maxRecDepth 100000 in
theorem lifted (os : Os) (started : os.Started) (H : Type) (enc : TypeId × Value → H) :
    ReturnsInHanded {} Try.checked os 7 .any (Rows.idsPartsSpec.pre6 enc Try.prog Try.f7 Rows.idsPartsRow.domain false) (Rows.idsPartsSpec.post enc Try.prog Try.f7 false true false false) := by
  refine returnsInHanded_of_change_sized (C := Try.checked) own started (by kernel_rfl) Try.func7
    (ChangeSpec.witness6 (enc := enc) (C := Try.checked) false ⟨#[], #[.string ByteArray.empty, .int .u8 0, .agg #[.string ByteArray.empty, .string ByteArray.empty]], []⟩ 8 (by kernel_rfl) (by kernel_rfl) (by kernel_rfl) (by kernel_rfl)) ?_
  intro W base args ds gs before hval0 hW hcnd hsz _
  have hval : ∀ (j : Nat) t v, Try.f7.params[j]? = some t → args[j]? = some v → Value.okWide Try.prog W .any base t v := hval0
  have hW' := hW
  obtain ⟨p, q, hA0, hV, rfl, hfz, hnd⟩ := hW
  have hA : DataW.TrodAll enc Try.prog W 0 (fun _ => true) true Try.f7.params.toList args.toList ds p := hA0
  rw [Try.params7] at hA hval
  obtain ⟨v0, vs0, d0, ds0, p0, q0, hargs, rfl, rfl, h0, r0⟩ := trodAll_cons hA
  obtain ⟨v1, vs1, d1, ds1, p1, q1, rfl, rfl, rfl, h1, r1⟩ := trodAll_cons r0
  obtain ⟨v2, vs2, d2, ds2, p2, q2, rfl, rfl, rfl, h2, r2⟩ := trodAll_cons r1
  obtain ⟨rfl, rfl, rfl⟩ := trodAll_nil r2
  obtain rfl : args = #[v0, v1, v2] := by cases args; simp_all
  obtain ⟨rfl, rfl⟩ := trodVars_none hV
  obtain ⟨a0, rfl, rfl, rfl, w0⟩ := open_string Try.underlying9 (hval 0 9 v0 rfl rfl) h0
  have u0 : a0.size ≤ 140737488351232 := by have := sized_string hsz (j := 0) (t := 9) rfl rfl; rw [Array.length_toList] at this; exact this
  obtain ⟨a1, rfl, rfl, rfl, w1⟩ := open_int Try.underlying5 (hval 1 5 v1 rfl rfl) h1
  have k2 := h2
  have lt2 : ∀ x ∈ p2, x.block < W.heap.size := by obtain ⟨m, hm⟩ := k2; exact DataW.trod_lt m _ _ _ hm
  obtain ⟨fuel, hf⟩ := h2
  obtain ⟨xs, m, _, hxe, hcl, hxl, hel⟩ := DataW.trod_array Try.underlying35 hf
  rw [cells35] at hcl
  obtain ⟨c0, c1, rfl⟩ := agg_two v2 hcl
  obtain ⟨y0, y1, rfl⟩ : ∃ y0 y1, xs = [y0, y1] := by
    match xs, hxl with
    | [a, b], _ => exact ⟨a, b, rfl⟩
  have e0 := hel 0 (by omega)
  have e1 := hel 1 (by omega)
  simp [Value.cells, cells9] at e0 e1
  obtain ⟨p, hp1, hp2, _⟩ := DataW.trod_string Try.underlying9 e0
  obtain ⟨q, hq1, hq2, _⟩ := DataW.trod_string Try.underlying9 e1
  simp only [List.cons.injEq, and_true] at hp1 hq1
  subst hp1 hq1 hp2 hq2
  simp only [Prod.mk.injEq] at hxe
  obtain ⟨rfl, rfl⟩ := hxe
  have up := sized_two hsz (j := 2) (t := 35) rfl rfl Try.underlying35
  obtain ⟨wp, wq⟩ : p.size ≤ 140737488351232 ∧ q.size ≤ 140737488351232 := by
    obtain ⟨h1, h2⟩ := up
    rw [Array.length_toList] at h1 h2
    exact ⟨h1, h2⟩
  clear hA0 hval0
  refine (walk a0 a1 p q W w0 u0 w1 wp wq).mono fun e W' ⟨he, bel⟩ => ?_
  subst he
  exact ⟨_, rfl, _, _, _, [], _, [], hW', trodAll_mk1 (shut_bool Try.underlying4 _), (trodAll_cons_mk (shut_string Try.underlying9 w0) (trodAll_cons_mk (shut_int Try.underlying5 w1) (trodAll_cons_mk (Below.trod laidOut (by kernel_rfl) (of_decide_eq_true (by kernel_rfl)) k2 bel lt2) trodAll_mk0))), rfl, bel.frame _, fun h => by cases h⟩

theorem over : Rows.idsPartsRow.holds Try.pinned (OpenSpec.ofChange Rows.idsPartsSpec) :=
  OpenClaim.holds_of_wide 7 Try.f7 rfl rfl rfl rfl rfl rfl rfl ⟨rfl, rfl, rfl, rfl, rfl⟩ rfl rfl rfl rfl rfl (by kernel_rfl) Try.func7 (by kernel_rfl)
    (of_decide_eq_true (by kernel_rfl)) (by unfold Func.isWrapper; first | (rw [if_pos (by decide +kernel)]; kernel_rfl) | (rw [if_neg (by decide +kernel)]; exact ⟨rfl, rfl⟩))
    (fun os started H enc _ => lifted os started H enc)

theorem proved : Rows.IdsPartsSaid := over
#print axioms proved
end Go.Proofs.Ytgiamnbnlececaa.idsParts
