/- Relations: Sum of the program. Bound: a thousand events. -/
import Derived.Test.YtefajhfahnhcgaaV21
import Derived.Test.YtefajhfahnhcgaaV19
namespace Go.Proofs.Ytefajhfahnhcgaa
open Go Go.RowKit
set_option linter.unusedVariables false
set_option linter.unusedSimpArgs false

theorem later_any (b off : Nat) (E : Nat → Me) (o : Option Nat) (i : Nat) (w : World) (ho : ∀ j, o = some j → At w b (off + j * 29) (E j)) (h1 : At w b (off + i * 29) (E i)) : Calls Try.prog 31 #[pvO b off o, pv b off i] w fun r w' => r = .returned (pvO b off (ltS E o i)) ∧ Below w.heap.size w w' := by
  cases o with
  | none => exact later_nil (some ⟨b, off + i * 29, none⟩) w
  | some j =>
    refine (later_at b (off + j * 29) b (off + i * 29) (E j) (E i) w (ho j rfl) h1).mono ?_
    rintro r w' ⟨rfl, hb⟩
    refine ⟨?_, hb⟩
    show _ = Ending.returned (pvO b off (if beats (E j) (E i) = true then some i else some j))
    cases beats (E j) (E i) <;> rfl
theorem idOf_any (b off : Nat) (E : Nat → Me) (o : Option Nat) (w : World) (ho : ∀ j, o = some j → At w b (off + j * 29) (E j)) : Calls Try.prog 32 #[pvO b off o] w fun r w' => r = .returned (.int .i64 (idO E o)) ∧ w' = w := by
  cases o with
  | none => exact idOf_nil w
  | some j => exact idOf_at b (off + j * 29) (E j) w (ho j rfl)
/-- An edit of the event by its sender. -/
def isEd (E : Nat → Me) (z : Int) (sd : ByteArray) (i : Nat) : Bool := isR E 3 z i && decide ((E i).sd.toList = sd.toList)
theorem size45 : (Try.prog.info? 45).map (·.size) = some 4 := by kernel_rfl
theorem rcs_setRow {t : Nat} {A : Option Addr} {n c : Nat} {zs : List Cn.Rc} (hne : ∀ b off, A = some ⟨b, off, none⟩ → t < b) : ∀ (vs : List Value) (o : Nat) (w : World), Cn.Rcs w A n c zs → Cn.Rcs (w.setCells t o vs) A n c zs
  | [], _, _, h => h
  | v :: vs, o, w, h => rcs_setRow hne vs (o + 1) _ (h.grew (grown_setCell w ⟨t, o, none⟩ v) (fun b off e e1 => by have := hne b off e; simp at e1; omega))
/-- What Sum gives. -/
def SumP (w : World) (E : Nat → Me) (is : List Nat) (z : Int) (o : Option Nat) (r : Ending) (w' : World) : Prop :=
  match o with
  | none => r = .returned (.agg #[.int .i64 0, .slice none 0 0, .int .i64 0, .int .i64 0]) ∧ Below w.heap.size w w'
  | some t => ∃ A' c', r = .returned (.agg #[.int .i64 (idO E (ltL E (is.filter (isEd E z (E t).sd)))), .slice A' (reac (dsK E is z is.length)).length c', .int .i64 ((is.filter (isR E 2 z)).length : Int), .int .i64 (idO E (ltL E (is.filter (isR E 2 z))))]) ∧ Cn.Rcs w' A' (reac (dsK E is z is.length)).length c' (reac (dsK E is z is.length)) ∧ Below w.heap.size w w'
theorem lt_yes {E : Nat → Me} {is : List Nat} {k : Nat} (hk : k < is.length) {p : Nat → Bool} (h : p (is.getD k 0) = true) : ltL E ((is.take (k + 1)).filter p) = ltS E (ltL E ((is.take k).filter p)) (is.getD k 0) := by rw [filt_yes hk h, ltL_snoc]
theorem lt_at {E : Nat → Me} {is : List Nat} {k j : Nat} {p : Nat → Bool} (h : ltL E ((is.take k).filter p) = some j) : j ∈ is := List.mem_of_mem_take (List.mem_filter.1 (ltL_mem h)).1
set_option maxRecDepth 100000 in
set_option maxHeartbeats 16000000 in
theorem sum15 (A : Option Addr) (n c b off : Nat) (E : Nat → Me) (z : Int) (w : World) (h : Evm w A n E) (hA : 0 < n → A = some ⟨b, off, none⟩) (hn : n ≤ 1000) : Calls Try.prog 15 #[.slice A n c, .int .i64 z] w (SumP w E (onc E n) z (gt E n z)) := by
  have BA := Lib.hid ((Below.refl w.heap.size w).alloc (Nat.le_refl _) (.cells #[.int .i64 0, .slice none 0 0, .int .i64 0, .int .i64 0] 45))
  have X0 := Lib.hid (show Blk (w.alloc (.cells #[.int .i64 0, .slice none 0 0, .int .i64 0, .int .i64 0] 45)) w.heap.size (smC 0 none 0 0 0 0) 45 from blk_new w (smC 0 none 0 0 0 0) 45)
  have HP := Lib.hid (present28 A n c b off E _ (h.below BA.out) hA (by omega))
  have HFn := Lib.hid (fun (A' : Option Addr) (c' : Nat) (u : World) (hp : Pes u A' (onc E n).length c' b off E (onc E n)) => find29 A' (onc E n).length c' b off E (onc E n) z u hp)
  have HFd := Lib.hid (fd_gt E z n)
  rw [HFd.out] at HFn
  have hol := onc_len E n
  have HTm := Lib.hid (show ∀ t, gt E n z = some t → t ∈ onc E n from fun t ht => by
    rw [← HFd.out] at ht
    exact List.mem_of_find?_eq_some ht)
  unfold PesP at HP
  generalize onc E n = is at HP HFn hol HTm ⊢
  clear h hA HFd
  cases hg : gt E n z with
  | none =>
    rw [hg] at HFn
    unfold SumP
    simp only [pvO] at HFn ⊢
    clear hg HTm
    go_enter Try.func15, Try.ntmps15
    go_wp2_with (first
      | (go_at_call 28; (with_reducible refine HP.out.mono ?_); rintro r w1 ⟨A', c', rfl, hp, hb⟩; have PE := Lib.hid hp; have B1 := Lib.hid (BA.out.trans (hb.mono BA.out.size)); have X1 := Lib.hid (X0.out.below hb); clear hp hb)
      | (go_at_call 29; (with_reducible refine (HFn.out _ _ _ PE.out).mono ?_); rintro r w2 ⟨rfl, rfl⟩)
      | (refine wpList_store_mid rfl 45 _ _ rfl w.heap.size 0 #[.int .i64 0, .slice none 0 0, .int .i64 0, .int .i64 0] rfl rfl (Blk.there (n := 4) X1.out (by decide)) size45 (by simp [Value.oneCell']) ?_)
      | go_in)
    try simp only [Exit.inBlock, Exit.then]
    refine bodyPost_ret (results_cell_mid rfl _ _ w.heap.size (smC 0 none 0 0 0 0) 45 _ rfl (X1.out.setAll (smC 0 none 0 0 0 0) rfl) Try.underlying45 rfl size45) rfl ?_
    exact ⟨rfl, below_setRow B1.out (Nat.le_refl _) _ _⟩
  | some t =>
    have htm := HTm.out t hg
    rw [hg] at HFn
    unfold SumP
    simp only [pvO, pv] at HFn ⊢
    clear hg HTm
    have HRe := Lib.hid (fun (A' : Option Addr) (c' : Nat) (u : World) (hp : Pes u A' is.length c' b off E is) => reactions30 A' is.length c' b off E is z u hp (by omega))
    go_enter Try.func15, Try.ntmps15
    go_upto_region 7 with (first
      | (go_at_call 28; (with_reducible refine HP.out.mono ?_); rintro r w1 ⟨A', c', rfl, hp, hb⟩; have PE := Lib.hid hp; have B1 := Lib.hid (BA.out.trans (hb.mono BA.out.size)); have X1 := Lib.hid (X0.out.below hb); clear hp hb)
      | (go_at_call 29; (with_reducible refine (HFn.out _ _ _ PE.out).mono ?_); rintro r w2 ⟨rfl, rfl⟩)
      | (go_at_call 30; (with_reducible refine (HRe.out _ _ _ PE.out).mono ?_); rintro r w3 ⟨A3, c3, rfl, hr, hb, hnw⟩; have N3 := Lib.hid (show ∀ b' o', A3 = some ⟨b', o', none⟩ → w.heap.size < b' from fun b' o' e => Nat.lt_of_lt_of_le X1.out.lt (hnw b' o' e)); clear hnw; have R3 := Lib.hid hr; have P3 := Lib.hid (PE.out.below hb); have B3 := Lib.hid (B1.out.trans (hb.mono B1.out.size)); have X3 := Lib.hid (X1.out.below hb); clear hr hb)
      | (refine store_mid_as rfl 45 _ _ rfl w3.heap.size 0 #[.int .i64 0, .slice A3 (reac (dsK E is z is.length)).length c3, .int .i64 0, .int .i64 0] rfl rfl (Blk.there (n := 4) (blk_new w3 (smC 0 none 0 0 0 0) 45) (by decide)) size45 (by simp [Value.oneCell']) ?_; intro w4 hw4; have Y4 := Lib.hid (show Blk w4 w3.heap.size (smC 0 A3 (reac (dsK E is z is.length)).length c3 0 0) 45 by rw [hw4]; exact blk_alloc_set w3 (smC 0 none 0 0 0 0) (smC 0 A3 (reac (dsK E is z is.length)).length c3 0 0) 45 rfl); have C4 := Lib.hid (show Below w3.heap.size w3 w4 by rw [hw4]; exact below_setRow ((Below.refl _ _).alloc (Nat.le_refl _) _) (Nat.le_refl _) _ _); have B4 := Lib.hid (B3.out.trans (C4.out.mono B3.out.size)); have P4 := Lib.hid (P3.out.below C4.out); have R4 := Lib.hid (R3.out.below C4.out); have X4 := Lib.hid (X3.out.below C4.out); clear hw4)
      | fail)
    have HSd := Lib.hid (fun u (hb : Below w3.heap.size w3 u) => ((P3.out.below hb).at_ t htm).k2)
    have BI := C4
    clear HP HFn HRe PE B1 P4 R4 C4 X1 X0 BA
    generalize hsdT : (E t).sd = sdT at HSd ⊢
    have HsdT := Lib.hid hsdT
    clear hsdT
    go_wp2
    go_loopg [7, 8, 11, 26] is.length (fun gg s7 s8 _ s26 wr => ∃ kk : Nat, kk ≤ is.length ∧ is.length - kk ≤ gg ∧ s7 = pvO b off (ltL E ((is.take kk).filter (isEd E z sdT))) ∧ s8 = pvO b off (ltL E ((is.take kk).filter (isR E 2 z))) ∧ s26 = .int .i64 (kk : Int) ∧ Hid (Blk wr w3.heap.size (smC 0 A3 (reac (dsK E is z is.length)).length c3 (((is.take kk).filter (isR E 2 z)).length : Int) 0) 45) ∧ Hid (Below w3.heap.size w3 wr))
    case atStart => exact ⟨0, Nat.zero_le _, by omega, rfl, rfl, rfl, Y4, BI⟩
    case round =>
      clear Y4 BI B4
      obtain ⟨kk, hkk, hg, rfl, rfl, rfl, HY, BX⟩ := hrel
      by_cases hlt : kk < is.length
      · have hltz : (kk : Int) < (is.length : Int) := by omega
        have hk0 : (0 : Int) ≤ (kk : Int) := by omega
        obtain ⟨b1, o1, e1, q0, hat⟩ := (P3.out.below BX.out).get hlt
        subst e1
        have HRel := Lib.hid (fun u (hb : Below wr.heap.size wr u) => relationOf26 b (off + is.getD kk 0 * 29) (E (is.getD kk 0)) u (hat.below hb))
        have HAt := Lib.hid (fun u (hb : Below w3.heap.size w3 u) => (P3.out.below hb).at_ (is.getD kk 0) (getD_mem hlt))
        have HOe := Lib.hid (show ∀ j, ltL E ((is.take kk).filter (isEd E z sdT)) = some j → ∀ u, Below w3.heap.size w3 u → At u b (off + j * 29) (E j) from fun j hj u hb => (P3.out.below hb).at_ j (lt_at hj))
        have HOl := Lib.hid (show ∀ j, ltL E ((is.take kk).filter (isR E 2 z)) = some j → ∀ u, Below w3.heap.size w3 u → At u b (off + j * 29) (E j) from fun j hj u hb => (P3.out.below hb).at_ j (lt_at hj))
        have HEy := Lib.hid (fun h1 => lt_yes (E := E) (p := isEd E z sdT) hlt h1)
        have HEn := Lib.hid (fun h1 => filt_no (p := isEd E z sdT) hlt h1)
        have HTy := Lib.hid (fun h1 => And.intro (lt_yes (E := E) (p := isR E 2 z) hlt h1) (show (((is.take (kk + 1)).filter (isR E 2 z)).length : Int) = (((is.take kk).filter (isR E 2 z)).length : Int) + 1 by rw [filt_yes hlt h1, List.length_append]; rfl))
        have HTn := Lib.hid (fun h1 => filt_no (p := isR E 2 z) hlt h1)
        have HQe := Lib.hid (show isEd E z sdT (is.getD kk 0) = ((decide (relK (E (is.getD kk 0)) = 3) && decide (relI (E (is.getD kk 0)) = z)) && decide ((E (is.getD kk 0)).sd.toList = sdT.toList)) from rfl)
        have HQt := Lib.hid (show isR E 2 z (is.getD kk 0) = (decide (relK (E (is.getD kk 0)) = 2) && decide (relI (E (is.getD kk 0)) = z)) from rfl)
        have hcl := filt_len is kk (isR E 2 z)
        have HL31 := Lib.hid (fun o u (ho : ∀ j, o = some j → At u b (off + j * 29) (E j)) (h1 : At u b (off + is.getD kk 0 * 29) (E (is.getD kk 0))) => show Calls Try.prog 31 #[pvO b off o, .pointer (some ⟨b, off + is.getD kk 0 * 29, none⟩)] u _ from later_any b off E o (is.getD kk 0) u ho h1)
        unfold pv at q0
        clear hat
        generalize isEd E z sdT (is.getD kk 0) = te at HEy HEn HQe
        generalize isR E 2 z (is.getD kk 0) = tl at HTy HTn HQt
        generalize is.getD kk 0 = i at q0 HRel HAt HEy HTy HQe HQt HL31
        generalize hrk : relK (E i) = rk at HQe HQt HRel
        generalize hri : relI (E i) = ri at HQe HQt HRel
        clear hrk hri
        by_cases c3 : rk = 3
        · have HT2 := Lib.hid (HTn.out (by rw [HQt.out, c3]; rfl))
          subst c3
          by_cases c2 : ri = z
          · subst c2
            by_cases c4 : (E i).sd.toList = sdT.toList
            · have HE2 := Lib.hid (HEy.out (by rw [HQe.out, decide_eq_true c4, decide_eq_true rfl, decide_eq_true rfl]; rfl))
              have z4 : ((E i).sd.toList == sdT.toList) = true := beq_iff_eq.2 c4
              clear HEy HEn HTy HTn HQe HQt
              go_upto_region 12 with (first
                | (go_at_call 26; (with_reducible refine (HRel.out _ (Below.refl _ _)).mono ?_); rintro r w5 ⟨rfl, hb⟩; have BX5 := Lib.hid (BX.out.trans (hb.mono BX.out.size)); have HY5 := Lib.hid (HY.out.below hb); clear hb)
                | fail)
              have x2 := (HAt.out w5 BX5.out).k2
              have y2 := HSd.out w5 BX5.out
              go_quiet (fail)
              generalize hwd : World.drewN w5 _ = wd
              have BXd := Lib.hid (show Below w3.heap.size w3 wd by rw [← hwd]; exact bel_dn BX5.out _)
              have HYd := Lib.hid (show Blk wd w3.heap.size _ 45 by rw [← hwd]; exact HY5.out.below (bel_dn (Below.refl _ _) _))
              clear hwd x2 y2
              have CL := Lib.hid (HL31.out _ wd (fun j hj => HOe.out j hj wd BXd.out) (HAt.out wd BXd.out))
              go_wp2_with (first
                | (go_at_call 31; (with_reducible refine CL.out.mono ?_); rintro r w6 ⟨rfl, hb⟩; have BX6 := Lib.hid (BXd.out.trans (hb.mono BXd.out.size)); have HY6 := Lib.hid (HYd.out.below hb); clear hb)
                | go_in)
              go_roundg (is.length - (kk + 1))
              case measure => omega
              case rel => exact ⟨kk + 1, by omega, by omega, by rw [HE2.out], by rw [HT2.out], by go_num, Lib.hid (by rw [HT2.out]; exact HY6.out), BX6⟩
            · have HE2 := Lib.hid (congrArg (ltL E) (HEn.out (by rw [HQe.out, decide_eq_false c4, Bool.and_false])))
              have z4 : ((E i).sd.toList == sdT.toList) = false := beq_eq_false_iff_ne.2 c4
              clear HEy HEn HTy HTn HQe HQt
              go_upto_region 12 with (first
                | (go_at_call 26; (with_reducible refine (HRel.out _ (Below.refl _ _)).mono ?_); rintro r w5 ⟨rfl, hb⟩; have BX5 := Lib.hid (BX.out.trans (hb.mono BX.out.size)); have HY5 := Lib.hid (HY.out.below hb); clear hb)
                | fail)
              have x2 := (HAt.out w5 BX5.out).k2
              have y2 := HSd.out w5 BX5.out
              go_quiet (fail)
              generalize hwd : World.drewN w5 _ = wd
              have BXd := Lib.hid (show Below w3.heap.size w3 wd by rw [← hwd]; exact bel_dn BX5.out _)
              have HYd := Lib.hid (show Blk wd w3.heap.size _ 45 by rw [← hwd]; exact HY5.out.below (bel_dn (Below.refl _ _) _))
              clear hwd x2 y2
              go_wp2
              go_roundg (is.length - (kk + 1))
              case measure => omega
              case rel => exact ⟨kk + 1, by omega, by omega, by rw [HE2.out], by rw [HT2.out], by go_num, Lib.hid (by rw [HT2.out]; exact HYd.out), BXd⟩
          · have HE2 := Lib.hid (congrArg (ltL E) (HEn.out (by rw [HQe.out, decide_eq_false c2]; simp)))
            have z2 : (ri == z) = false := beq_eq_false_iff_ne.2 c2
            clear HEy HEn HTy HTn HQe HQt
            go_wp2_with (first
              | (go_at_call 26; (with_reducible refine (HRel.out _ (Below.refl _ _)).mono ?_); rintro r w5 ⟨rfl, hb⟩; have BX5 := Lib.hid (BX.out.trans (hb.mono BX.out.size)); have HY5 := Lib.hid (HY.out.below hb); clear hb)
              | go_in)
            go_roundg (is.length - (kk + 1))
            case measure => omega
            case rel => exact ⟨kk + 1, by omega, by omega, by rw [HE2.out], by rw [HT2.out], by go_num, Lib.hid (by rw [HT2.out]; exact HY5.out), BX5⟩
        · have HE2 := Lib.hid (congrArg (ltL E) (HEn.out (by rw [HQe.out, decide_eq_false c3]; simp)))
          have z3 : (rk == 3) = false := beq_eq_false_iff_ne.2 c3
          by_cases c5 : rk = 2
          · by_cases c2 : ri = z
            · have HT2 := Lib.hid (HTy.out (by rw [HQt.out, decide_eq_true c5, decide_eq_true c2]; rfl))
              subst c2 c5
              clear HEy HEn HTy HTn HQe HQt z3 c3
              generalize hcn : (((is.take kk).filter (isR E 2 ri)).length : Int) = cn at HY HT2
              have hcn0 : 0 ≤ cn := by omega
              have hcn1 : cn ≤ 1000 := by omega
              go_upto_region 15 with (first
                | (go_at_call 26; (with_reducible refine (HRel.out _ (Below.refl _ _)).mono ?_); rintro r w5 ⟨rfl, hb⟩; have BX5 := Lib.hid (BX.out.trans (hb.mono BX.out.size)); have HY5 := Lib.hid (HY.out.below hb); clear hb)
                | fail)
              have k2 := HY5.out.cell (i := 2) rfl
              have z2 := HY5.out.free 2
              go_upto_region 16 with (fail)
              generalize hwd : World.setCell w5 _ _ = wd
              have BXd := Lib.hid (show Below w3.heap.size w3 wd by rw [← hwd]; exact BX5.out.setCell (p := ⟨w3.heap.size, 2, none⟩) (Nat.le_refl _) _)
              have HYd := Lib.hid (show Blk wd w3.heap.size (smC 0 A3 (reac (dsK E is ri is.length)).length c3 (cn + 1) 0) 45 by rw [← hwd]; exact HY5.out.set 2 _)
              clear hwd k2 z2
              have CL := Lib.hid (HL31.out _ wd (fun j hj => HOl.out j hj wd BXd.out) (HAt.out wd BXd.out))
              go_wp2_with (first
                | (go_at_call 31; (with_reducible refine CL.out.mono ?_); rintro r w6 ⟨rfl, hb⟩; have BX6 := Lib.hid (BXd.out.trans (hb.mono BXd.out.size)); have HY6 := Lib.hid (HYd.out.below hb); clear hb)
                | go_in)
              go_roundg (is.length - (kk + 1))
              case measure => omega
              case rel => exact ⟨kk + 1, by omega, by omega, by rw [HE2.out], by rw [HT2.out.1], by go_num, Lib.hid (by rw [HT2.out.2]; exact HY6.out), BX6⟩
            · have HT2 := Lib.hid (HTn.out (by rw [HQt.out, decide_eq_false c2, Bool.and_false]))
              have z2 : (ri == z) = false := beq_eq_false_iff_ne.2 c2
              subst c5
              clear HEy HEn HTy HTn HQe HQt
              go_wp2_with (first
                | (go_at_call 26; (with_reducible refine (HRel.out _ (Below.refl _ _)).mono ?_); rintro r w5 ⟨rfl, hb⟩; have BX5 := Lib.hid (BX.out.trans (hb.mono BX.out.size)); have HY5 := Lib.hid (HY.out.below hb); clear hb)
                | go_in)
              go_roundg (is.length - (kk + 1))
              case measure => omega
              case rel => exact ⟨kk + 1, by omega, by omega, by rw [HE2.out], by rw [HT2.out], by go_num, Lib.hid (by rw [HT2.out]; exact HY5.out), BX5⟩
          · have HT2 := Lib.hid (HTn.out (by rw [HQt.out, decide_eq_false c5, Bool.false_and]))
            have z5 : (rk == 2) = false := beq_eq_false_iff_ne.2 c5
            clear HEy HEn HTy HTn HQe HQt
            go_wp2_with (first
              | (go_at_call 26; (with_reducible refine (HRel.out _ (Below.refl _ _)).mono ?_); rintro r w5 ⟨rfl, hb⟩; have BX5 := Lib.hid (BX.out.trans (hb.mono BX.out.size)); have HY5 := Lib.hid (HY.out.below hb); clear hb)
              | go_in)
            go_roundg (is.length - (kk + 1))
            case measure => omega
            case rel => exact ⟨kk + 1, by omega, by omega, by rw [HE2.out], by rw [HT2.out], by go_num, Lib.hid (by rw [HT2.out]; exact HY5.out), BX5⟩
      · have hltz : ¬ (kk : Int) < (is.length : Int) := by omega
        obtain rfl : kk = is.length := by omega
        simp only [List.take_length] at HY ⊢
        have HIe := Lib.hid (idOf_any b off E (ltL E (is.filter (isEd E z sdT))) wr (fun j hj => (P3.out.below BX.out).at_ j (List.mem_filter.1 (ltL_mem hj)).1))
        have HIl := Lib.hid (idOf_any b off E (ltL E (is.filter (isR E 2 z))) wr (fun j hj => (P3.out.below BX.out).at_ j (List.mem_filter.1 (ltL_mem hj)).1))
        have XR := Lib.hid (X3.out.below BX.out)
        have k0 := HY.out.cell (i := 0) rfl
        have k3 := HY.out.cell (i := 3) rfl
        have f0 := HY.out.free 0
        have f3 := HY.out.free 3
        go_upto_region 19 with (first
          | (go_at_call 32; (first | (with_reducible refine HIe.out.mono ?_) | (with_reducible refine HIl.out.mono ?_)); rintro r w7 ⟨rfl, rfl⟩)
          | fail)
        generalize hwd : World.setCell _ _ _ = wd
        have HYd := Lib.hid (show Blk wd w3.heap.size (smC (idO E (ltL E (is.filter (isEd E z sdT)))) A3 (reac (dsK E is z is.length)).length c3 ((is.filter (isR E 2 z)).length : Int) (idO E (ltL E (is.filter (isR E 2 z))))) 45 by rw [← hwd]; exact (HY.out.set 0 _).set 3 _)
        have hne : w.heap.size ≠ w3.heap.size := Nat.ne_of_lt X3.out.lt
        have XRd := Lib.hid (show Blk wd w.heap.size (smC 0 none 0 0 0 0) 45 by rw [← hwd]; exact (XR.out.other _ _ hne).other _ _ hne)
        have BXd := Lib.hid (show Below w3.heap.size w3 wd by rw [← hwd]; exact (BX.out.setCell (p := ⟨w3.heap.size, 0, none⟩) (Nat.le_refl _) _).setCell (p := ⟨w3.heap.size, 3, none⟩) (Nat.le_refl _) _)
        clear hwd k0 k3 f0 f3 HIe HIl HY BX XR hne
        have RXd := Lib.hid (R3.out.below BXd.out)
        have BWd := Lib.hid (B3.out.trans (BXd.out.mono B3.out.size))
        go_wp2_with (first
          | (refine wpList_load_mid rfl 45 _ rfl w3.heap.size 0 rfl (smC (idO E (ltL E (is.filter (isEd E z sdT)))) A3 (reac (dsK E is z is.length)).length c3 ((is.filter (isR E 2 z)).length : Int) (idO E (ltL E (is.filter (isR E 2 z))))) _ HYd.out.range Try.underlying45 rfl size45 ?_)
          | (refine wpList_store_mid rfl 45 _ _ rfl w.heap.size 0 (smC (idO E (ltL E (is.filter (isEd E z sdT)))) A3 (reac (dsK E is z is.length)).length c3 ((is.filter (isR E 2 z)).length : Int) (idO E (ltL E (is.filter (isR E 2 z))))).toArray rfl rfl (Blk.there (n := 4) XRd.out (by decide)) size45 (by simp [Value.oneCell']) ?_)
          | go_in)
        try simp only [Exit.inBlock, Exit.then]
        refine bodyPost_ret (results_cell_mid rfl _ _ w.heap.size (smC (idO E (ltL E (is.filter (isEd E z sdT)))) A3 (reac (dsK E is z is.length)).length c3 ((is.filter (isR E 2 z)).length : Int) (idO E (ltL E (is.filter (isR E 2 z))))) 45 _ rfl (XRd.out.setAll _ rfl) Try.underlying45 rfl size45) rfl ?_
        exact ⟨A3, c3, by rw [HsdT.out], rcs_setRow N3.out _ _ _ RXd.out, below_setRow BWd.out (Nat.le_refl _) _ _⟩
end Go.Proofs.Ytefajhfahnhcgaa
