/- The helper live returns true. No condition. -/
import Derived.Test.YtbedibiodlgegaaK14
import Derived.Test.YtbedibiodlgegaaK9
import Derived.Great.BuildSlice
namespace Go.Proofs.Ytbedibiodlgegaa
open Go Go.RowKit
set_option linter.unusedVariables false
set_option linter.unusedSimpArgs false

abbrev tA : ByteArray := ⟨#[64, 97, 58, 120]⟩
abbrev tB : ByteArray := ⟨#[64, 98, 58, 121]⟩
def evT : Evd := ⟨0, ⟨#[]⟩, tA, 11, false, ⟨#[]⟩, 0, 0, none, 0, 0, none, 0, 0, ⟨⟨#[]⟩, 0, 0, false, ⟨#[]⟩, 0, [], 0, [], ⟨0, fun _ => (⟨#[]⟩, 0), 0, fun _ => (0, 0), 0, 0, 0, 0, 0, 0, 0⟩⟩, ⟨none, 0, none, 0, none, 0, none, 0⟩, 0, ⟨#[]⟩, 0, [], []⟩
def evB : Evd := ⟨0, ⟨#[]⟩, tA, 2, false, tB, 0, 0, none, 0, 0, none, 0, 0, ⟨⟨#[]⟩, 4, 0, false, ⟨#[]⟩, 0, [], 0, [], ⟨0, fun _ => (⟨#[]⟩, 0), 0, fun _ => (0, 0), 0, 0, 0, 0, 0, 0, 0⟩⟩, ⟨none, 0, none, 0, none, 0, none, 0⟩, 0, ⟨#[]⟩, 0, [], []⟩
def evL : Evd := ⟨5, ⟨#[]⟩, ⟨#[]⟩, 1, true, ⟨#[]⟩, 0, 0, none, 0, 0, none, 0, 0, ⟨⟨#[]⟩, 0, 0, false, ⟨#[]⟩, 0, [], 0, [], ⟨0, fun _ => (⟨#[]⟩, 0), 0, fun _ => (0, 0), 0, 0, 0, 0, 0, 0, 0⟩⟩, ⟨none, 0, none, 0, none, 0, none, 0⟩, 0, ⟨#[]⟩, 0, [], []⟩
def evY (b : Nat) : Evd := ⟨0, ⟨#[]⟩, tA, 11, false, ⟨#[]⟩, 0, 0, none, 0, 0, some ⟨b, 0, none⟩, 1, 1, ⟨⟨#[]⟩, 0, 0, false, ⟨#[]⟩, 0, [], 0, [], ⟨0, fun _ => (⟨#[]⟩, 0), 0, fun _ => (0, 0), 0, 0, 0, 0, 0, 0, 0⟩⟩, ⟨none, 0, none, 0, none, 0, none, 0⟩, 0, ⟨#[]⟩, 0, [], [5]⟩
def wantL : List Ky.Rc := [⟨1, ⟨#[]⟩, 0⟩, ⟨2, tA, 0⟩, ⟨2, tB, 0⟩, ⟨3, ⟨#[]⟩, 0⟩]
def stL : List Ky.Rc := [⟨1, ⟨#[]⟩, 5⟩, ⟨2, tA, 3⟩, ⟨7, ⟨#[]⟩, 4⟩]
def EL : Nat → Evd := fun _ => evL
theorem kB : keysE evB = wantL := by kernel_rfl
theorem kT : keysE evT = [⟨1, ⟨#[]⟩, 0⟩, ⟨2, tA, 0⟩, ⟨3, ⟨#[]⟩, 0⟩] := by kernel_rfl
theorem kL : keysE evL = [] := by kernel_rfl
theorem sT : Q.M.st (selL (keysE evT) stL) = [3, 5] := (Q.M.puts_st _).symm.trans (by kernel_rfl)
theorem f1 : fitsE EL 1 evT = 16 := by kernel_rfl
theorem f2 : fitsE EL 0 evL = 0 := by kernel_rfl
theorem f3 (b : Nat) : fitsE EL 1 (evY b) = 0 := by kernel_rfl
theorem f4 (b : Nat) : fitsE EL 0 (evY b) = 14 := by kernel_rfl
theorem fr (b : Nat) : fromD EL 1 (evY b) = [dat evL] := by kernel_rfl
theorem bT : Try.prog.built 34 [(3, .int .i64 11), (2, .string tA)] = some (cellsE evT).toArray := by kernel_rfl
theorem bC : Try.prog.built 30 [(1, .int .i64 4)] = some (cells evB.C evB.a).toArray := by kernel_rfl
theorem bB : Try.prog.built 34 [(3, .int .i64 2), (2, .string tA), (5, .string tB), (10, .agg (cells evB.C evB.a).toArray)] = some (cellsE evB).toArray := by kernel_rfl
theorem bL : Try.prog.built 34 [(0, .int .i64 5), (3, .int .i64 1), (4, .bool true)] = some (cellsE evL).toArray := by kernel_rfl
theorem bY (b : Nat) : Try.prog.built 34 [(3, .int .i64 11), (2, .string tA), (9, .slice (some ⟨b, 0, none⟩) 1 1)] = some (cellsE (evY b)).toArray := by kernel_rfl
theorem cellsE_all (e : Evd) : (cellsE e).toArray.all (·.oneCell') = true := by simp [Value.oneCell']
theorem new_event (w : World) (e : Evd) : ∃ w1, (w.alloc (.cells z29.toArray 34)).setCells w.heap.size 0 (cellsE e).toArray.toList = w1 ∧ Blk w1 w.heap.size (cellsE e) 34 ∧ Below w.heap.size w w1 ∧ w1.heap.size = w.heap.size + 1 :=
  ⟨_, rfl, (blk_new w z29 34).setAll _ rfl, below_setAll (Nat.le_refl _) _ _ _ ((Below.refl _ w).alloc (Nat.le_refl _) _), by rw [size_setAll, World.size_alloc]⟩
theorem new_event2 (w : World) (cs : List Value) (T : TypeId) (e : Evd) : ∃ w1, ((w.alloc (.cells cs.toArray T)).alloc (.cells z29.toArray 34)).setCells (w.heap.size + 1) 0 (cellsE e).toArray.toList = w1 ∧ Blk w1 (w.heap.size + 1) (cellsE e) 34 ∧ Blk w1 w.heap.size cs T ∧ Below w.heap.size w w1 := by
  have h := blk_new (w.alloc (.cells cs.toArray T)) z29 34
  rw [World.size_alloc] at h
  exact ⟨_, rfl, h.setAll _ rfl, ((blk_new w cs T).alloc _).otherAll _ _ _ (by omega), below_setAll (by omega) _ _ _ (((Below.refl _ w).alloc (Nat.le_refl _) _).alloc (by simp) _)⟩
theorem there2 (w : World) (cs : List Value) (T : TypeId) : ((w.alloc (.cells cs.toArray T)).alloc (.cells z29.toArray 34)).there (w.heap.size + 1) 0 29 := by
  have h := blk_new (w.alloc (.cells cs.toArray T)) z29 34
  rw [World.size_alloc] at h
  exact Blk.there (n := 29) h (by decide)
theorem wf0 (e : Evd) (h1 : e.n8 ≤ 100) (h2 : e.n9 ≤ 100) (h3 : e.e1.size ≤ 100 ∧ e.e2.size ≤ 100 ∧ e.e5.size ≤ 100 ∧ e.e27.size ≤ 100 ∧ e.C.tx.size ≤ 100 ∧ e.C.via.size ≤ 100 ∧ e.C.lv.nU = 0) (h4 : (0 ≤ e.e0 ∧ e.e0 ≤ 100) ∧ (0 ≤ e.e3 ∧ e.e3 ≤ 100) ∧ (0 ≤ e.e6 ∧ e.e6 ≤ 100) ∧ (0 ≤ e.e7 ∧ e.e7 ≤ 100) ∧ (0 ≤ e.e26 ∧ e.e26 ≤ 100) ∧ (0 ≤ e.e28 ∧ e.e28 ≤ 100) ∧ (0 ≤ e.C.n ∧ e.C.n ≤ 100) ∧ (0 ≤ e.C.tg ∧ e.C.tg ≤ 100)) : Wfe e := by
  obtain ⟨a1, a2, a3, a4, a5, a6, a7⟩ := h3
  obtain ⟨b1, b2, b3, b4, b5, b6, b7, b8⟩ := h4
  exact ⟨by omega, by omega, by omega, by omega, by omega, by omega, by omega, by omega, fun j hj => by omega, ⟨by omega, by omega⟩, ⟨by omega, by omega⟩, ⟨by omega, by omega⟩, ⟨by omega, by omega⟩, ⟨by omega, by omega⟩, ⟨by omega, by omega⟩, ⟨by omega, by omega⟩, ⟨by omega, by omega⟩⟩
theorem wfT : Wfe evT := wf0 evT (by decide) (by decide) (by decide) (by decide)
theorem wfB : Wfe evB := wf0 evB (by decide) (by decide) (by decide) (by decide)
theorem wfL : Wfe evL := wf0 evL (by decide) (by decide) (by decide) (by decide)
theorem wfY (b : Nat) : Wfe (evY b) := wf0 (evY b) (show (0 : Nat) ≤ 100 by decide) (show (1 : Nat) ≤ 100 by decide) (show (0 : Nat) ≤ 100 ∧ tA.size ≤ 100 ∧ (0 : Nat) ≤ 100 ∧ (0 : Nat) ≤ 100 ∧ (0 : Nat) ≤ 100 ∧ (0 : Nat) ≤ 100 ∧ (0 : Nat) = 0 by decide) (show ((0 : Int) ≤ 0 ∧ (0 : Int) ≤ 100) ∧ ((0 : Int) ≤ 11 ∧ (11 : Int) ≤ 100) ∧ ((0 : Int) ≤ 0 ∧ (0 : Int) ≤ 100) ∧ ((0 : Int) ≤ 0 ∧ (0 : Int) ≤ 100) ∧ ((0 : Int) ≤ 0 ∧ (0 : Int) ≤ 100) ∧ ((0 : Int) ≤ 0 ∧ (0 : Int) ≤ 100) ∧ ((0 : Int) ≤ 0 ∧ (0 : Int) ≤ 100) ∧ ((0 : Int) ≤ 0 ∧ (0 : Int) ≤ 100) by decide)
theorem ct_nil (w : World) (C : Ct) (a : Ads) (h : a = ad0) (h1 : C.nA = 0 ∧ C.al = [] ∧ C.nD = 0 ∧ C.dn = [] ∧ C.lv.nU = 0 ∧ C.lv.nK = 0) : IsCt w C a := by
  subst h
  obtain ⟨h1, h2, h3, h4, h5, h6⟩ := h1
  exact ⟨by rw [h1, h2]; exact Txs.nil w, by rw [h3, h4]; exact Txs.nil w, by rw [h5]; exact Rws.zero _ _ _ _ _ (fun _ => rfl), by rw [h6]; exact Rws.zero _ _ _ _ _ (fun _ => rfl)⟩
theorem fe0 (e : Evd) (h : e.n8 = 0 ∧ e.n9 ≤ 1 ∧ e.C.nA = 0 ∧ e.C.nD = 0 ∧ e.C.lv.nU = 0 ∧ e.C.lv.nK = 0) : Fe e := by
  obtain ⟨h1, h2, h3, h4, h5, h6⟩ := h
  unfold Fe Few
  omega
theorem xL (w : World) (b : Nat) (h : Blk w b (cellsE evL) 34) : Evx w (some ⟨b, 0, none⟩) 1 EL := by
  refine ⟨by omega, fun _ => ⟨b, 0, rfl, h.lt, fun j hj => ?_⟩, fun j hj => ct_nil w _ _ rfl ⟨rfl, rfl, rfl, rfl, rfl, rfl⟩, fun j hj => wfL, fun j hj => ⟨Its.nil w, Its.nil w⟩⟩
  obtain rfl : j = 0 := by omega
  exact h.range
theorem xN (w : World) (E : Nat → Evd) : Evx w none 0 E := ⟨by omega, fun h => absurd h (Nat.lt_irrefl _), fun j hj => absurd hj (Nat.not_lt_zero _), fun j hj => absurd hj (Nat.not_lt_zero _), fun j hj => absurd hj (Nat.not_lt_zero _)⟩
theorem i5 (w : World) (b : Nat) (h : Blk w b [.int .i64 5] 3) : Its w (some ⟨b, 0, none⟩) 1 1 [5] := by
  refine ⟨⟨fun j hj => rfl, fun j hj u hu => ?_, by unfold maxLen; omega, (fun e => by cases e), .inr ⟨b, 0, rfl, h.lt, fun j hj i v hv => ?_⟩⟩, rfl, Nat.le_refl _, fun z hz => ?_⟩
  · simp [rowI] at hu; subst hu; rfl
  · obtain rfl : j = 0 := by omega
    have hi : i = 0 := by
      have := (List.getElem?_eq_some_iff.1 hv).1
      simpa [rowI] using this
    subst hi
    have : v = .int .i64 5 := by simpa [rowI] using hv.symm
    subst this
    exact h.cell rfl
  · have : z = 5 := by simpa using hz
    subst this
    omega
theorem want_is (w : World) (b : Nat) (h : Blk w b [.int .i64 1, .string ⟨#[]⟩, .int .i64 0, .int .i64 2, .string tA, .int .i64 0, .int .i64 2, .string tB, .int .i64 0, .int .i64 3, .string ⟨#[]⟩, .int .i64 0] 56) : EnR w (some ⟨b, 0, none⟩) 4 4 wantL :=
  En.Rcs.ofBlk (zs := wantL.map toE) h rfl rfl (Nat.le_refl _) (by omega) (fun p hp => by simp [wantL, toE] at hp; rcases hp with rfl | rfl | rfl | rfl <;> (unfold En.fitR; decide))
theorem st_is (w : World) (b : Nat) (h : Blk w b [.int .i64 1, .string ⟨#[]⟩, .int .i64 5, .int .i64 2, .string tA, .int .i64 3, .int .i64 7, .string ⟨#[]⟩, .int .i64 4] 56) : EnR w (some ⟨b, 0, none⟩) 3 3 stL :=
  En.Rcs.ofBlk (zs := stL.map toE) h rfl rfl (Nat.le_refl _) (by omega) (fun p hp => by simp [stL, toE] at hp; rcases hp with rfl | rfl | rfl <;> (unfold En.fitR; decide))
theorem two35 (w : World) : Q.Ints (w.alloc (.cells #[.int .i64 3, .int .i64 5] 3)) (some ⟨w.heap.size, 0, none⟩) 2 2 [3, 5] := by
  refine ⟨rfl, Nat.le_refl _, by omega, (fun e => by cases e), .inr ⟨w.heap.size, 0, rfl, by simp, fun i hi => ?_⟩⟩
  obtain rfl | rfl : i = 0 ∨ i = 1 := by omega
  · exact (blk_new w [.int .i64 3, .int .i64 5] 3).cell (i := 0) rfl
  · exact (blk_new w [.int .i64 3, .int .i64 5] 3).cell (i := 1) rfl
theorem evs_one {w : World} {A : Option Addr} {es : List Evd} {e : Evd} (h : Evx w A 1 (fun j => es.getD j ev0)) (he : es.map dat = [dat e]) : ∃ b off, A = some ⟨b, off, none⟩ ∧ ∀ v, Below w.heap.size w v → v.cell? ⟨b, off, none⟩ = some (.int .i64 e.e0) := by
  obtain ⟨b, off, e1, hlt, hc⟩ := h.at_ (by omega)
  have h1 : es.length = 1 := by have := congrArg List.length he; simpa using this
  have h0 : (es.getD 0 ev0).e0 = e.e0 := by
    have h2 : (es.map dat)[0]? = some (dat e) := by rw [he]; rfl
    rw [List.getElem?_map, List.getElem?_eq_getElem (by omega)] at h2
    rw [List.getD_eq_getElem?_getD, List.getElem?_eq_getElem (by omega)]
    have h3 : dat es[0] = dat e := Option.some.inj h2
    have h4 := congrArg Evd.e0 h3
    exact h4
  refine ⟨b, off, e1, fun v hb => (hb.cell (p := ⟨b, off, none⟩) hlt).trans ?_⟩
  rw [← h0]
  have := hc 0 (by omega) 0 _ rfl
  simpa using this
set_option maxRecDepth 100000 in
set_option maxHeartbeats 8000000 in
theorem live14 (w : World) : Calls Try.prog 14 #[] w fun e w' => e = .returned (.bool true) ∧ Below w.heap.size w w' := by
  go_enter Try.func14, Try.ntmps14
  go_upto_region 2 with (first
    | (refine wpList_buildTo rfl 34 _ rfl (some 8) rfl (cellsE evT).toArray bT ?_)
    | (refine wpList_store_mid rfl 34 _ _ rfl w.heap.size 0 (cellsE evT).toArray rfl rfl (Blk.there (n := 29) (blk_new w z29 34) (by decide)) size39 (cellsE_all _) ?_; obtain ⟨w1, hw, hx, hb, hs⟩ := new_event w evT; rw [hw]; have Xw1 := Lib.hid hx; have Dw1 := Lib.hid hb; have Zw1 := Lib.hid hs; clear hw hx hb hs)
    | fail)
  go_upto_region 3 with (first
    | (refine wpList_buildTo rfl 30 _ rfl (some 9) rfl (cells evB.C evB.a).toArray bC ?_)
    | (refine wpList_buildTo rfl 34 _ rfl (some 10) rfl (cellsE evB).toArray bB ?_)
    | (refine wpList_store_mid rfl 34 _ _ rfl w1.heap.size 0 (cellsE evB).toArray rfl rfl (Blk.there (n := 29) (blk_new w1 z29 34) (by decide)) size39 (cellsE_all _) ?_; obtain ⟨w2, hw, hx, hb, hs⟩ := new_event w1 evB; rw [hw]; have Xw2 := Lib.hid hx; have Dw2 := Lib.hid hb; have Zw2 := Lib.hid hs; clear hw hx hb hs)
    | fail)
  go_upto_region 4 with (fail)
  have X3 := Lib.hid (blk_new w2 [.int .i64 1, .string ⟨#[]⟩, .int .i64 0, .int .i64 2, .string tA, .int .i64 0, .int .i64 2, .string tB, .int .i64 0, .int .i64 3, .string ⟨#[]⟩, .int .i64 0] 56)
  have D3 := Lib.hid ((Below.refl _ w2).alloc (Nat.le_refl _) (.cells #[.int .i64 1, .string ⟨#[]⟩, .int .i64 0, .int .i64 2, .string tA, .int .i64 0, .int .i64 2, .string tB, .int .i64 0, .int .i64 3, .string ⟨#[]⟩, .int .i64 0] 56))
  generalize hw3 : w2.alloc _ = w3 at X3 D3 ⊢
  clear hw3
  go_upto_region 5 with (fail)
  have X4 := Lib.hid (blk_new w3 [.int .i64 1, .string ⟨#[]⟩, .int .i64 5, .int .i64 2, .string tA, .int .i64 3, .int .i64 7, .string ⟨#[]⟩, .int .i64 4] 56)
  have D4 := Lib.hid ((Below.refl _ w3).alloc (Nat.le_refl _) (.cells #[.int .i64 1, .string ⟨#[]⟩, .int .i64 5, .int .i64 2, .string tA, .int .i64 3, .int .i64 7, .string ⟨#[]⟩, .int .i64 4] 56))
  generalize hw4 : w3.alloc _ = w4 at X4 D4 ⊢
  clear hw4
  go_upto_region 6 with (first
    | (refine wpList_buildTo rfl 34 _ rfl (some 20) rfl (cellsE evL).toArray bL ?_)
    | fail)
  have X5 : Hid (Blk (w4.alloc (.cells #[.int .i64 5, .string ⟨#[]⟩, .string ⟨#[]⟩, .int .i64 1, .bool true, .string ⟨#[]⟩, .int .i64 0, .int .i64 0, .slice none 0 0, .slice none 0 0, .string ⟨#[]⟩, .int .i64 0, .int .i64 0, .bool false, .string ⟨#[]⟩, .slice none 0 0, .slice none 0 0, .slice none 0 0, .slice none 0 0, .int .i64 0, .int .i64 0, .int .i64 0, .int .i64 0, .int .i64 0, .int .i64 0, .int .i64 0, .int .i64 0, .string ⟨#[]⟩, .int .i64 0] 34)) w4.heap.size (cellsE evL) 34) := Lib.hid (blk_new w4 (cellsE evL) 34)
  have D5 := Lib.hid ((Below.refl _ w4).alloc (Nat.le_refl _) (.cells #[.int .i64 5, .string ⟨#[]⟩, .string ⟨#[]⟩, .int .i64 1, .bool true, .string ⟨#[]⟩, .int .i64 0, .int .i64 0, .slice none 0 0, .slice none 0 0, .string ⟨#[]⟩, .int .i64 0, .int .i64 0, .bool false, .string ⟨#[]⟩, .slice none 0 0, .slice none 0 0, .slice none 0 0, .slice none 0 0, .int .i64 0, .int .i64 0, .int .i64 0, .int .i64 0, .int .i64 0, .int .i64 0, .int .i64 0, .int .i64 0, .string ⟨#[]⟩, .int .i64 0] 34))
  generalize hw5 : w4.alloc _ = w5 at X5 D5 ⊢
  clear hw5
  go_upto_region 7 with (first
    | (refine wpList_buildTo rfl 34 _ rfl (some 23) rfl (cellsE (evY w5.heap.size)).toArray (bY w5.heap.size) ?_)
    | (refine wpList_store_mid rfl 34 _ _ rfl (w5.heap.size + 1) 0 (cellsE (evY w5.heap.size)).toArray rfl rfl (there2 w5 [.int .i64 5] 3) size39 (cellsE_all _) ?_; obtain ⟨w7, hw, hx, hx2, hb⟩ := new_event2 w5 [.int .i64 5] 3 (evY w5.heap.size); rw [hw]; have X7 := Lib.hid hx; have X6 := Lib.hid hx2; have D7 := Lib.hid hb; clear hw hx hx2 hb)
    | fail)
  have E5 := Lib.hid (D7.out)
  have E4 := Lib.hid (D5.out.trans (E5.out.mono D5.out.size))
  have E3 := Lib.hid (D4.out.trans (E4.out.mono D4.out.size))
  have E2 := Lib.hid (D3.out.trans (E3.out.mono D3.out.size))
  have E1 := Lib.hid (Dw2.out.trans (E2.out.mono Dw2.out.size))
  have E0 := Lib.hid (Dw1.out.trans (E1.out.mono Dw1.out.size))
  have LT := Lib.hid (fun u (hb : Below w7.heap.size w7 u) => ((Xw1.out.below E1.out).below hb).range)
  have LB := Lib.hid (fun u (hb : Below w7.heap.size w7 u) => ((Xw2.out.below E2.out).below hb).range)
  have LL := Lib.hid (fun u (hb : Below w7.heap.size w7 u) => ((X5.out.below E5.out).below hb).range)
  have LY := Lib.hid (fun u (hb : Below w7.heap.size w7 u) => (X7.out.below hb).range)
  have HW := Lib.hid (want_is w7 w2.heap.size (X3.out.below E3.out))
  have HS := Lib.hid (st_is w7 w3.heap.size (X4.out.below E4.out))
  have HL := Lib.hid (xL w7 w4.heap.size (X5.out.below E5.out))
  have H5 := Lib.hid (i5 w7 w5.heap.size X6.out)
  clear Xw1 Dw1 Zw1 Xw2 Dw2 Zw2 X3 D3 X4 D4 X5 D5 X6 X7 D7 E5 E4 E3 E2 E1
  generalize hb1 : w.heap.size = b1 at LT E0 ⊢
  generalize w1.heap.size = b2 at LB ⊢
  generalize w2.heap.size = b3 at HW ⊢
  generalize w3.heap.size = b4 at HS ⊢
  generalize w4.heap.size = b5 at LL HL ⊢
  generalize w5.heap.size + 1 = b7 at LY ⊢
  generalize w5.heap.size = b6 at LY H5 ⊢
  have CF := Lib.hid (fun u (hb : Below w7.heap.size w7 u) => (show Calls Try.prog 22 #[.slice (some ⟨b5, 0, none⟩) 1 1, .agg (cellsE (evY b6)).toArray] u (fun e w' => ∃ (A : Option Addr) (c : Nat) (es : List Evd), e = .returned (.slice A 1 c) ∧ Evx w' A 1 (fun j => es.getD j ev0) ∧ es.map dat = [dat evL] ∧ Below u.heap.size u w') from by have := from22 (some ⟨b5, 0, none⟩) 1 1 EL (evY b6) u (HL.out.below hb) (wfY b6) (H5.out.below hb) (show (1 : Nat) ≤ 1000000 by omega) (fun j hj => fe0 evL ⟨rfl, by decide, rfl, rfl, rfl, rfl⟩); rw [fr] at this; exact this))
  have C1 := Lib.hid (fun u => (show Calls Try.prog 12 #[.agg (cellsE evB).toArray] u (fun e w' => ∃ A c, e = .returned (.slice A 4 c) ∧ EnR w' A 4 c wantL ∧ Below u.heap.size u w') from by have := keys12 evB u wfB; rw [kB] at this; exact this))
  have C2 := Lib.hid (fun A c u (h1 : EnR u A 4 c wantL) (hb : Below w7.heap.size w7 u) => same11 A (some ⟨b3, 0, none⟩) 4 c 4 wantL u h1 (HW.out.below hb) (by omega))
  have C3 := Lib.hid (fun u => (show Calls Try.prog 12 #[.agg (cellsE evT).toArray] u (fun e w' => ∃ A c, e = .returned (.slice A 3 c) ∧ True ∧ Below u.heap.size u w') from (by have := keys12 evT u wfT; rw [kT] at this; exact this.mono fun e w' ⟨A, c, h1, _, h2⟩ => ⟨A, c, h1, trivial, h2⟩)))
  have C4 := Lib.hid (fun u => (show Calls Try.prog 12 #[.agg (cellsE evL).toArray] u (fun e w' => ∃ A c, e = .returned (.slice A 0 c) ∧ True ∧ Below u.heap.size u w') from (by have := keys12 evL u wfL; rw [kL] at this; exact this.mono fun e w' ⟨A, c, h1, _, h2⟩ => ⟨A, c, h1, trivial, h2⟩)))
  have C5 := Lib.hid (fun u (hb : Below w7.heap.size w7 u) => (show Calls Try.prog 16 #[.agg (cellsE evT).toArray, .slice (some ⟨b4, 0, none⟩) 3 3] u (fun e w' => ∃ A c, e = .returned (.slice A 2 c) ∧ Q.Ints w' A 2 c [3, 5] ∧ Below u.heap.size u w') from by have := select16 evT (some ⟨b4, 0, none⟩) 3 3 stL u wfT (HS.out.below hb) (by omega); rw [sT] at this; exact this))
  have C6 := Lib.hid (fun A c u (h : Q.Ints u A 2 c [3, 5]) => Q.same_any A 2 c [3, 5] (some ⟨u.heap.size, 0, none⟩) 2 2 [3, 5] (u.alloc (.cells #[.int .i64 3, .int .i64 5] 3)) (h.below ((Below.refl _ _).alloc (Nat.le_refl _) _)) (two35 u))
  have C7 := Lib.hid (fun u (hb : Below w7.heap.size w7 u) => fits19 (some ⟨b5, 0, none⟩) 1 1 EL evT u (HL.out.below hb) wfT (Its.nil u) (show (0 : Nat) ≤ 1000000 by omega))
  have C8 := Lib.hid (fun u => fits19 none 0 0 EL evL u (xN u EL) wfL (Its.nil u) (show (0 : Nat) ≤ 1000000 by omega))
  have C9 := Lib.hid (fun u (hb : Below w7.heap.size w7 u) => fits19 (some ⟨b5, 0, none⟩) 1 1 EL (evY b6) u (HL.out.below hb) (wfY b6) (H5.out.below hb) (show (1 : Nat) ≤ 1000000 by omega))
  have C10 := Lib.hid (fun u (hb : Below w7.heap.size w7 u) => fits19 none 0 0 EL (evY b6) u (xN u EL) (wfY b6) (H5.out.below hb) (show (1 : Nat) ≤ 1000000 by omega))
  rw [decide_eq_true (rfl : ([3, 5] : List Int) = [3, 5])] at C6
  rw [f1] at C7
  rw [f2] at C8
  rw [f3] at C9
  rw [f4] at C10
  have B7 := Lib.hid (Below.refl w7.heap.size w7)
  have L7 := Lib.hid (LY.out _ B7.out)
  clear HW HS HL H5
  go_upto_region 8 with (first
    | (refine wpList_load_mid rfl 34 _ rfl b7 0 rfl (cellsE (evY b6)) _ L7.out Try.underlying34 rfl size39 ?_)
    | (go_at_call 22; (with_reducible refine (CF.out _ B7.out).mono ?_); rintro e u0 ⟨A0, c0, es, rfl, hx, he, hb⟩; have HF := Lib.hid (evs_one hx he); have B0 := Lib.hid (B7.out.trans (hb.mono B7.out.size)); have L0 := Lib.hid (LB.out _ B0.out); clear hx he hb)
    | fail)
  clear L7 CF
  (try simp only [List.append_eq, List.cons_append, List.nil_append])
  go_wp2_with (first
    | (refine load_mid_g (by rfl) 34 _ rfl b2 0 rfl (cellsE evB) _ L0.out Try.underlying34 rfl size39 ?_)
    | (go_at_call 12; (with_reducible refine (C1.out _).mono ?_); rintro e u1 ⟨A1, c1, rfl, h1, hb⟩; have R1 := Lib.hid h1; have B1 := Lib.hid (B0.out.trans (hb.mono B0.out.size)); have F1 := Lib.hid hb; clear h1 hb)
    | (go_at_call 11; (with_reducible refine (C2.out _ _ _ R1.out B1.out).mono ?_); rintro e u2 ⟨rfl, hb⟩; have B2 := Lib.hid (B1.out.trans (hb.mono B1.out.size)); have F2 := Lib.hid (F1.out.trans (hb.mono F1.out.size)); have L2 := Lib.hid (LT.out _ B2.out); clear hb)
    | (refine load_mid_g (by rfl) 34 _ rfl b1 0 rfl (cellsE evT) _ L2.out Try.underlying34 rfl size39 ?_)
    | (go_at_call 12; (with_reducible refine (C3.out _).mono ?_); rintro e u3 ⟨A3, c3, rfl, h1, hb⟩; have B3 := Lib.hid (B2.out.trans (hb.mono B2.out.size)); have F3 := Lib.hid (F2.out.trans (hb.mono F2.out.size)); have L3 := Lib.hid (LL.out _ B3.out); clear h1 hb)
    | (refine load_mid_g (by rfl) 34 _ rfl b5 0 rfl (cellsE evL) _ L3.out Try.underlying34 rfl size39 ?_)
    | (go_at_call 12; (with_reducible refine (C4.out _).mono ?_); rintro e u4 ⟨A4, c4, rfl, h1, hb⟩; have B4 := Lib.hid (B3.out.trans (hb.mono B3.out.size)); have F4 := Lib.hid (F3.out.trans (hb.mono F3.out.size)); have L4 := Lib.hid (LT.out _ B4.out); clear h1 hb)
    | (refine load_mid_g (by rfl) 34 _ rfl b1 0 rfl (cellsE evT) _ L4.out Try.underlying34 rfl size39 ?_)
    | (go_at_call 16; (with_reducible refine (C5.out _ B4.out).mono ?_); rintro e u5 ⟨A5, c5, rfl, h1, hb⟩; have I5 := Lib.hid h1; have B5 := Lib.hid (B4.out.trans (hb.mono B4.out.size)); have F5 := Lib.hid (F4.out.trans (hb.mono F4.out.size)); clear h1 hb)
    | (go_at_call 15; (with_reducible refine (C6.out _ _ _ I5.out).mono ?_); rintro e u6 ⟨rfl, hb⟩; have B6 := Lib.hid ((B5.out.alloc B5.out.size _).trans (hb.mono (B5.out.alloc B5.out.size _).size)); have F6 := Lib.hid ((F5.out.alloc F5.out.size _).trans (hb.mono (F5.out.alloc F5.out.size _).size)); have L6 := Lib.hid (LT.out _ B6.out); clear hb)
    | (refine load_mid_g (by rfl) 34 _ rfl b1 0 rfl (cellsE evT) _ L6.out Try.underlying34 rfl size39 ?_)
    | (go_at_call 19; (with_reducible refine (C7.out _ B6.out).mono ?_); rintro e u7 ⟨rfl, hb⟩; have B8 := Lib.hid (B6.out.trans (hb.mono B6.out.size)); have F8 := Lib.hid (F6.out.trans (hb.mono F6.out.size)); have L8 := Lib.hid (LL.out _ B8.out); clear hb)
    | (refine load_mid_g (by rfl) 34 _ rfl b5 0 rfl (cellsE evL) _ L8.out Try.underlying34 rfl size39 ?_)
    | (go_at_call 19; (with_reducible refine (C8.out _).mono ?_); rintro e u8 ⟨rfl, hb⟩; have B9 := Lib.hid (B8.out.trans (hb.mono B8.out.size)); have F9 := Lib.hid (F8.out.trans (hb.mono F8.out.size)); have L9 := Lib.hid (LY.out _ B9.out); clear hb)
    | (refine load_mid_g (by rfl) 34 _ rfl b7 0 rfl (cellsE (evY b6)) _ L9.out Try.underlying34 rfl size39 ?_)
    | (go_at_call 19; (with_reducible refine (C9.out _ B9.out).mono ?_); rintro e u9 ⟨rfl, hb⟩; have Ba := Lib.hid (B9.out.trans (hb.mono B9.out.size)); have Fa := Lib.hid (F9.out.trans (hb.mono F9.out.size)); have La := Lib.hid (LY.out _ Ba.out); clear hb)
    | (refine load_mid_g (by rfl) 34 _ rfl b7 0 rfl (cellsE (evY b6)) _ La.out Try.underlying34 rfl size39 ?_)
    | (go_at_call 19; (with_reducible refine (C10.out _ Ba.out).mono ?_); rintro e ua ⟨rfl, hb⟩; have Bb := Lib.hid (Ba.out.trans (hb.mono Ba.out.size)); have Fb := Lib.hid (Fa.out.trans (hb.mono Fa.out.size)); obtain ⟨bz, oz, rfl, hz⟩ := HF.out; have kz := hz _ Fb.out; clear hb hz)
    | go_in)
  go_ret
  subst hb1
  exact ⟨rfl, E0.out.trans (Bb.out.mono E0.out.size)⟩
end Go.Proofs.Ytbedibiodlgegaa
