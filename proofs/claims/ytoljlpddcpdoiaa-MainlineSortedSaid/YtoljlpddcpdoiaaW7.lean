/- The mainline: way, Of of the program. Bound: at most 900000 events. -/
import Derived.Test.YtoljlpddcpdoiaaW6
import Derived.RangeFuncLeaves
import Derived.Maps.OwnIn
import Derived.RangeFuncOwn
import Derived.RangeFuncCalls
import Derived.Shelf.Abstract
import Derived.Maps.AppendAt
import Derived.Lib.SmallJoins
namespace Go.Proofs.Ytoljlpddcpdoiaa
open Go Go.RowKit Go.Maps Go.Shelf
attribute [local go_sem] Oper.semAt_some
set_option linter.unusedVariables false
set_option linter.unusedSimpArgs false

/-- The three boxes that way lays. -/
def boxes (w : World) (A : Option Addr) (n c Mp : Nat) (id : Int) : World := ((w.alloc (.cells #[.slice A n c] 22)).alloc (.cells #[.map (some Mp)] 53)).alloc (.cells #[.int .i64 id] 3)
theorem way21 (A : Option Addr) (n c Mp : Nat) (id : Int) (w : World) : Calls Try.prog 21 #[.slice A n c, .map (some Mp), .int .i64 id] w fun e w' => e = .returned (.func (.func 35) #[] #[.pointer (some ⟨w.heap.size + 1, 0, none⟩), .pointer (some ⟨w.heap.size + 2, 0, none⟩), .pointer (some ⟨w.heap.size, 0, none⟩)]) ∧ w' = boxes w A n c Mp id := by
  go_enter Try.func21, Try.ntmps21
  go_wp2
  go_ret
  exact ⟨rfl, rfl⟩
theorem boxes_size (w : World) (A : Option Addr) (n c Mp : Nat) (id : Int) : (boxes w A n c Mp id).heap.size = w.heap.size + 3 := by simp [boxes]
theorem boxes_below (w : World) (A : Option Addr) (n c Mp : Nat) (id : Int) : Below w.heap.size w (boxes w A n c Mp id) := (((Below.refl _ w).alloc (Nat.le_refl _) _).alloc (by simp) _).alloc (by simp; omega) _
theorem boxes_lie {w : World} {A : Option Addr} {n c Mp m : Nat} {E : Nat → Me} {id : Int} (h : Evm w A n E) (hm : MapI w Mp m (plc E n)) (hw : i64B id) : Lies (boxes w A n c Mp id) A n c E Mp m (w.heap.size + 1) (w.heap.size + 2) w.heap.size id := by
  have hb := boxes_below w A n c Mp id
  refine ⟨h.below hb, hm.below hb, ?_, ?_, ?_, by omega, by omega, by have := hm.lt; omega, hw⟩
  · have := blk_new (w.alloc (.cells #[.slice A n c] 22)) [.map (some Mp)] 53
    rw [World.size_alloc] at this
    exact this.alloc _
  · have := blk_new ((w.alloc (.cells #[.slice A n c] 22)).alloc (.cells #[.map (some Mp)] 53)) [.int .i64 id] 3
    rw [World.size_alloc, World.size_alloc] at this
    exact this
  · exact ((blk_new w [.slice A n c] 22).alloc _).alloc _
theorem info3 : (Try.prog.info? 3).map (fun i => (i.zero, i.size, i.bytes)) = some (some (.int .i64 0), 1, 8) := by kernel_rfl
theorem size26 : (Try.prog.info? 26).map (·.size) = some 1 := by kernel_rfl
theorem its_own {w : World} {B n : Nat} {v : Value} {zs : List Int} (h : w.ownsRow B 3 1 v n (zs.map (Value.int .i64))) (hl : zs.length = n) (hm : n ≤ 1000000) (wf : ∀ z ∈ zs, i64B z) : ∃ A c, v = .slice A n c ∧ Its w A n c zs ∧ ∀ b off, A = some ⟨b, off, none⟩ → B ≤ b := by
  obtain ⟨_, h | ⟨g, cap, cur, rfl, hB, hb, hn, hcap, hcl, htk⟩⟩ := h
  · obtain ⟨rfl, rfl⟩ := h
    cases zs with
    | nil => exact ⟨none, 0, rfl, ⟨Rws.zero _ _ _ _ _ (fun _ => rfl), rfl, Nat.le_refl _, by simp⟩, fun b off e => by cases e⟩
    | cons a r => simp at hl
  · have hB2 : Blk w g cur.toList 3 := ⟨by rw [Array.toArray_toList]; exact hb⟩
    refine ⟨some ⟨g, 0, none⟩, cap, rfl, ⟨⟨fun j _ => rfl, fun j _ => by simp [rowI, Value.oneCell'], by unfold maxLen; omega, (fun e => by cases e), .inr ⟨g, 0, rfl, hB2.lt, fun j hj i u hu => ?_⟩⟩, hl, hn, wf⟩, fun b off e => by cases e; exact hB⟩
    have hi : i = 0 := by
      have := (List.getElem?_eq_some_iff.1 hu).1
      simp [rowI] at this
      exact this
    subst hi
    refine hB2.cell ?_
    rw [Nat.zero_add, Nat.mul_one, Nat.add_zero]
    have ht : (cur.toList.take (n * 1))[j]? = some u := by
      rw [htk, List.getElem?_map, List.getElem?_eq_getElem (by omega)]
      simp only [rowI, List.getElem?_cons_zero, Option.some.injEq] at hu
      rw [← hu, List.getD_eq_getElem?_getD, List.getElem?_eq_getElem (by omega)]
      rfl
    rwa [List.getElem?_take_of_lt (by omega)] at ht
def IntsP (w : World) (zs : List Int) (e : Ending) (w' : World) : Prop := ∃ A c, e = .returned (.slice A zs.length c) ∧ Its w' A zs.length c zs ∧ Below w.heap.size w w' ∧ ∀ b off, A = some ⟨b, off, none⟩ → w.heap.size ≤ b
theorem own_keep {w w' : World} {B : Nat} {e : TypeId} {sz : Nat} {v : Value} {n : Nat} {xs : List Value} (h : w.ownsRow B e sz v n xs) (hk : ∀ b, v.ownBlock = some b → b < w.heap.size → w'.heap[b]? = w.heap[b]?) : w'.ownsRow B e sz v n xs :=
  ⟨h.1, h.2.imp id fun ⟨g, cap, cur, ev, hB, hg, r⟩ => ⟨g, cap, cur, ev, hB, (hk g (by rw [ev]; rfl) (Array.getElem?_eq_some_iff.1 hg).1).trans hg, r⟩⟩
theorem way_len (E : Nat → Me) (n : Nat) (id : Int) : (wayL E n id).length ≤ n + 1 := by
  have h : ∀ (f : Nat) (seen : List Int) (cur : Option Int), (wayF E n f seen cur).length ≤ f := by
    intro f
    induction f with
    | zero => intro seen cur; simp [wayF]
    | succ f ih =>
      intro seen cur
      cases cur with
      | none => simp [wayF]
      | some c =>
        rw [wayF]
        split
        · rw [List.length_cons]; have := ih (seen ++ [c]) (nxt E n c); omega
        · simp
  exact h _ _ _
theorem way_wf {w : World} {A : Option Addr} {n : Nat} {E : Nat → Me} {id : Int} (h : Evm w A n E) (hw : i64B id) : ∀ z ∈ wayL E n id, i64B z := by
  have h2 : ∀ (f : Nat) (seen : List Int) (cur : Option Int), (∀ c, cur = some c → i64B c) → ∀ z ∈ wayF E n f seen cur, i64B z := by
    intro f
    induction f with
    | zero => intro seen cur _ z hz; simp [wayF] at hz
    | succ f ih =>
      intro seen cur hc z hz
      cases cur with
      | none => simp [wayF] at hz
      | some c =>
        rw [wayF] at hz
        split at hz
        · rcases List.mem_cons.1 hz with rfl | hz
          · exact hc _ rfl
          · refine ih _ _ (fun d hd => ?_) z hz
            unfold nxt at hd
            split at hd
            · rename_i i hi
              obtain ⟨j, rfl, hj, _⟩ := plc_lt hi
              exact (h.au j hj).wf d (List.mem_of_find?_eq_some hd)
            · cases hd
        · simp at hz
  exact h2 _ _ _ (fun c hc => by cases hc; exact hw)
/-- What the loop over the way keeps in the memory: the list so far, in its box. -/
structure OwnI (w : World) (s : Nat) (pre : List Int) (X : World) : Prop where
  bel : Below w.heap.size w X
  ex : ∃ v, Blk X (w.heap.size + 1) [v] 26 ∧ X.ownsRow w.heap.size 3 1 v pre.length (pre.map (Value.int .i64)) ∧ ∀ b, v.ownBlock = some b → b = w.heap.size ∨ s + 3 ≤ b
theorem OwnI.keep {w X Y : World} {s : Nat} {pre : List Int} (h : OwnI w s pre X) (hb : Below w.heap.size w Y) (hk : ∀ k, k < X.heap.size → (k = w.heap.size ∨ k = w.heap.size + 1 ∨ s + 3 ≤ k) → Y.heap[k]? = X.heap[k]?) : OwnI w s pre Y := by
  obtain ⟨v, h1, h2, h3⟩ := h.ex
  exact ⟨hb, v, ⟨(hk _ h1.lt (.inr (.inl rfl))).trans h1.heap⟩, own_keep h2 (fun b e hl => hk b hl ((h3 b e).imp id .inr)), h3⟩
theorem putObj_below {w X : World} {B r : Nat} {o : Obj} (h : Below B w X) (hr : B ≤ r) : Below B w (X.putObj r o) :=
  ⟨h.os, h.tape, h.output, by rw [World.putObj_size]; exact h.size, fun k hk => (World.putObj_heap_other (by omega)).trans (h.block k hk)⟩
set_option maxRecDepth 100000 in
set_option maxHeartbeats 8000000 in
theorem of11 (A : Option Addr) (n c : Nat) (E : Nat → Me) (id : Int) (w : World) (h : Evm w A n E) (hn : n ≤ 900000) (hw : i64B id) : Calls Try.prog 11 #[.slice A n c, .int .i64 id] w (IntsP w (wayL E n id)) := by
  have H := Lib.hid h
  have HX := Lib.hid (fun v (hb : Below w.heap.size w v) => index22 A n c E v (H.out.below hb) hn)
  have HW := Lib.hid (fun Mp v => way21 A n c Mp id v)
  rw [← callsIn_wide (n := 3)]
  refine callsIn_of_wp_marks Try.func11 rfl trivial ?_ rfl
  refine (wpIn_wide (n := 3)).2 ?_
  simp only [Try.ntmps11, List.size_toArray, List.length_cons, List.length_nil, Nat.reduceAdd, Nat.reduceSub, Array.replicate_succ, Array.replicate_zero, List.push_toArray, List.append_toArray, List.nil_append, List.cons_append]
  have B0 := Lib.hid (((Below.refl w.heap.size w).alloc (Nat.le_refl _) (.cells #[] 3)).alloc (by simp) (.cells #[.slice (some ⟨w.heap.size, 0, none⟩) 0 0] 26))
  have K0 := Lib.hid (show Blk ((w.alloc (.cells #[] 3)).alloc (.cells #[.slice (some ⟨w.heap.size, 0, none⟩) 0 0] 26)) (w.heap.size + 1) [.slice (some ⟨w.heap.size, 0, none⟩) 0 0] 26 by
    have := blk_new (w.alloc (.cells #[] 3)) [.slice (some ⟨w.heap.size, 0, none⟩) 0 0] 26
    rwa [World.size_alloc] at this)
  have O0 := Lib.hid (World.ownsRow_made (base := w.heap.size) (e := 3) (size := 1) w #[] 0 (Nat.le_refl _) (by decide) (by simp))
  obtain ⟨i0, hi, hz0, hz1, hz2⟩ := info_parts info3
  have HI := Lib.hid (And.intro hi (And.intro hz0 (And.intro hz1 hz2)))
  clear hi hz0 hz1 hz2
  have HSz := Lib.hid (show ((w.alloc (.cells #[] 3)).alloc (.cells #[.slice (some ⟨w.heap.size, 0, none⟩) 0 0] 26)).heap.size = w.heap.size + 1 + 1 by simp)
  go_wp2_with (first
    | (go_at_call 22; (with_reducible refine (HX.out _ B0.out).mono ?_); rintro e w1 ⟨rfl, ⟨m, hm, hmi⟩, hb⟩; rw [HSz.out] at hmi; have M1 := Lib.hid hmi; have K1 := Lib.hid (K0.out.below hb); have hb' := hb; rw [HSz.out] at hb'; have X1 := Lib.hid hb'; have B1 := Lib.hid (B0.out.trans (hb.mono B0.out.size)); have O1 := Lib.hid (own_keep (O0.out) (fun b e hl => (hb.block b (by rw [HSz.out]; simp at hl; omega)).trans (Below.heap_alloc _ _ _ hl))); clear hb hmi hb')
    | (go_at_call 21; (with_reducible refine (HW.out _ _).mono ?_); rintro e w2 ⟨rfl, rfl⟩))
  have hw1 : w.heap.size + 2 ≤ w1.heap.size := by have := M1.out.lt; omega
  have BX := boxes_below w1 A n c (w.heap.size + 1 + 1) id
  have LX := boxes_lie (H.out.below B1.out) M1.out hw (c := c)
  have SZ := boxes_size w1 A n c (w.heap.size + 1 + 1) id
  have B2 : Below w.heap.size w (boxes w1 A n c (w.heap.size + 1 + 1) id) := B1.out.trans (BX.mono B1.out.size)
  have K2 := K1.out.below BX
  have O2 := own_keep O1.out (fun b _ hl => BX.block b hl)
  generalize boxes w1 A n c (w.heap.size + 1 + 1) id = w2 at BX LX SZ B2 K2 O2 ⊢
  have h22 := Lib.hid H.out
  clear K0 O0 B0 HSz K1 O1 X1 HX HW
  refine (wpIn_wide (n := 3)).1 (range_turns (T := Tw (w1.heap.size + 2) (w2.heap.size + 2)) (Kp := Kq w.heap.size (SKeep (w.heap.size + 1 + 1) (w1.heap.size + 1) (w1.heap.size + 2) w1.heap.size (w2.heap.size + 2))) (Z := fun l X => w2.heap.size + 2 < X.heap.size ∧ l.length ≤ n ∧ l <+: wayL E n id) (S := fun xs => xs = wayL E n id) (Sp := fun pre => pre <+: wayL E n id)
    (encs := fun x : Int => #[.int .i64 x]) rfl (by omega) (gf := 35) rfl trivial (enters_of Try.func35 (by kernel_rfl) rfl) (fun _ => rfl)
    (fun r => ?seq) (fun A B t hl => ⟨t.block _ (by omega) (by omega) (by omega), t.block _ (by omega) (by omega) (by omega)⟩) (fun _ _ _ h k => h.trans k) (fun X o => ?kr) (fun s X o hz => ⟨by rw [World.putObj_size]; exact hz.1, hz.2⟩)
    (OwnI w w2.heap.size) (fun _ _ _ => False)
    (fun s X Y h t => h.keep (t.keep h.bel (Nat.le_refl _) (by omega) (by omega)) (fun k hk hkk => t.block k hk (by omega) (by omega)))
    (fun _ _ _ _ h _ => h)
    (fun s X o h => h.keep (putObj_below h.bel (by omega)) (fun k hk hkk => World.putObj_heap_other (by omega)))
    (fun _ _ _ _ h => h) (fun r => ?start) (fun x => { tmps := #[.slice A n c, .int .i64 id, undef, undef, .slice none 0 0, .pointer (some ⟨w.heap.size + 1, 0, none⟩), .int .i64 x, .slice (some ⟨w.heap.size, 0, none⟩) 0 0, .slice A n c, .slice A n c, .map (some (w.heap.size + 1 + 1)), .int .i64 id, .func (.func 35) #[] #[.pointer (some ⟨w1.heap.size + 1, 0, none⟩), .pointer (some ⟨w1.heap.size + 2, 0, none⟩), .pointer (some ⟨w1.heap.size, 0, none⟩)], .int .i64 x, undef, undef, undef, undef, undef], defers := [] }) ?assign ?body ?done ?stop)
  case seq =>
    have hbb : Below w2.heap.size w2 (begun w2 r) := ((Below.refl _ w2).alloc (Nat.le_refl _) _).alloc (by simp) _
    have := way35 2 w.heap.size A n c E (w.heap.size + 1 + 1) m (w1.heap.size + 1) (w1.heap.size + 2) w1.heap.size id w (begun w2 r) h22.out rfl (B2.trans (hbb.mono B2.size)) hn (by omega) ⟨LX.ev.below hbb, LX.mp.below hbb, LX.b1.below hbb, LX.b2.below hbb, LX.b3.below hbb, LX.n12, LX.n32, LX.nm2, LX.wf⟩
    rwa [begun_size] at this
  case kr =>
    exact ⟨putObj_below (Below.refl _ X) (by omega), fun k hk hl => World.putObj_heap_other (by unfold SKeep at hk; omega)⟩
  case start =>
    have hbb : Below w2.heap.size w2 (begun w2 r) := ((Below.refl _ w2).alloc (Nat.le_refl _) _).alloc (by simp) _
    exact ⟨B2.trans (hbb.mono B2.size), _, K2.below hbb, own_keep O2 (fun b _ hl => hbb.block b hl), fun b e => by cases e; exact .inl rfl⟩
  case assign =>
    intro l x X K hK
    gi_wp2
    exact hK
  case body =>
    rintro l pre x X hI hsz ⟨hz, hpl, _⟩
    rw [List.length_append] at hpl
    obtain ⟨v, hv1, hv2, hv3⟩ := hI.ex
    have HV1 := Lib.hid hv1
    have HV2 := Lib.hid hv2
    have HV3 := Lib.hid hv3
    have BI := Lib.hid hI.bel
    have c0 := hv1.cell (i := 0) rfl
    have c1 := (hv1.alloc (.cells #[.int .i64 x] 3)).cell (i := 0) rfl
    clear hv1 hv2 hv3 hI
    gi_wp2_with (first
      | (gi_at_builtin; go_loud (refine wpListIn_append_own_at _ rfl _ _ 26 rfl w.heap.size 3 i0 _ 1 8 Try.underlying26 HI.out.1 HI.out.2.1 HI.out.2.2.1 HI.out.2.2.2 rfl (by decide) v pre.length (pre.map (Value.int .i64)) rfl (own_keep HV2.out (fun b _ hl => Below.heap_alloc _ _ _ hl)) ⟨X.heap.size, 0, none⟩ 1 1 [.int .i64 x] rfl rfl (cell_one_new _ _ _) (by simp [Value.oneCell']) (by unfold maxLen; omega) (by omega) (by have := BI.out.size; simp; omega) ?_; intro v' Y hown hg _ hat; obtain ⟨g', cap', rfl⟩ := Joins.ownsRow_form hown (Nat.succ_pos _); have HY := Lib.hid hown; have HG := Lib.hid hg; have HAt := Lib.hid hat; have c3 := (show Blk Y (w.heap.size + 1) [v] 26 from ⟨(hg.block _ (by have := HV1.out.lt; simp; omega) (fun e => by have := HV3.out _ e.symm; omega)).trans (HV1.out.alloc _).heap⟩); have HC3 := Lib.hid c3; have d0 := c3.cell (i := 0) rfl; have d1 := c3.free 0; clear hown hg hat c3 c0 c1))
      | fail)
    generalize hvv : (Value.slice (some ⟨g', 0, none⟩) (pre.length + 1) cap') = v' at HY HAt ⊢
    have HB1 := Lib.hid ((HG.out.size))
    have hAl : ∀ k, k < X.heap.size → (X.alloc (.cells #[.int .i64 x] 3)).heap[k]? = X.heap[k]? := fun k hk => Below.heap_alloc _ _ _ hk
    have hstep : ∀ k, k < X.heap.size → k ≠ w.heap.size → k ≠ w.heap.size + 1 → k < w2.heap.size + 3 → (Y.setCell ⟨w.heap.size + 1, 0, none⟩ v').heap[k]? = X.heap[k]? := fun k hk h1 h2 h3 =>
      (Below.heap_setCell Y ⟨w.heap.size + 1, 0, none⟩ v' k h2).trans ((HG.out.block k (by simp; omega) (fun e => by have := HV3.out k e.symm; omega)).trans (hAl k hk))
    have BY : Below w.heap.size X (Y.setCell ⟨w.heap.size + 1, 0, none⟩ v') := (((Below.refl w.heap.size X).alloc BI.out.size _).grown HG.out (by have := BI.out.size; simp; omega) (fun k e => by have := HV3.out k e; omega)).setCell (p := ⟨w.heap.size + 1, 0, none⟩) (by simp) _
    refine ⟨⟨hstep _ (by omega) (by omega) (by omega) (by omega), hstep _ (by omega) (by omega) (by omega) (by omega)⟩, ⟨BY, fun k hk hl => hstep k hl (by unfold SKeep at hk; omega) (by unfold SKeep at hk; omega) (by unfold SKeep at hk; omega)⟩, BI.out.trans BY, v', blk_set1 HC3.out, ?_, ?_⟩
    · have := own_keep (w' := Y.setCell ⟨w.heap.size + 1, 0, none⟩ v') HY.out (fun b e _ => Below.heap_setCell Y ⟨w.heap.size + 1, 0, none⟩ v' b (by
        rcases HAt.out with h | h
        · rw [h] at e; have := HV3.out b e; show b ≠ w.heap.size + 1; omega
        · rw [h] at e; simp at e; show b ≠ w.heap.size + 1; omega))
      rw [List.length_append, List.map_append]
      exact this
    · intro b e
      rcases HAt.out with h | h
      · rw [h] at e; exact HV3.out b e
      · rw [h] at e; simp at e; omega
  case done =>
    rintro xs X rfl hI hD
    obtain ⟨v, hv1, hv2, hv3⟩ := hI.ex
    have HV2 := Lib.hid hv2
    have BI := Lib.hid hI.bel
    have c0 := hv1.cell (i := 0) rfl
    have HWf := Lib.hid (way_wf h22.out hw)
    have HLn := Lib.hid (way_len E n id)
    have hd3 : ∀ b, v.ownBlock = some b → b ≠ w2.heap.size := fun b e => by have := hv3 b e; omega
    have HD3 := Lib.hid hd3
    clear hv1 hv2 hd3
    go_wp2
    refine ⟨by simp, .inl ⟨_, _, rfl, run_takeDeferred hD, ?_⟩⟩
    refine ⟨_, results_tmp rfl _ _ _, ?_⟩
    have ho := own_keep (w' := X.putObj w2.heap.size (.deferred none)) HV2.out (fun b e _ => World.putObj_heap_other (HD3.out b e))
    obtain ⟨A', c', rfl, hi, ha⟩ := its_own ho rfl (by have := HLn.out; omega) HWf.out
    exact ⟨A', c', rfl, hi, putObj_below BI.out (by omega), ha⟩
  case stop =>
    intro c pre X _ h _
    exact h.elim
end Go.Proofs.Ytoljlpddcpdoiaa
