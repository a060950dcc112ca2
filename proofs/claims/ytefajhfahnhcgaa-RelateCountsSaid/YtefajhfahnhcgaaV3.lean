/- Relations: which events are in a list, present, find. Bound: at most 900000 events. -/
import Derived.Test.YtefajhfahnhcgaaV2
namespace Go.Proofs.Ytefajhfahnhcgaa
open Go Go.RowKit
set_option linter.unusedVariables false
set_option linter.unusedSimpArgs false

/-- An event with this id, which is positive, lies below k. -/
def sn (E : Nat → Me) (k : Nat) (z : Int) : Bool := decide (0 < z) && (List.range k).any (fun j => decide ((E j).id = z))
/-- The event at k is the first one of its id. -/
def nw (E : Nat → Me) (k : Nat) : Bool := decide (0 < (E k).id) && !(sn E k (E k).id)
/-- The events that are in the list: of each positive id the first one. -/
def onc (E : Nat → Me) (n : Nat) : List Nat := (List.range n).filter (nw E)
theorem onc_snoc (E : Nat → Me) (k : Nat) : onc E (k + 1) = onc E k ++ (if nw E k = true then [k] else []) := by
  unfold onc
  rw [List.range_succ, List.filter_append]
  cases h : nw E k <;> simp [h]
theorem onc_yes {E : Nat → Me} {k : Nat} (h : nw E k = true) : onc E (k + 1) = onc E k ++ [k] := by rw [onc_snoc, if_pos h]
theorem onc_no {E : Nat → Me} {k : Nat} (h : nw E k = false) : onc E (k + 1) = onc E k := by rw [onc_snoc, if_neg (by rw [h]; decide), List.append_nil]
theorem onc_len (E : Nat → Me) (n : Nat) : (onc E n).length ≤ n := by
  have := List.length_filter_le (nw E) (List.range n)
  rwa [List.length_range] at this
theorem onc_lt {E : Nat → Me} {n i : Nat} (h : i ∈ onc E n) : i < n := by simpa using (List.mem_filter.1 h).1
theorem sn_zero (E : Nat → Me) : sn E 0 = fun _ => false := by funext z; simp [sn]
theorem sn_snoc (E : Nat → Me) (k : Nat) (z : Int) : sn E (k + 1) z = (sn E k z || (decide (0 < z) && decide ((E k).id = z))) := by
  unfold sn
  rw [List.range_succ, List.any_append]
  cases decide (0 < z) <;> simp
theorem sn_new {E : Nat → Me} {k : Nat} (h : nw E k = true) : sn E (k + 1) = fun z => if z = (E k).id then true else sn E k z := by
  funext z
  rw [sn_snoc]
  unfold nw at h
  rw [Bool.and_eq_true] at h
  by_cases e : z = (E k).id
  · subst e
    rw [if_pos rfl, h.1]; simp
  · rw [if_neg e, decide_eq_false (p := (E k).id = z) (fun e1 => e e1.symm)]; simp
theorem sn_old {E : Nat → Me} {k : Nat} (h : nw E k = false) : sn E (k + 1) = sn E k := by
  funext z
  rw [sn_snoc]
  by_cases e : (E k).id = z
  · subst e
    unfold nw at h
    cases hs : sn E k (E k).id
    · rw [hs] at h
      have : decide (0 < (E k).id) = false := by simpa using h
      rw [this]; rfl
    · simp
  · rw [decide_eq_false (p := (E k).id = z) e]; simp
/-- Where an event of the list lies. -/
def pv (b off i : Nat) : Value := .pointer (some ⟨b, off + i * 29, none⟩)
theorem flat_pv (b off : Nat) (is : List Nat) : flat is.length (fun j => [pv b off (is.getD j 0)]) = is.map (pv b off) := by
  have : ∀ n, n ≤ is.length → flat n (fun j => [pv b off (is.getD j 0)]) = (is.take n).map (pv b off) := by
    intro n
    induction n with
    | zero => intro _; rfl
    | succ n ih =>
      intro hn
      rw [flat_succ, ih (by omega), List.take_succ_eq_append_getElem (by omega), List.map_append, List.getD_eq_getElem?_getD, List.getElem?_eq_getElem (by omega)]
      rfl
  rw [this _ (Nat.le_refl _), List.take_length]
/-- A row of pointers to events. -/
structure Pes (w : World) (A : Option Addr) (n c b off : Nat) (E : Nat → Me) (is : List Nat) : Prop where
  rws : Rws w A n c 1 (fun j => [pv b off (is.getD j 0)])
  len : is.length = n
  at_ : ∀ i ∈ is, At w b (off + i * 29) (E i)
theorem Pes.below {w w' : World} {A : Option Addr} {n c b off : Nat} {E : Nat → Me} {is : List Nat} (h : Pes w A n c b off E is) (hb : Below w.heap.size w w') : Pes w' A n c b off E is :=
  ⟨h.rws.below hb, h.len, fun i hi => (h.at_ i hi).below hb⟩
theorem getD_mem {is : List Nat} {k : Nat} (h : k < is.length) : is.getD k 0 ∈ is := by
  rw [List.getD_eq_getElem?_getD, List.getElem?_eq_getElem h]; exact List.getElem_mem h
theorem Pes.get {w : World} {A : Option Addr} {n c b off : Nat} {E : Nat → Me} {is : List Nat} (h : Pes w A n c b off E is) {k : Nat} (hk : k < n) :
    ∃ b' o', A = some ⟨b', o', none⟩ ∧ w.cell? ⟨b', o' + k, none⟩ = some (pv b off (is.getD k 0)) ∧ At w b (off + is.getD k 0 * 29) (E (is.getD k 0)) := by
  obtain ⟨b', o', e, _, hr⟩ := h.rws.get hk
  exact ⟨b', o', e, by have := hr 0 _ rfl; rwa [Nat.mul_one] at this, h.at_ _ (getD_mem (by rw [h.len]; exact hk))⟩
theorem own_keep {w w' : World} {B : Nat} {e : TypeId} {sz : Nat} {v : Value} {n : Nat} {xs : List Value} (h : w.ownsRow B e sz v n xs) (hk : ∀ b, v.ownBlock = some b → b < w.heap.size → w'.heap[b]? = w.heap[b]?) : w'.ownsRow B e sz v n xs :=
  ⟨h.1, h.2.imp id fun ⟨g, cap, cur, ev, hB, hg, r⟩ => ⟨g, cap, cur, ev, hB, (hk g (by rw [ev]; rfl) (Array.getElem?_eq_some_iff.1 hg).1).trans hg, r⟩⟩
theorem own_ne {w : World} {B : Nat} {e : TypeId} {sz : Nat} {v : Value} {n : Nat} {xs : List Value} (h : w.ownsRow B e sz v n xs) {M : Nat} (hM : M < B) : some M ≠ v.ownBlock := fun e1 => by
  have := (h.lt M e1.symm).1
  omega
theorem below_put {w0 w w' : World} {M : Nat} (h : Below w0.heap.size w0 w) (hg : w.grownBy w' (some M)) (hB : w0.heap.size ≤ M) : Below w0.heap.size w0 w' := h.grown hg h.size (fun k e => by cases e; exact hB)
theorem below_app {w0 w w' : World} {B : Nat} {e : TypeId} {sz : Nat} {v v' : Value} {n k : Nat} {xs ys : List Value} (h : Below w0.heap.size w0 w) (ho : w.ownsRow B e sz v k ys) (hg : Grew w w' B e sz v v' n xs) (hB : w0.heap.size ≤ B) : Below w0.heap.size w0 w' :=
  h.grown hg.grow h.size (fun k e => Nat.le_trans hB (ho.lt k e).1)
theorem src_pv (w : World) (p : Value) (T : TypeId) (h1 : p.oneCell' = true) : Src (w.alloc (.cells #[p] T)) (some ⟨w.heap.size, 0, none⟩) 1 1 1 [p] :=
  ⟨rfl, (fun e => by cases e), .inr ⟨w.heap.size, 0, rfl, by simp, fun j u hu => by rw [Nat.zero_add]; exact (blk_new w [p] T).cell hu⟩, by simpa using h1⟩
theorem info62 : (Try.prog.info? 62).map (fun i => (i.zero, i.size, i.bytes)) = some (some (.pointer none), 1, 8) := by kernel_rfl
def PesP (w : World) (b off : Nat) (E : Nat → Me) (is : List Nat) (r : Ending) (w' : World) : Prop := ∃ A' c', r = .returned (.slice A' is.length c') ∧ Pes w' A' is.length c' b off E is ∧ Below w.heap.size w w'
/-- The same, and the row is new. -/
def PesN (w : World) (b off : Nat) (E : Nat → Me) (is : List Nat) (r : Ending) (w' : World) : Prop := ∃ A' c', r = .returned (.slice A' is.length c') ∧ Pes w' A' is.length c' b off E is ∧ Below w.heap.size w w' ∧ ∀ b' o', A' = some ⟨b', o', none⟩ → w.heap.size ≤ b'
set_option maxRecDepth 100000 in
set_option maxHeartbeats 8000000 in
theorem present28n (A : Option Addr) (n c b off : Nat) (E : Nat → Me) (w : World) (h : Evm w A n E) (hA : 0 < n → A = some ⟨b, off, none⟩) (hn : n ≤ 900000) : Calls Try.prog 28 #[.slice A n c] w (PesN w b off E (onc E n)) := by
  unfold PesN
  have H := Lib.hid h
  have HA := Lib.hid hA
  obtain ⟨i0, hi, hz0, hz1, hz2⟩ := info_parts info62
  have HI := Lib.hid (And.intro hi (And.intro hz0 (And.intro hz1 hz2)))
  have M0 := Lib.hid ((MapJ.made w).alloc (.cells #[] 62))
  have B0 := Lib.hid (((Below.refl w.heap.size w).alloc (Nat.le_refl _) (.map #[] 0)).alloc (by simp) (.cells #[] 62))
  have O0 : Hid (((w.alloc (.map #[] 0)).alloc (.cells #[] 62)).ownsRow (w.heap.size + 1) 62 1 (.slice (some ⟨w.heap.size + 1, 0, none⟩) 0 0) 0 []) := Lib.hid (by
    have := World.ownsRow_made (base := w.heap.size + 1) (e := 62) (size := 1) (w.alloc (.map #[] 0)) #[] 0 (by simp) (by decide) (by simp)
    rw [World.size_alloc] at this
    exact this)
  clear h hA hi hz0 hz1 hz2
  go_enter Try.func28, Try.ntmps28
  have hmm := @run_makeMap Try.prog
  go_wp2
  clear hmm
  go_loopg [4, 5, 6, 11] n (fun gg s4 _ _ s11 wr => ∃ (kk m : Nat) (v : Value), kk ≤ n ∧ n - kk ≤ gg ∧ m ≤ kk ∧ v = s4 ∧ s11 = .int .i64 (kk : Int) ∧ Hid (MapJ wr w.heap.size m (sn E kk)) ∧ Hid (wr.ownsRow (w.heap.size + 1) 62 1 v (onc E kk).length ((onc E kk).map (pv b off))) ∧ Hid (Below w.heap.size w wr))
  case atStart => exact ⟨0, 0, _, Nat.zero_le _, by omega, Nat.le_refl _, rfl, rfl, Lib.hid (by rw [sn_zero]; exact M0.out), O0, B0⟩
  case round =>
    obtain ⟨kk, m, v, hkk, hg, hmk, rfl, rfl, HM, HO, BW⟩ := hrel
    have hol := onc_len E kk
    by_cases hlt : kk < n
    · have hltz : (kk : Int) < (n : Int) := by omega
      have hk0 : (0 : Int) ≤ (kk : Int) := by omega
      have hAe := HA.out (by omega)
      subst hAe
      obtain ⟨b1, o1, e1, hat⟩ := (H.out.below BW.out).get hlt
      cases e1
      have k0 := hat.k0
      have hfit := hat.fit.bi
      have hbl := hat.lt
      have HNY := Lib.hid (fun h1 : nw E kk = true => And.intro (onc_yes h1) (sn_new h1))
      have HNN := Lib.hid (fun h1 : nw E kk = false => And.intro (onc_no h1) (sn_old h1))
      have HNW := Lib.hid (show nw E kk = (decide (0 < (E kk).id) && !(sn E kk (E kk).id)) from rfl)
      have hlook := HM.out.look hfit
      clear hat
      generalize (E kk).id = i at k0 HNY HNN HNW hfit hlook
      by_cases hp : 0 < i
      · cases hs : sn E kk i with
        | false =>
          rw [hs] at hlook HNW
          have HT := Lib.hid (HNY.out (by rw [HNW.out, decide_eq_true hp]; rfl))
          clear HNY HNN HNW hs
          generalize onc E kk = os at HO HT hol
          go_wp2_with (first
            | (at_mapUpdate; refine wpList_putJ rfl _ _ _ rfl w.heap.size m (sn E kk) rfl HM.out (by omega) i hfit rfl true rfl ?_; intro w3 hm3 hg3; have M3 := Lib.hid hm3; have B3 := Lib.hid (below_put BW.out hg3 (Nat.le_refl _)); have O3 := Lib.hid (own_keep HO.out (fun g hg1 hl => hg3.block g hl (fun e => own_ne HO.out (Nat.lt_succ_self _) (e ▸ hg1).symm))); clear hm3 hg3 hlook k0)
            | (at_builtin; refine wpList_append_any _ rfl _ _ 64 rfl (w.heap.size + 1) 62 i0 _ 1 8 Try.underlying64 HI.out.1 HI.out.2.1 HI.out.2.2.1 HI.out.2.2.2 rfl (by decide) v os.length (os.map (pv b off)) rfl (O3.out.alloc _) _ 1 1 [pv b off kk] rfl (src_pv _ (pv b off kk) 62 rfl) (by unfold maxLen; omega) (by omega) (by have := (M3.out.lt); simp only [World.size_alloc]; omega) ?_; intro v5 w5 hgr; have B5 := Lib.hid (below_app (B3.out.alloc B3.out.size _) (O3.out.alloc _) hgr (Nat.le_succ _)); have O5 := Lib.hid hgr.own; have M5 := Lib.hid ((M3.out.alloc (.cells #[pv b off kk] 62)).kept (hgr.grow.block w.heap.size (by have := M3.out.lt; simp only [World.size_alloc]; omega) (own_ne O3.out (Nat.lt_succ_self _)))); clear hgr)
            | go_in)
          go_roundg (n - (kk + 1))
          case measure => omega
          case rel => exact ⟨kk + 1, m + 1, v5, by omega, by omega, by omega, rfl, by go_num, Lib.hid (by rw [HT.out.2]; exact M5.out), Lib.hid (by rw [HT.out.1, List.length_append, List.map_append]; exact O5.out), B5⟩
        | true =>
          rw [hs] at hlook HNW
          have HT := Lib.hid (HNN.out (by rw [HNW.out]; simp))
          clear HNY HNN HNW hs
          go_wp2
          go_roundg (n - (kk + 1))
          case measure => omega
          case rel => exact ⟨kk + 1, m, v, by omega, by omega, by omega, rfl, by go_num, Lib.hid (by rw [HT.out.2]; exact HM.out), Lib.hid (by rw [HT.out.1]; exact HO.out), BW⟩
      · have HT := Lib.hid (HNN.out (by rw [HNW.out, decide_eq_false hp]; rfl))
        clear HNY HNN HNW hlook
        go_wp2
        go_roundg (n - (kk + 1))
        case measure => omega
        case rel => exact ⟨kk + 1, m, v, by omega, by omega, by omega, rfl, by go_num, Lib.hid (by rw [HT.out.2]; exact HM.out), Lib.hid (by rw [HT.out.1]; exact HO.out), BW⟩
    · have hltz : ¬ (kk : Int) < (n : Int) := by omega
      obtain rfl : kk = n := by omega
      obtain ⟨A', c', rfl⟩ := own_slice HO.out
      go_wp2
      go_ret
      refine ⟨A', c', rfl, ⟨own_rows (by rw [flat_pv]; exact HO.out) (fun _ _ => rfl) (fun j _ u hu => ?_) (by unfold maxLen; omega), rfl, fun i hi => ?_⟩, BW.out, fun b' o' e => Nat.le_of_succ_le (HO.out.lt b' (by rw [e]; rfl)).1⟩
      · have : u = pv b off ((onc E kk).getD j 0) := by simpa using hu
        rw [this]; rfl
      · have hik := onc_lt hi
        obtain ⟨b1, o1, e1, hat⟩ := (H.out.below BW.out).get hik
        rw [HA.out (by omega)] at e1
        cases e1
        exact hat
theorem present28 (A : Option Addr) (n c b off : Nat) (E : Nat → Me) (w : World) (h : Evm w A n E) (hA : 0 < n → A = some ⟨b, off, none⟩) (hn : n ≤ 900000) : Calls Try.prog 28 #[.slice A n c] w (PesP w b off E (onc E n)) :=
  (present28n A n c b off E w h hA hn).mono fun r w' ⟨A', c', e, hp, hb, _⟩ => ⟨A', c', e, hp, hb⟩
/-- Which event of the list has the id. -/
def fdI (E : Nat → Me) (is : List Nat) (z : Int) : Option Nat := is.find? (fun i => decide ((E i).id = z))
def pvO (b off : Nat) (o : Option Nat) : Value := match o with | some i => pv b off i | none => .pointer none
theorem fdI_at {E : Nat → Me} {is : List Nat} {z : Int} {k : Nat} (hk : k < is.length) (h : (E (is.getD k 0)).id = z) (hn : ∀ j, j < k → ¬ (E (is.getD j 0)).id = z) : fdI E is z = some (is.getD k 0) := by
  unfold fdI
  rw [List.find?_eq_some_iff_getElem]
  rw [List.getD_eq_getElem?_getD, List.getElem?_eq_getElem hk] at h ⊢
  refine ⟨decide_eq_true h, k, hk, rfl, fun j hj => ?_⟩
  have := hn j hj
  rw [List.getD_eq_getElem?_getD, List.getElem?_eq_getElem (by omega)] at this
  simpa using this
theorem fdI_no {E : Nat → Me} {is : List Nat} {z : Int} (hn : ∀ j, j < is.length → ¬ (E (is.getD j 0)).id = z) : fdI E is z = none := by
  unfold fdI
  rw [List.find?_eq_none]
  intro x hx
  obtain ⟨j, hj, rfl⟩ := List.getElem_of_mem hx
  have := hn j hj
  rw [List.getD_eq_getElem?_getD, List.getElem?_eq_getElem hj] at this
  simpa using this
theorem ret_v {p q : Value} (h : p = q) : Ending.returned p = .returned q := by rw [h]
set_option maxRecDepth 100000 in
set_option maxHeartbeats 4000000 in
theorem find29 (A : Option Addr) (n c b off : Nat) (E : Nat → Me) (is : List Nat) (z : Int) (w : World) (h : Pes w A n c b off E is) : Calls Try.prog 29 #[.slice A n c, .int .i64 z] w fun r w' => r = .returned (pvO b off (fdI E is z)) ∧ w' = w := by
  have H := Lib.hid h
  have HL := Lib.hid h.len
  have hbig := h.rws.big
  unfold maxLen at hbig
  have HF := Lib.hid (fun k hk h1 h2 => fdI_at (E := E) (is := is) (z := z) (k := k) hk h1 h2)
  have HG := Lib.hid (fun h2 => fdI_no (E := E) (is := is) (z := z) h2)
  generalize fdI E is z = fo at HF HG ⊢
  clear h
  go_enter Try.func29, Try.ntmps29
  go_wp2
  go_loopg [6, 9] n (fun gg _ s9 wr => ∃ kk : Nat, kk ≤ n ∧ n - kk ≤ gg ∧ s9 = .int .i64 (kk : Int) ∧ Hid (∀ j, j < kk → ¬ (E (is.getD j 0)).id = z) ∧ wr = w)
  case atStart => exact ⟨0, Nat.zero_le _, by omega, rfl, Lib.hid (fun j hj => absurd hj (Nat.not_lt_zero _)), rfl⟩
  case round =>
    obtain ⟨kk, hkk, hg, rfl, HJ, rfl⟩ := hrel
    by_cases hlt : kk < n
    · have hltz : (kk : Int) < (n : Int) := by omega
      obtain ⟨b1, o1, rfl, q0, hat⟩ := H.out.get hlt
      have k0 := hat.k0
      have HFk := Lib.hid (fun h1 => HF.out kk (by rw [HL.out]; exact hlt) h1 HJ.out)
      have HJ1 := Lib.hid (show ¬ (E (is.getD kk 0)).id = z → ∀ j, j < kk + 1 → ¬ (E (is.getD j 0)).id = z from fun h1 j hj => by
        by_cases e1 : j = kk
        · subst e1; exact h1
        · exact HJ.out j (by omega))
      unfold pv at q0
      clear hat
      generalize (E (is.getD kk 0)).id = y at k0 HFk HJ1
      generalize is.getD kk 0 = i at q0 k0 HFk
      by_cases hy : y = z
      · have HR := Lib.hid (HFk.out hy)
        clear HFk HJ1
        go_wp2
        go_ret
        exact ⟨ret_v (by rw [HR.out]; rfl), rfl⟩
      · have HJ2 := Lib.hid (HJ1.out hy)
        clear HFk HJ1
        go_wp2
        go_roundg (n - (kk + 1))
        case measure => omega
        case rel => exact ⟨kk + 1, by omega, by omega, by go_num, HJ2, rfl⟩
    · have hltz : ¬ (kk : Int) < (n : Int) := by omega
      obtain rfl : kk = n := by omega
      have HR := Lib.hid (HG.out (fun j hj => HJ.out j (by rw [HL.out] at hj; exact hj)))
      go_wp2
      go_ret
      exact ⟨ret_v (by rw [HR.out]; rfl), rfl⟩
end Go.Proofs.Ytefajhfahnhcgaa
