/- Relations: Threads of both. Bound: at most 900000 events. -/
import Derived.Test.YtefajhfahnhcgaaV12
import Derived.Test.YtefajhfahnhcgaaQL9
namespace Go.Proofs.Ytefajhfahnhcgaa
open Go Go.RowKit
set_option linter.unusedVariables false
set_option linter.unusedSimpArgs false

theorem At.grown {w w1 : World} {b o : Nat} {e : Me} {row : Option Nat} (h : At w b o e) (hg : w.grownBy w1 row) (hne : some b ≠ row) : At w1 b o e :=
  ⟨Nat.lt_of_lt_of_le h.lt hg.size, fun k v hv => (World.cell?_of_block (a := ⟨b, o + k, none⟩) (hg.block b h.lt hne)).trans (h.rng k v hv), h.fit⟩
theorem Rws.grown_ {w w1 : World} {A : Option Addr} {n c sz : Nat} {L : Nat → List Value} {row : Option Nat} (h : Rws w A n c sz L) (hg : w.grownBy w1 row) (hne : ∀ b off, A = some ⟨b, off, none⟩ → 0 < n → some b ≠ row) : Rws w1 A n c sz L := by
  refine ⟨h.len, h.one, h.big, h.nil, ?_⟩
  rcases Nat.eq_zero_or_pos n with h0 | h0
  · exact .inl h0
  · exact h.at_.imp id fun ⟨b, off, e, hlt, hc⟩ => ⟨b, off, e, Nat.lt_of_lt_of_le hlt hg.size, fun j hj i v hv => (World.cell?_of_block (a := ⟨b, off + j * sz + i, none⟩) (hg.block b hlt (hne b off e h0))).trans (hc j hj i v hv)⟩
theorem Pes.grown {w w1 : World} {A : Option Addr} {n c b off : Nat} {E : Nat → Me} {is : List Nat} {row : Option Nat} (h : Pes w A n c b off E is) (hg : w.grownBy w1 row) (hne : ∀ b' o', A = some ⟨b', o', none⟩ → 0 < n → some b' ≠ row) (hb : ∀ i ∈ is, some b ≠ row) : Pes w1 A n c b off E is :=
  ⟨h.rws.grown_ hg hne, h.len, fun i hi => (h.at_ i hi).grown hg (hb i hi)⟩
theorem Pes.lt_ {w : World} {b' o' n c b off : Nat} {E : Nat → Me} {is : List Nat} (h : Pes w (some ⟨b', o', none⟩) n c b off E is) (h0 : 0 < n) : b' < w.heap.size := by
  obtain ⟨b1, o1, e, hl, _⟩ := h.rws.get h0
  cases e; exact hl
/-- The ids to which events of the list are related as events of a thread. -/
def isT (E : Nat → Me) (i : Nat) : Bool := decide (relK (E i) = 2)
def thr (E : Nat → Me) (is : List Nat) : List Int := (is.filter (isT E)).map (fun i => relI (E i))
theorem thr_yes {E : Nat → Me} {is : List Nat} {k : Nat} (hk : k < is.length) (h : isT E (is.getD k 0) = true) : thr E (is.take (k + 1)) = thr E (is.take k) ++ [relI (E (is.getD k 0))] := by
  unfold thr; rw [filt_yes hk h, List.map_append]; rfl
theorem thr_no {E : Nat → Me} {is : List Nat} {k : Nat} (hk : k < is.length) (h : isT E (is.getD k 0) = false) : thr E (is.take (k + 1)) = thr E (is.take k) := by
  unfold thr; rw [filt_no hk h]
theorem thr_len (E : Nat → Me) (is : List Nat) (k : Nat) : (thr E (is.take k)).length ≤ k := by unfold thr; rw [List.length_map]; exact filt_len is k _
theorem int_src1 (w : World) (x : Int) : Src (w.alloc (.cells #[.int .i64 x] 3)) (some ⟨w.heap.size, 0, none⟩) 1 1 1 [.int .i64 x] :=
  ⟨rfl, (fun e => by cases e), .inr ⟨w.heap.size, 0, rfl, by simp, fun j u hu => by rw [Nat.zero_add]; exact (blk_new w [.int .i64 x] 3).cell hu⟩, by simp [Value.oneCell']⟩
set_option maxRecDepth 100000 in
set_option maxHeartbeats 8000000 in
theorem threads20 (A : Option Addr) (n c b off : Nat) (E : Nat → Me) (w : World) (h : Evm w A n E) (hA : 0 < n → A = some ⟨b, off, none⟩) (hn : n ≤ 900000) : Calls Try.prog 20 #[.slice A n c] w (Q.IntsP w (Q.M.st (thr E (onc E n)))) := by
  have B0 := Lib.hid ((Below.refl w.heap.size w).alloc (Nat.le_refl _) (.cells #[] 3))
  have O0 : Hid ((w.alloc (.cells #[] 3)).ownsRow w.heap.size 3 1 (.slice (some ⟨w.heap.size, 0, none⟩) 0 0) 0 []) := Lib.hid (World.ownsRow_made (base := w.heap.size) (e := 3) (size := 1) w #[] 0 (Nat.le_refl _) (by decide) (by simp))
  have HP := Lib.hid (present28n A n c b off E _ (h.below B0.out) hA hn)
  have HBl := Lib.hid (show ∀ i ∈ onc E n, b < w.heap.size from fun i hi => by
    have h0 := onc_lt hi
    have := hA (by omega)
    subst this
    exact h.lt_ (by omega))
  have HOL := Lib.hid (onc_len E n)
  obtain ⟨i0, hi, hz0, hz1, hz2⟩ := info_parts Q.info3
  have HI := Lib.hid (And.intro hi (And.intro hz0 (And.intro hz1 hz2)))
  unfold PesN at HP
  unfold Q.IntsP
  generalize onc E n = is at HP HBl HOL ⊢
  have hol := HOL.out
  clear h hA hi hz0 hz1 hz2
  go_enter Try.func20, Try.ntmps20
  go_upto_region 3 with (first
    | (go_at_call 28; (with_reducible refine HP.out.mono ?_); rintro r w1 ⟨A', c', rfl, hp, hb, hnw⟩; have PE := Lib.hid hp; have B1 := Lib.hid (B0.out.trans (hb.mono B0.out.size)); have O1 := Lib.hid (own_keep O0.out (fun g _ hl => hb.block g hl)); have N1 := Lib.hid (show ∀ b' o', A' = some ⟨b', o', none⟩ → 0 < is.length → (Value.slice (some ⟨w.heap.size, 0, none⟩) 0 0).ownBlock ≠ some b' from fun b' o' e _ e1 => by have := hnw b' o' e; rw [World.size_alloc] at this; cases e1; exact Nat.not_succ_le_self _ this); clear hp hb hnw)
    | fail)
  clear HP B0 O0
  go_loopg [3, 5, 6, 11] is.length (fun gg s3 _ _ s11 wr => ∃ (kk : Nat) (v : Value), kk ≤ is.length ∧ is.length - kk ≤ gg ∧ v = s3 ∧ s11 = .int .i64 (kk : Int) ∧ Hid (wr.ownsRow w.heap.size 3 1 v (thr E (is.take kk)).length ((thr E (is.take kk)).map (Value.int .i64))) ∧ Hid (Pes wr A' is.length c' b off E is) ∧ Hid (∀ b' o', A' = some ⟨b', o', none⟩ → 0 < is.length → v.ownBlock ≠ some b') ∧ Hid (Below w.heap.size w wr))
  case atStart => exact ⟨0, _, Nat.zero_le _, by omega, rfl, rfl, O1, PE, N1, B1⟩
  case round =>
    clear O1 PE N1 B1
    obtain ⟨kk, v, hkk, hg, rfl, rfl, HO, HE, HNe, BW⟩ := hrel
    have htl := thr_len E is kk
    by_cases hlt : kk < is.length
    · have hltz : (kk : Int) < (is.length : Int) := by omega
      have hk0 : (0 : Int) ≤ (kk : Int) := by omega
      obtain ⟨b1, o1, rfl, q0, hat⟩ := HE.out.get hlt
      have HNb := Lib.hid (HNe.out b1 o1 rfl (by omega))
      have HY := Lib.hid (fun h1 => thr_yes (E := E) hlt h1)
      have HN := Lib.hid (fun h1 => thr_no (E := E) hlt h1)
      have HQ := Lib.hid (show isT E (is.getD kk 0) = decide (relK (E (is.getD kk 0)) = 2) from rfl)
      have HR := Lib.hid (relationOf26 b (off + is.getD kk 0 * 29) (E (is.getD kk 0)) wr hat)
      unfold pv at q0
      clear hat
      generalize isT E (is.getD kk 0) = tt at HY HN HQ
      generalize relK (E (is.getD kk 0)) = rk at HQ HR
      generalize relI (E (is.getD kk 0)) = ri at HY HR
      generalize is.getD kk 0 = i at q0 HR
      by_cases c2 : rk = 2
      · have z2 : (rk == 2) = true := beq_iff_eq.2 c2
        have HT2 := Lib.hid (HY.out (HQ.out.trans (decide_eq_true c2)))
        clear HY HN HQ z2
        subst c2
        generalize thr E (is.take kk) = l at HO HT2 htl
        go_wp2_with (first
          | (go_at_call 26; (with_reducible refine HR.out.mono ?_); rintro r w2 ⟨rfl, hb⟩; have C2 := Lib.hid hb; clear hb)
          | (refine store_mid_as rfl 60 _ _ rfl w2.heap.size 0 #[.int .i64 2, .int .i64 ri] rfl rfl (Blk.there (n := 2) (blk_new w2 (relC 0 0) 60) (by decide)) size60 (by simp [Value.oneCell']) ?_; intro w4 hw4; have X4 := Lib.hid (show Blk w4 w2.heap.size (relC 2 ri) 60 by rw [hw4]; exact blk_alloc_set w2 (relC 0 0) (relC 2 ri) 60 rfl); have C4 := Lib.hid (show Below wr.heap.size wr w4 by rw [hw4]; exact below_setRow (C2.out.alloc C2.out.size _) C2.out.size _ _); have p0 := X4.out.cell (i := 0) rfl; have p1 := X4.out.cell (i := 1) rfl; have B4 := Lib.hid (BW.out.trans (C4.out.mono BW.out.size)); have O4 := Lib.hid (own_keep HO.out (fun g _ hl => C4.out.block g hl)); have E4 := Lib.hid (HE.out.below C4.out); clear hw4 q0)
          | (at_builtin; refine wpList_append_any _ rfl _ _ 23 rfl w.heap.size 3 i0 _ 1 8 Try.underlying23 HI.out.1 HI.out.2.1 HI.out.2.2.1 HI.out.2.2.2 rfl (by decide) v l.length (l.map (Value.int .i64)) rfl (O4.out.alloc _) _ 1 1 [.int .i64 ri] rfl (int_src1 _ ri) (by unfold maxLen; omega) (by omega) (B4.out.alloc B4.out.size _).size ?_; intro v5 w5 hgr; have B5 := Lib.hid (hgr.below (B4.out.alloc B4.out.size _) (O4.out.alloc _)); have O5 := Lib.hid hgr.own; have E5 := Lib.hid (Pes.grown (E4.out.below ((Below.refl _ _).alloc (Nat.le_refl _) _)) hgr.grow (fun b' o' e h0 => by cases e; exact fun e1 => HNb.out e1.symm) (fun i hi => own_ne O4.out (HBl.out i hi))); have N5 := Lib.hid (show ∀ b' o', some (⟨b1, o1, none⟩ : Addr) = some ⟨b', o', none⟩ → 0 < is.length → v5.ownBlock ≠ some b' from fun b' o' e h0 e1 => by cases e; rcases hgr.at_ with h1 | h1; exact HNb.out (h1 ▸ e1); (rw [h1] at e1; cases e1; have := E4.out.lt_ h0; simp only [World.size_alloc] at this; omega)); clear hgr)
          | go_in)
        go_roundg (is.length - (kk + 1))
        case measure => omega
        case rel => exact ⟨kk + 1, v5, by omega, by omega, rfl, by go_num, Lib.hid (by rw [HT2.out, List.length_append, List.map_append]; exact O5.out), E5, N5, B5⟩
      · have z2 : (rk == 2) = false := beq_eq_false_iff_ne.2 c2
        have HT2 := Lib.hid (HN.out (HQ.out.trans (decide_eq_false c2)))
        clear HY HN HQ
        go_wp2_with (first
          | (go_at_call 26; (with_reducible refine HR.out.mono ?_); rintro r w2 ⟨rfl, hb⟩; have C2 := Lib.hid hb; clear hb)
          | (refine store_mid_as rfl 60 _ _ rfl w2.heap.size 0 #[.int .i64 rk, .int .i64 ri] rfl rfl (Blk.there (n := 2) (blk_new w2 (relC 0 0) 60) (by decide)) size60 (by simp [Value.oneCell']) ?_; intro w4 hw4; have X4 := Lib.hid (show Blk w4 w2.heap.size (relC rk ri) 60 by rw [hw4]; exact blk_alloc_set w2 (relC 0 0) (relC rk ri) 60 rfl); have C4 := Lib.hid (show Below wr.heap.size wr w4 by rw [hw4]; exact below_setRow (C2.out.alloc C2.out.size _) C2.out.size _ _); have p0 := X4.out.cell (i := 0) rfl; have p1 := X4.out.cell (i := 1) rfl; clear hw4 q0)
          | go_in)
        go_roundg (is.length - (kk + 1))
        case measure => omega
        case rel => exact ⟨kk + 1, v, by omega, by omega, rfl, by go_num, Lib.hid (by rw [HT2.out]; exact own_keep HO.out (fun g _ hl => C4.out.block g hl)), Lib.hid (HE.out.below C4.out), HNe, Lib.hid (BW.out.trans (C4.out.mono BW.out.size))⟩
    · have hltz : ¬ (kk : Int) < (is.length : Int) := by omega
      obtain rfl : kk = is.length := by omega
      rw [List.take_length] at HO htl
      obtain ⟨A2, c2, rfl, _⟩ := Q.own_slice HO.out
      have HSo := Lib.hid (Q.sorted_any A2 (thr E is).length c2 (thr E is) wr (Q.own_ints HO.out (by omega)))
      unfold Q.IntsP at HSo
      go_wp2_with (first
        | (go_at_call 36; (with_reducible refine HSo.out.mono ?_); rintro r w2 ⟨A3, c3, rfl, hi3, hb⟩; have HI3 := Lib.hid hi3; have B3 := Lib.hid (BW.out.trans (hb.mono BW.out.size)); clear hi3 hb)
        | go_in)
      go_ret
      exact ⟨A3, c3, rfl, HI3.out, B3.out⟩
end Go.Proofs.Ytefajhfahnhcgaa
