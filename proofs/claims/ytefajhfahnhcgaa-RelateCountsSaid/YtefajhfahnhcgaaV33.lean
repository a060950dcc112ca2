/- RelateCounts: its walk. -/
import Derived.Test.YtefajhfahnhcgaaV30
namespace Go.Proofs.Ytefajhfahnhcgaa
open Go Go.RowKit
set_option linter.unusedVariables false
set_option linter.unusedSimpArgs false

namespace Cn
def sumN : List Rc → Int
  | [] => 0
  | p :: r => p.n + sumN r
theorem sumN_inc (t : ByteArray) : ∀ l : List Rc, sumN (inc t l) = sumN l + 1
  | [] => rfl
  | q :: r => by
    unfold inc
    split
    · show q.n + sumN (inc t r) = q.n + sumN r + 1
      rw [sumN_inc t r]; omega
    · split
      · show q.n + 1 + sumN r = q.n + sumN r + 1
        omega
      · show 1 + (q.n + sumN r) = q.n + sumN r + 1
        omega
theorem sumN_snoc : ∀ (l : List Rc) (p : Rc), sumN (l ++ [p]) = sumN l + p.n
  | [], p => by show p.n + 0 = 0 + p.n; omega
  | q :: r, p => by
    show q.n + sumN (r ++ [p]) = q.n + sumN r + p.n
    rw [sumN_snoc r p]; omega
theorem sumN_take {l : List Rc} {k : Nat} (h : k < l.length) : sumN (l.take (k + 1)) = sumN (l.take k) + (l.getD k t0).n := by
  rw [List.take_succ_eq_append_getElem h, sumN_snoc, getD_at h]
theorem sumN_nn {l : List Rc} (h : ∀ p ∈ l, 0 ≤ p.n) : 0 ≤ sumN l := by
  induction l with
  | nil => exact Int.le_refl _
  | cons p r ih =>
    have h1 := ih (fun q hq => h q (List.mem_cons_of_mem _ hq))
    have h2 := h p List.mem_cons_self
    show 0 ≤ p.n + sumN r
    omega
theorem sumN_app : ∀ (a b : List Rc), sumN (a ++ b) = sumN a + sumN b
  | [], b => by show sumN b = 0 + sumN b; omega
  | p :: r, b => by
    show p.n + sumN (r ++ b) = p.n + sumN r + sumN b
    rw [sumN_app r b]; omega
theorem sumN_le {l : List Rc} (h : ∀ p ∈ l, 0 ≤ p.n) (k : Nat) : sumN (l.take k) ≤ sumN l := by
  have h1 := sumN_app (l.take k) (l.drop k)
  rw [List.take_append_drop] at h1
  have h2 := sumN_nn (l := l.drop k) (fun p hp => h p (List.mem_of_mem_drop hp))
  omega
end Cn
theorem sum_reac (ds : List (ByteArray × ByteArray)) : Cn.sumN (reac ds) = (ds.length : Int) := by
  refine snoc_ind (P := fun ds => Cn.sumN (reac ds) = (ds.length : Int)) rfl (fun l c ih => ?_) ds
  show Cn.sumN (reac (l ++ [c])) = ((l ++ [c]).length : Int)
  rw [reac_snoc, Cn.sumN_inc, ih, List.length_append, List.length_singleton]
  omega
theorem filt_le {p q : Nat → Bool} (h : ∀ j, p j = true → q j = true) (l : List Nat) : (l.filter p).length ≤ (l.filter q).length := by
  rw [← List.countP_eq_length_filter, ← List.countP_eq_length_filter]
  exact List.countP_mono_left (fun x _ hx => h x hx)
def isA (E : Nat → Me) (z : Int) (j : Nat) : Bool := decide ((E j).tg = z) && decide ((E j).kd = 12)
def isH (E : Nat → Me) (z : Int) (j : Nat) : Bool := decide ((E j).tg = z) && (decide ((E j).kd = 11) && (E j).th)
def cP (p : Nat → Bool) (k : Nat) : Nat := ((List.range k).filter p).length
theorem cP_yes {p : Nat → Bool} {k : Nat} (h : p k = true) : cP p (k + 1) = cP p k + 1 := by
  unfold cP
  rw [List.range_succ, List.filter_append, List.length_append]
  simp [h]
theorem cP_no {p : Nat → Bool} {k : Nat} (h : p k = false) : cP p (k + 1) = cP p k := by
  unfold cP
  rw [List.range_succ, List.filter_append, List.length_append]
  simp [h]
theorem cP_le (p : Nat → Bool) (k : Nat) : cP p k ≤ k := by
  have := List.length_filter_le p (List.range k)
  rwa [List.length_range] at this
theorem rel4 {E : Nat → Me} {z : Int} {j : Nat} (h : isR E 4 z j = true) : isA E z j = true := by
  unfold isR at h
  unfold isA
  rw [Bool.and_eq_true, decide_eq_true_eq, decide_eq_true_eq] at h ⊢
  obtain ⟨h1, h2⟩ := h
  unfold relK at h1
  unfold relI at h2
  by_cases h0 : (E j).tg ≤ 0
  · rw [if_pos h0] at h1; omega
  · rw [if_neg h0] at h1 h2
    by_cases h3 : (E j).kd = 12
    · rw [if_pos h3] at h2; exact ⟨h2, h3⟩
    · rw [if_neg h3] at h1
      split at h1
      · omega
      · split at h1
        · split at h1 <;> omega
        · omega
theorem rel2 {E : Nat → Me} {z : Int} {j : Nat} (h : isR E 2 z j = true) : isH E z j = true := by
  unfold isR at h
  unfold isH
  rw [Bool.and_eq_true, decide_eq_true_eq, decide_eq_true_eq] at h
  rw [Bool.and_eq_true, Bool.and_eq_true, decide_eq_true_eq, decide_eq_true_eq]
  obtain ⟨h1, h2⟩ := h
  unfold relK at h1
  unfold relI at h2
  by_cases h0 : (E j).tg ≤ 0
  · rw [if_pos h0] at h1; omega
  · rw [if_neg h0] at h1 h2
    by_cases h3 : (E j).kd = 12
    · rw [if_pos h3] at h1; omega
    · rw [if_neg h3] at h1 h2
      by_cases h4 : (E j).kd = 13
      · rw [if_pos h4] at h1; omega
      · rw [if_neg h4] at h1 h2
        by_cases h5 : (E j).kd = 11
        · rw [if_pos h5] at h1 h2
          by_cases h6 : (E j).th = true
          · exact ⟨h2, h5, h6⟩
          · rw [if_neg h6] at h1; omega
        · rw [if_neg h5] at h1; omega
/-- What is needed of a summary. -/
structure SumF (w : World) (E : Nat → Me) (n : Nat) (z : Int) (A : Option Addr) (c : Nat) (zs : List Cn.Rc) (th : Nat) (la : Int) : Prop where
  row : Cn.Rcs w A zs.length c zs
  each : ∀ p ∈ zs, 1 ≤ p.n ∧ p.n ≤ (cP (isA E z) n : Int)
  srt : Cn.Srt zs
  sum : Cn.sumN zs ≤ (cP (isA E z) n : Int)
  thr : th ≤ cP (isH E z) n
  las : 0 < th ∨ la = 0
theorem sumF_of {w : World} {E : Nat → Me} {n : Nat} {z : Int} {v : Value} (hs : sglE E n = true) (h : IsSum w E (onc E n) z (gt E n z) v) : ∃ (e : Int) (A : Option Addr) (c : Nat) (zs : List Cn.Rc) (th : Nat) (la : Int), v = .agg #[.int .i64 e, .slice A zs.length c, .int .i64 (th : Int), .int .i64 la] ∧ SumF w E n z A c zs th la := by
  rw [sgl_onc hs] at h
  cases hg : gt E n z with
  | none =>
    rw [hg] at h
    exact ⟨0, none, 0, [], 0, 0, h, Cn.Rcs.nil w, fun p hp => by simp at hp, List.Pairwise.nil, by show (0 : Int) ≤ _; omega, Nat.zero_le _, .inr rfl⟩
  | some t =>
    rw [hg] at h
    obtain ⟨A', c', e, hr⟩ := h
    have hl : (dsK E (List.range n) z (List.range n).length).length ≤ cP (isA E z) n := by
      unfold dsK
      rw [List.take_length]
      refine Nat.le_trans (dst_len _) ?_
      unfold prs
      rw [List.length_map]
      exact filt_le (fun j hj => rel4 hj) _
    refine ⟨_, A', c', _, _, _, e, hr, fun p hp => ?_, (reac_ok _).1, ?_, filt_le (fun j hj => rel2 hj) _, ?_⟩
    · obtain ⟨h1, h2⟩ := ((reac_ok _).2 p).1 hp
      have h3 := cntT_le (dsK E (List.range n) z (List.range n).length) p.tx
      omega
    · rw [sum_reac]
      omega
    · rcases Nat.eq_zero_or_pos ((List.range n).filter (isR E 2 z)).length with h0 | h0
      · right
        rw [List.eq_nil_of_length_eq_zero h0]; rfl
      · exact .inl h0
theorem srt_lt {zs : List Cn.Rc} (h : Cn.Srt zs) {i j : Nat} (hij : i < j) (hj : j < zs.length) : (zs.getD i Cn.t0).tx.toList < (zs.getD j Cn.t0).tx.toList := by
  rw [Cn.getD_at hj, Cn.getD_at (by omega)]
  exact List.pairwise_iff_getElem.1 h i j (by omega) hj hij
set_option maxRecDepth 100000 in
set_option maxHeartbeats 16000000 in
theorem counts_walk (A : Option Addr) (n c : Nat) (E : Nat → Me) (z : Int) (w : World) (h : Evm w A n E) (hc : n ≤ c) : Calls Try.prog 9 #[.slice A n c, .int .i64 z] w fun r w' => r = .returned (.bool true) ∧ Below w.heap.size w w' := by
  have HFe := Lib.hid (few13 A n c E w h)
  cases hq : fewE E n with
  | false =>
    rw [hq] at HFe
    have B1 := Lib.hid (Below.refl w.heap.size w)
    clear h hc
    go_enter Try.func9, Try.ntmps9
    go_wp2_with (first
      | (go_at_call 13; (with_reducible refine HFe.out.mono ?_); rintro r w0 ⟨rfl, he⟩; obtain rfl : w = w0 := he.symm)
      | (go_at_call 12; (with_reducible refine (lives12 _).mono ?_); rintro r w9 ⟨rfl, hb⟩; have B9 := Lib.hid (B1.out.trans (hb.mono B1.out.size)); clear hb)
      | go_in)
    go_ret
    exact ⟨rfl, B9.out⟩
  | true =>
    rw [hq] at HFe
    have hn := fewE_le hq
    have HSg := Lib.hid (single24 A n c E w h hc)
    cases hs : sglE E n with
    | false =>
      rw [hs] at HSg
      clear h hc hq hs
      go_enter Try.func9, Try.ntmps9
      go_wp2_with (first
        | (go_at_call 13; (with_reducible refine HFe.out.mono ?_); rintro r w0 ⟨rfl, he⟩; obtain rfl : w = w0 := he.symm)
        | (go_at_call 24; (with_reducible refine HSg.out.mono ?_); rintro r w1 ⟨rfl, hb⟩; have B1 := Lib.hid hb; clear hb)
        | (go_at_call 12; (with_reducible refine (lives12 _).mono ?_); rintro r w9 ⟨rfl, hb⟩; have B9 := Lib.hid (B1.out.trans (hb.mono B1.out.size)); clear hb)
        | go_in)
      go_ret
      exact ⟨rfl, B9.out⟩
    | true =>
      rw [hs] at HSg
      have HSm := Lib.hid (fun u (hb : Below w.heap.size w u) => (sum15e A n c E z u (h.below hb) (by omega)).mono fun r w' h => (show ∃ (e : Int) (A : Option Addr) (c : Nat) (zs : List Cn.Rc) (th : Nat) (la : Int), r = Ending.returned (.agg #[.int .i64 e, .slice A zs.length c, .int .i64 (th : Int), .int .i64 la]) ∧ SumF w' E n z A c zs th la ∧ Below u.heap.size u w' from by
        obtain ⟨v, e, h1, h2⟩ := h
        obtain ⟨e1, A1, c1, zs, th, la, rfl, hf⟩ := sumF_of hs h1
        exact ⟨e1, A1, c1, zs, th, la, e, hf, h2⟩))
      have HH := Lib.hid h
      clear h hc hq hs
      go_enter Try.func9, Try.ntmps9
      go_upto_region 4 with (first
        | (go_at_call 13; (with_reducible refine HFe.out.mono ?_); rintro r w0 ⟨rfl, he⟩; obtain rfl : w = w0 := he.symm)
        | (go_at_call 24; (with_reducible refine HSg.out.mono ?_); rintro r w1 ⟨rfl, hb⟩; have B1 := Lib.hid hb; clear hb)
        | (go_at_call 15; (with_reducible refine (HSm.out _ B1.out).mono ?_); rintro r w2 ⟨e1, A1, c1, zs, th, la, rfl, hf, hb⟩; have F2 := Lib.hid hf; have B2 := Lib.hid (B1.out.trans (hb.mono B1.out.size)); clear hf hb)
        | (refine store_mid_as rfl 45 _ _ rfl w2.heap.size 0 (smC e1 A1 zs.length c1 (th : Int) la).toArray rfl rfl (Blk.there (n := 4) (blk_new w2 (smC 0 none 0 0 0 0) 45) (by decide)) size45 (by simp [Value.oneCell']) ?_; intro w3 hw3; have XS := Lib.hid (show Blk w3 w2.heap.size (smC e1 A1 zs.length c1 (th : Int) la) 45 by rw [hw3]; exact blk_alloc_set w2 (smC 0 none 0 0 0 0) (smC e1 A1 zs.length c1 (th : Int) la) 45 rfl); have C3 := Lib.hid (show Below w2.heap.size w2 w3 by rw [hw3]; exact below_setRow ((Below.refl _ _).alloc (Nat.le_refl _) _) (Nat.le_refl _) _ _); clear hw3)
        | fail)
      have B3 := Lib.hid (B2.out.trans (C3.out.mono B2.out.size))
      have HR3 := Lib.hid (F2.out.row.below C3.out)
      have HEa := Lib.hid F2.out.each
      have HSr := Lib.hid F2.out.srt
      have HSu := Lib.hid F2.out.sum
      have HTh := Lib.hid F2.out.thr
      have HLa := Lib.hid F2.out.las
      have HV3 := Lib.hid (HH.out.below B3.out)
      have hA := cP_le (isA E z) n
      have hH := cP_le (isH E z) n
      generalize w2.heap.size = g at XS ⊢
      clear F2 C3 B1 B2 HFe HSg HSm HH
      go_wp2
      go_loopg [6, 7, 8] n (fun gg s6 s7 s8 wr => ∃ (kk ca ct : Nat), kk ≤ n ∧ n - kk ≤ gg ∧ ca ≤ kk ∧ ct ≤ kk ∧ s6 = .int .i64 (ca : Int) ∧ s7 = .int .i64 (ct : Int) ∧ s8 = .int .i64 (kk : Int) ∧ Hid (ca = cP (isA E z) kk) ∧ Hid (ct = cP (isH E z) kk) ∧ w3 = wr)
      case atStart => exact ⟨0, 0, 0, Nat.zero_le _, by omega, Nat.le_refl _, Nat.le_refl _, rfl, rfl, rfl, Lib.hid rfl, Lib.hid rfl, rfl⟩
      case round =>
        obtain ⟨kk, ca, ct, hkk, hg, hca, hct, rfl, rfl, rfl, HCa, HCt, rfl⟩ := hrel
        by_cases hlt : kk < n
        · have hltz : (kk : Int) < (n : Int) := by omega
          have hk0 : (0 : Int) ≤ (kk : Int) := by omega
          obtain ⟨b1, o1, rfl, hat⟩ := HV3.out.get hlt
          have q12 := hat.k12
          have q3 := hat.k3
          have q13 := hat.k13
          have HAy := Lib.hid (fun h => cP_yes (p := isA E z) (k := kk) h)
          have HAn := Lib.hid (fun h => cP_no (p := isA E z) (k := kk) h)
          have HHy := Lib.hid (fun h => cP_yes (p := isH E z) (k := kk) h)
          have HHn := Lib.hid (fun h => cP_no (p := isH E z) (k := kk) h)
          have HA0 := Lib.hid (show isA E z kk = (decide ((E kk).tg = z) && decide ((E kk).kd = 12)) from rfl)
          have HH0 := Lib.hid (show isH E z kk = (decide ((E kk).tg = z) && (decide ((E kk).kd = 11) && (E kk).th)) from rfl)
          generalize isA E z kk = pa at HAy HAn HA0
          generalize isH E z kk = ph at HHy HHn HH0
          generalize (E kk).tg = tg at q12 HA0 HH0
          generalize (E kk).kd = kd at q3 HA0 HH0
          generalize (E kk).th = eh at q13 HH0
          clear hat
          by_cases c0 : tg = z
          · have z0 : (tg != z) = false := by simp [c0]
            by_cases c1 : kd = 12
            · have z1 : (kd == 12) = true := beq_iff_eq.2 c1
              have z2 : (kd == 11) = false := beq_eq_false_iff_ne.2 (by omega)
              have HA2 := Lib.hid (HAy.out (by rw [HA0.out, decide_eq_true c0, decide_eq_true c1]; rfl))
              have HH2 := Lib.hid (HHn.out (by rw [HH0.out, decide_eq_false (p := kd = 11) (by omega), Bool.false_and, Bool.and_false]))
              clear HAy HAn HHy HHn HA0 HH0 c0 c1
              go_wp2
              go_roundg (n - (kk + 1))
              case measure => omega
              case rel => exact ⟨kk + 1, ca + 1, ct, by omega, by omega, by omega, by omega, by go_num, rfl, by go_num, Lib.hid (by rw [HA2.out, HCa.out]), Lib.hid (by rw [HH2.out, HCt.out]), rfl⟩
            · have z1 : (kd == 12) = false := beq_eq_false_iff_ne.2 c1
              have HA2 := Lib.hid (HAn.out (by rw [HA0.out, decide_eq_false c1, Bool.and_false]))
              by_cases c2 : kd = 11
              · have z2 : (kd == 11) = true := beq_iff_eq.2 c2
                cases eh with
                | true =>
                  have HH2 := Lib.hid (HHy.out (by rw [HH0.out, decide_eq_true c0, decide_eq_true c2]; rfl))
                  clear HAy HAn HHy HHn HA0 HH0 c0 c1 c2
                  go_wp2
                  go_roundg (n - (kk + 1))
                  case measure => omega
                  case rel => exact ⟨kk + 1, ca, ct + 1, by omega, by omega, by omega, by omega, rfl, by go_num, by go_num, Lib.hid (by rw [HA2.out, HCa.out]), Lib.hid (by rw [HH2.out, HCt.out]), rfl⟩
                | false =>
                  have HH2 := Lib.hid (HHn.out (by rw [HH0.out, Bool.and_false, Bool.and_false]))
                  clear HAy HAn HHy HHn HA0 HH0 c0 c1 c2
                  go_wp2
                  go_roundg (n - (kk + 1))
                  case measure => omega
                  case rel => exact ⟨kk + 1, ca, ct, by omega, by omega, by omega, by omega, rfl, rfl, by go_num, Lib.hid (by rw [HA2.out, HCa.out]), Lib.hid (by rw [HH2.out, HCt.out]), rfl⟩
              · have z2 : (kd == 11) = false := beq_eq_false_iff_ne.2 c2
                have HH2 := Lib.hid (HHn.out (by rw [HH0.out, decide_eq_false c2, Bool.false_and, Bool.and_false]))
                clear HAy HAn HHy HHn HA0 HH0 c0 c1 c2
                go_wp2
                go_roundg (n - (kk + 1))
                case measure => omega
                case rel => exact ⟨kk + 1, ca, ct, by omega, by omega, by omega, by omega, rfl, rfl, by go_num, Lib.hid (by rw [HA2.out, HCa.out]), Lib.hid (by rw [HH2.out, HCt.out]), rfl⟩
          · have z0 : (tg != z) = true := by simp [c0]
            have HA2 := Lib.hid (HAn.out (by rw [HA0.out, decide_eq_false c0, Bool.false_and]))
            have HH2 := Lib.hid (HHn.out (by rw [HH0.out, decide_eq_false c0, Bool.false_and]))
            clear HAy HAn HHy HHn HA0 HH0 c0
            go_wp2
            go_roundg (n - (kk + 1))
            case measure => omega
            case rel => exact ⟨kk + 1, ca, ct, by omega, by omega, by omega, by omega, rfl, rfl, by go_num, Lib.hid (by rw [HA2.out, HCa.out]), Lib.hid (by rw [HH2.out, HCt.out]), rfl⟩
        · have hltz : ¬ (kk : Int) < (n : Int) := by omega
          obtain rfl : kk = n := by omega
          rw [← HCa.out] at HEa HSu
          rw [← HCt.out] at HTh
          clear HCa HCt hA hH
          have y1 := XS.out.cell (i := 1) rfl
          go_wp2
          clear y1
          go_loopg [9, 10] zs.length (fun gg s9 s10 wr => ∃ (k : Nat), k ≤ zs.length ∧ zs.length - k ≤ gg ∧ s9 = .int .i64 (Cn.sumN (zs.take k)) ∧ s10 = .int .i64 (k : Int) ∧ Hid (Below w3.heap.size w3 wr))
          case atStart => exact ⟨0, Nat.zero_le _, by omega, rfl, rfl, Lib.hid (Below.refl _ _)⟩
          case round =>
            obtain ⟨k, hk, hg2, rfl, rfl, BX⟩ := hrel
            have XR := Lib.hid (XS.out.below BX.out)
            have y1 := XR.out.cell (i := 1) rfl
            have hs1 := Cn.sumN_le (l := zs) (fun p hp => by have := (HEa.out p hp).1; omega) k
            have hs0 := Cn.sumN_nn (l := zs.take k) (fun p hp => by have := (HEa.out p (List.mem_of_mem_take hp)).1; omega)
            have hs2 := HSu.out
            by_cases hlk : k < zs.length
            · have hlkz : (k : Int) < (zs.length : Int) := by omega
              have hk00 : (0 : Int) ≤ (k : Int) := by omega
              have hsk := Cn.sumN_le (l := zs) (fun p hp => by have := (HEa.out p hp).1; omega) (k + 1)
              rw [Cn.sumN_take hlk] at hsk
              have HT2 := Lib.hid (Cn.sumN_take hlk)
              have hqm : zs.getD k Cn.t0 ∈ zs := by rw [Cn.getD_at hlk]; exact List.getElem_mem _
              obtain ⟨he1, he2⟩ := HEa.out _ hqm
              obtain ⟨b3, o3, rfl, _, hr, _⟩ := (HR3.out.below BX.out).get hlk
              have p0 : wr.cell? ⟨b3, o3 + k * 2, none⟩ = some (.string (zs.getD k Cn.t0).tx) := hr 0 _ rfl
              have p1 : wr.cell? ⟨b3, o3 + k * 2 + 1, none⟩ = some (.int .i64 (zs.getD k Cn.t0).n) := hr 1 _ rfl
              clear hr hqm
              have d1 : decide ((zs.getD k Cn.t0).n < 1) = false := decide_eq_false (by omega)
              have d2 : decide ((ca : Int) < (zs.getD k Cn.t0).n) = false := decide_eq_false (by omega)
              have HSn := Lib.hid (show (0 : Int) ≤ Cn.sumN (zs.take k) + (zs.getD k Cn.t0).n ∧ Cn.sumN (zs.take k) + (zs.getD k Cn.t0).n ≤ 40 by omega)
              generalize hsm : Cn.sumN (zs.take k) = sm at hs1 hs0 hsk HT2 HSn ⊢
              clear hsm hs1 hsk hs2
              rcases Nat.eq_zero_or_pos k with h0 | h0
              · subst h0
                generalize zs.getD 0 Cn.t0 = q at *
                generalize q.n = qn at p1 d1 d2 HT2 he1 he2 HSn
                generalize q.tx = qt at p0
                simp only [Nat.zero_mul, Nat.add_zero] at p0 p1
                have hS0 := HSn.out.1
                have hS1 : sm + qn ≤ 9223372036854775807 := by have := HSn.out.2; omega
                have hS2 : -9223372036854775808 ≤ sm + qn := by omega
                go_wp2
                go_quiet (fail)
                generalize hwd : World.drewN wr _ = wd
                have BD := Lib.hid (show Below w3.heap.size w3 wd by rw [← hwd]; exact bel_dn BX.out _)
                have p1' : wd.cell? ⟨b3, o3 + 1, none⟩ = some (.int .i64 qn) := by rw [← hwd]; exact p1
                have y1' : wd.cell? ⟨g, 1, none⟩ = some (.slice (some ⟨b3, o3, none⟩) zs.length c1) := by rw [← hwd]; exact y1
                clear hwd p0 p1 y1 XR
                go_wp2
                go_roundg (zs.length - (0 + 1))
                case measure => omega
                case rel => exact ⟨0 + 1, by omega, by omega, by rw [HT2.out], by go_num, BD⟩
              · obtain ⟨b4, o4, e4, _, hr, _⟩ := (HR3.out.below BX.out).get (show k - 1 < zs.length by omega)
                cases e4
                have r0 : wr.cell? ⟨b3, o3 + (k - 1) * 2, none⟩ = some (.string (zs.getD (k - 1) Cn.t0).tx) := hr 0 _ rfl
                have hlt2 := srt_lt HSr.out (show k - 1 < k by omega) hlk
                clear hr
                generalize zs.getD k Cn.t0 = q at *
                generalize zs.getD (k - 1) Cn.t0 = q2 at *
                have l1 : Op.bytesLess q2.tx.toList q.tx.toList = true := by rw [bytesLess_eq]; exact decide_eq_true hlt2
                have l2 : Op.bytesLess q.tx.toList q2.tx.toList = false := by rw [bytesLess_eq]; exact decide_eq_false (fun h => List.lt_irrefl _ (List.lt_trans h hlt2))
                have l3 : (q.tx.toList == q2.tx.toList) = false := beq_eq_false_iff_ne.2 (fun e => by rw [e] at hlt2; exact List.lt_irrefl _ hlt2)
                have l4 : (q2.tx.toList == q.tx.toList) = false := beq_eq_false_iff_ne.2 (fun e => by rw [e] at hlt2; exact List.lt_irrefl _ hlt2)
                clear hlt2
                generalize q.n = qn at p1 d1 d2 HT2 he1 he2 HSn
                generalize q.tx = qt at p0 l1 l2 l3 l4
                generalize q2.tx = q2t at r0 l1 l2 l3 l4
                have d3 : decide ((0 : Int) < (k : Int)) = true := decide_eq_true (by omega)
                have hm0 : (0 : Int) ≤ (k : Int) - 1 := by omega
                have hm1 : (k : Int) - 1 < (zs.length : Int) := by omega
                have hm2 : ((k : Int) - 1).toNat = k - 1 := by omega
                have hbig := HR3.out.rws.big
                unfold maxLen at hbig
                have hm3 : (k : Int) - 1 ≤ 9223372036854775807 := by omega
                have hm4 : -9223372036854775808 ≤ (k : Int) - 1 := by omega
                have hS0 := HSn.out.1
                have hS1 : sm + qn ≤ 9223372036854775807 := by have := HSn.out.2; omega
                have hS2 : -9223372036854775808 ≤ sm + qn := by omega
                go_wp2
                go_quiet (fail)
                generalize hwd : World.drewN wr _ = wd
                have BD := Lib.hid (show Below w3.heap.size w3 wd by rw [← hwd]; exact bel_dn BX.out _)
                have p1' : wd.cell? ⟨b3, o3 + k * 2 + 1, none⟩ = some (.int .i64 qn) := by rw [← hwd]; exact p1
                have y1' : wd.cell? ⟨g, 1, none⟩ = some (.slice (some ⟨b3, o3, none⟩) zs.length c1) := by rw [← hwd]; exact y1
                clear hwd p0 p1 y1 XR r0 l1 l2 l3 l4
                go_wp2
                go_roundg (zs.length - (k + 1))
                case measure => omega
                case rel => exact ⟨k + 1, by omega, by omega, by rw [HT2.out], by go_num, BD⟩
            · have hlkz : ¬ (k : Int) < (zs.length : Int) := by omega
              obtain rfl : k = zs.length := by omega
              rw [List.take_length] at hs1 hs0 ⊢
              have y2 := XR.out.cell (i := 2) rfl
              have y3 := XR.out.cell (i := 3) rfl
              have hth := HTh.out
              have BW := Lib.hid (B3.out.trans (BX.out.mono B3.out.size))
              have hsl : Cn.sumN zs ≤ (ca : Int) := HSu.out
              have hthz : (th : Int) ≤ (ct : Int) := by omega
              have hth0 : (0 : Int) ≤ (th : Int) := by omega
              generalize Cn.sumN zs = sz at *
              rcases HLa.out with hl1 | hl1
              · have hl2 : (0 : Int) < (th : Int) := by omega
                clear HLa
                go_wp2_with (first
                  | (go_at_call 12; (with_reducible refine (lives12 _).mono ?_); rintro r w9 ⟨rfl, hb⟩; have B9 := Lib.hid (BW.out.trans (hb.mono BW.out.size)); clear hb)
                  | go_in)
                go_ret
                exact ⟨rfl, B9.out⟩
              · by_cases hl2 : (0 : Int) < (th : Int)
                · clear HLa
                  go_wp2_with (first
                    | (go_at_call 12; (with_reducible refine (lives12 _).mono ?_); rintro r w9 ⟨rfl, hb⟩; have B9 := Lib.hid (BW.out.trans (hb.mono BW.out.size)); clear hb)
                    | go_in)
                  go_ret
                  exact ⟨rfl, B9.out⟩
                · have hl4 : th = 0 := by omega
                  subst hl4 hl1
                  clear HLa
                  go_wp2_with (first
                    | (go_at_call 12; (with_reducible refine (lives12 _).mono ?_); rintro r w9 ⟨rfl, hb⟩; have B9 := Lib.hid (BW.out.trans (hb.mono BW.out.size)); clear hb)
                    | go_in)
                  go_ret
                  exact ⟨rfl, B9.out⟩
end Go.Proofs.Ytefajhfahnhcgaa
