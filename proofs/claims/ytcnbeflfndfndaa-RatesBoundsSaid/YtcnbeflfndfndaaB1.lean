/- Plain arithmetic of the rate limits: calls of Take take no more than there was and has arrived. Condition: the bucket is right. -/
import Derived.Test.YtcnbeflfndfndaaM
import Derived.Test.YtcnbeflfndfndaaLive
namespace Go.Proofs.Ytcnbeflfndfndaa
open Go.RowKit
set_option linter.unusedVariables false

/-- What a bucket has is at most what it had and what has arrived. -/
theorem cnt_le {L A M E now : Int} (ok : Ok L A M E) : cnt L A M E now ≤ L + arr A E now := by
  by_cases h : M - L ≤ arr A E now
  · rw [← cnt_full h]; omega
  · rw [← cnt_less h]; exact Int.le_refl _
theorem div_add {E a b q : Int} (hE : 1 ≤ E) (h : q * E ≤ b - a) : a / E + q ≤ b / E := by
  have h1 := Int.mul_ediv_add_emod a E
  have h2 := Int.emod_nonneg a (show E ≠ 0 by omega)
  have h3 : (a / E + q) * E ≤ b := by
    rw [Int.add_mul, Int.mul_comm (a / E) E]
    omega
  exact (Int.le_ediv_iff_mul_le (by omega)).2 h3

/-- What is kept of the calls so far: x is the bucket after them, of the same size and rate. -/
structure Inv (L A M E l a taken last : Int) : Prop where
  ok : Ok l a M E
  at0 : A ≤ a
  lst : a ≤ last
  top : last ≤ 1000000000
  sum : taken + l ≤ L + (a - A) / E
  pos : 0 ≤ taken
theorem inv_start {L A M E : Int} (ok : Ok L A M E) : Inv L A M E L A 0 A :=
  ⟨ok, Int.le_refl _, Int.le_refl _, ok.a1, by rw [Int.sub_self]; simp, Int.le_refl _⟩
theorem inv_step {L A M E l a taken last now n : Int} (h : Inv L A M E l a taken last) (hn : 1 ≤ n) (h0 : 0 ≤ now) (h1 : now ≤ 1000000000) (hc : ¬ cnt l a M E now < n) :
    Inv L A M E (cnt l a M E now - n) (tat l a M E now) (taken + n) (if last < now then now else last) := by
  have ok2 := tat_ok h.ok hn h1 hc
  have hle := cnt_le (now := now) h.ok
  have hE := h.ok.e0
  have hz := arr_nn (A := a) (now := now) hE
  have hs := h.sum
  have hat := h.at0
  have hlst := h.lst
  have htop := h.top
  have hpos := h.pos
  have key : a ≤ tat l a M E now ∧ tat l a M E now ≤ (if last < now then now else last) ∧ arr a E now * E ≤ tat l a M E now - a := by
    by_cases hA : a ≤ now
    · obtain ⟨t1, t2, t3⟩ := tat_bd h.ok hA
      obtain ⟨p1, p2⟩ := arr_parts hE hA
      refine ⟨t1, by split <;> omega, ?_⟩
      by_cases hf : M - l ≤ arr a E now
      · rw [tat_hi hf hA]; exact p1
      · rw [tat_no hf]; omega
    · have := (cnt_before h.ok (show now ≤ a by omega)).2
      rw [this, arr_lo (by omega)]
      refine ⟨Int.le_refl _, by split <;> omega, by simp⟩
  obtain ⟨k1, k2, k3⟩ := key
  refine ⟨ok2, by omega, k2, by split <;> omega, ?_, by omega⟩
  have := div_add (a := a - A) (b := tat l a M E now - A) hE (q := arr a E now) (by omega)
  omega
theorem inv_end {L A M E l a taken last : Int} (h : Inv L A M E l a taken last) : taken ≤ L + (last - A) / E := by
  have h1 := h.ok.l0
  have h2 := h.sum
  have h3 := Int.ediv_le_ediv (show 0 < E from by have := h.ok.e0; omega) (show a - A ≤ last - A by have := h.lst; omega)
  omega
theorem inv_small {L A M E l a taken last : Int} (ok0 : Ok L A M E) (h : Inv L A M E l a taken last) : taken ≤ 2000000000 := by
  have h1 := inv_end h
  have h2 := ok0.l1
  have h3 := ok0.m1
  have h4 := h.top
  have h5 := ok0.a0
  have h6 : (last - A) / E ≤ last - A := Int.ediv_le_self E (by have := h.lst; have := h.at0; omega)
  omega

/-- The calls: len pairs of ints, the time and the number of each. -/
def Prs (w : World) (a : Option Addr) (len : Nat) (Tm Nm : Nat → Int) : Prop :=
  (∀ i, (-9223372036854775808 ≤ Tm i ∧ Tm i ≤ 9223372036854775807) ∧ (-9223372036854775808 ≤ Nm i ∧ Nm i ≤ 9223372036854775807)) ∧ len ≤ 9223372036854775807 ∧
    (0 < len → ∃ b off, a = some ⟨b, off, none⟩ ∧ b < w.heap.size ∧ ∀ i, i < len → w.cell? ⟨b, off + i * 2, none⟩ = some (.int .i64 (Tm i)) ∧ w.cell? ⟨b, off + i * 2 + 1, none⟩ = some (.int .i64 (Nm i)))
theorem Prs.below {w w' : World} {a : Option Addr} {len : Nat} {Tm Nm : Nat → Int} (h : Prs w a len Tm Nm) (hb : Below w.heap.size w w') : Prs w' a len Tm Nm := by
  obtain ⟨h1, h2, h3⟩ := h
  refine ⟨h1, h2, fun h0 => ?_⟩
  obtain ⟨b, off, e, hlt, hc⟩ := h3 h0
  exact ⟨b, off, e, Nat.lt_of_lt_of_le hlt hb.size, fun i hi => ⟨(hb.cell (p := ⟨b, off + i * 2, none⟩) hlt).trans (hc i hi).1, (hb.cell (p := ⟨b, off + i * 2 + 1, none⟩) hlt).trans (hc i hi).2⟩⟩
end Go.Proofs.Ytcnbeflfndfndaa
