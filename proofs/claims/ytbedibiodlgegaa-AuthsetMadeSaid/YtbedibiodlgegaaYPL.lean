/- Where the first event with an id is; the reference's place. No condition. -/
import Derived.Test.YtbedibiodlgegaaKO3
namespace Go.Proofs.Ytbedibiodlgegaa
open Go.RowKit
set_option linter.unusedVariables false
set_option linter.unusedSimpArgs false

def pl (E : Nat → Evd) : Nat → Int → Option Nat
  | 0, _ => none
  | n + 1, z => (pl E n z).or (if (E n).e0 = z then some n else none)
def plI (o : Option Nat) : Int := match o with | some k => (k : Int) | none => -1
theorem pl_succ (E : Nat → Evd) (n : Nat) (z : Int) : pl E (n + 1) z = (pl E n z).or (if (E n).e0 = z then some n else none) := rfl
theorem pl_lt {E : Nat → Evd} {z : Int} {k : Nat} : ∀ {n : Nat}, pl E n z = some k → k < n := by
  intro n
  induction n with
  | zero => intro h; cases h
  | succ n ih =>
    intro h
    rw [pl_succ] at h
    cases e : pl E n z with
    | some j => rw [e] at h; cases h; have := ih e; omega
    | none =>
      rw [e] at h
      simp only [Option.none_or] at h
      split at h
      · cases h; omega
      · cases h
theorem pl_mono {E : Nat → Evd} {z : Int} {j k : Nat} (h : pl E k z = some j) : ∀ n, k ≤ n → pl E n z = some j := by
  intro n
  induction n with
  | zero => intro hk; obtain rfl : k = 0 := by omega
            exact h
  | succ n ih =>
    intro hk
    by_cases e : k = n + 1
    · subst e; exact h
    · rw [pl_succ, ih (by omega)]; rfl
theorem pl_hit {E : Nat → Evd} {z : Int} {k n : Nat} (h : pl E k z = none) (hk : k < n) (e : (E k).e0 = z) : pl E n z = some k := by
  refine pl_mono (k := k + 1) ?_ n hk
  rw [pl_succ, h, if_pos e]; rfl
theorem pl_miss {E : Nat → Evd} {z : Int} {k : Nat} (h : pl E k z = none) (e : ¬ (E k).e0 = z) : pl E (k + 1) z = none := by
  rw [pl_succ, h, if_neg e]; rfl
theorem Evx.id {w : World} {A : Option Addr} {n : Nat} {E : Nat → Evd} (h : Evx w A n E) {j : Nat} (hj : j < n) : ∃ b off, A = some ⟨b, off, none⟩ ∧ w.cell? ⟨b, off + j * 29, none⟩ = some (.int .i64 (E j).e0) := by
  obtain ⟨b, off, e, R⟩ := h.get hj
  exact ⟨b, off, e, R.out 0 _ rfl⟩
set_option maxRecDepth 100000 in
set_option maxHeartbeats 2000000 in
theorem place50 (A : Option Addr) (n c : Nat) (z : Int) (E : Nat → Evd) (w : World) (h : Evx w A n E) : Calls Try.prog 53 #[.slice A n c, .int .i64 z] w fun e w' => e = .returned (.int .i64 (plI (pl E n z))) ∧ w = w' := by
  have H := Lib.hid h
  have hbig := h.big
  have HHit := Lib.hid (fun (k : Nat) (h1 : pl E k z = none) (h2 : k < n) (h3 : (E k).e0 = z) => pl_hit h1 h2 h3)
  generalize hr : pl E n z = r at HHit ⊢
  have HR := Lib.hid hr
  clear h hr
  go_enter Try.func53, Try.ntmps53
  go_wp2
  go_loopg [5] n (fun gg s5 wr => ∃ kk : Nat, kk ≤ n ∧ n - kk ≤ gg ∧ s5 = .int .i64 kk ∧ Hid (pl E kk z = none) ∧ w = wr)
  case atStart => exact ⟨0, Nat.zero_le _, by omega, rfl, Lib.hid rfl, rfl⟩
  case round =>
    obtain ⟨kk, hkk, hg, rfl, HN, rfl⟩ := hrel
    by_cases hlt : kk < n
    · have hltz : (kk : Int) < (n : Int) := by omega
      obtain ⟨b, off, rfl, k0⟩ := H.out.id hlt
      cases q1 : ((E kk).e0 == z)
      · have HN3 := Lib.hid (pl_miss HN.out (beq_eq_false_iff_ne.1 q1))
        generalize (E kk).e0 = p at k0 q1
        go_wp2
        go_roundg (n - (kk + 1))
        case measure => omega
        case rel => exact ⟨kk + 1, by omega, by omega, by go_num, HN3, rfl⟩
      · have HE := Lib.hid (HHit.out kk HN.out hlt (beq_iff_eq.1 q1))
        generalize (E kk).e0 = p at k0 q1
        go_wp2
        go_ret
        exact ⟨ret_i64 (by rw [HE.out]; rfl), rfl⟩
    · have hltz : ¬ (kk : Int) < (n : Int) := by omega
      have HE : Hid (r = none) := Lib.hid (by rw [← HR.out, show n = kk by omega]; exact HN.out)
      go_wp2
      go_ret
      exact ⟨ret_i64 (by rw [HE.out]; rfl), rfl⟩
end Go.Proofs.Ytbedibiodlgegaa
