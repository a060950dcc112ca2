/- What the laws of levels share: numbers that exist, levels that are the same as themselves. -/
import Derived.Test.YthhmbcelicfopaaN12
namespace Go.Proofs.Ythhmbcelicfopaa
open Go.RowKit
set_option linter.unusedVariables false
theorem first_of (p : Nat → Prop) (n : Nat) (h : ∃ j, j < n ∧ p j) : ∃ k, k < n ∧ p k ∧ ∀ j, j < k → ¬ p j := by
  induction n with
  | zero => obtain ⟨j, hj, _⟩ := h; omega
  | succ n ih =>
    by_cases h' : ∃ j, j < n ∧ p j
    · obtain ⟨k, hk, hp, hl⟩ := ih h'
      exact ⟨k, by omega, hp, hl⟩
    · obtain ⟨j, hj, hp⟩ := h
      have : j = n := by
        rcases Nat.lt_or_ge j n with h1 | h1
        · exact absurd ⟨j, h1, hp⟩ h'
        · omega
      subst this
      exact ⟨j, hj, hp, fun i hi hpi => h' ⟨i, hi, hpi⟩⟩
theorem first_or (p : Nat → Prop) (n : Nat) : (∃ k, k < n ∧ p k ∧ ∀ j, j < k → ¬ p j) ∨ ∀ j, j < n → ¬ p j := by
  by_cases h : ∃ j, j < n ∧ p j
  · exact .inl (first_of p n h)
  · exact .inr fun j hj hp => h ⟨j, hj, hp⟩
theorem creator_ex (E : Nat → Ev) (n : Nat) : ∃ s, CreatorPost E n s := by
  rcases first_or (fun j => (E j).kd = 1) n with ⟨k, hk, h1, hl⟩ | h
  · exact ⟨_, .inl ⟨k, .inl ⟨k, hk, h1, hl, rfl⟩, hk, rfl⟩⟩
  · exact ⟨_, .inr ⟨.inr ⟨h, rfl⟩, rfl⟩⟩
theorem levels_ex (E : Nat → Ev) (LV : Nat → Lvl) (n : Nat) (s : ByteArray) : ∃ L, LevelsPost E LV n s L := by
  rcases first_or (fun j => (E j).kd = 3) n with ⟨k, hk, h1, hl⟩ | h
  · exact ⟨_, .inl ⟨k, .inl ⟨k, hk, h1, hl, rfl⟩, hk, rfl⟩⟩
  · exact ⟨_, .inr ⟨.inr ⟨h, rfl⟩, rfl⟩⟩
theorem user_ex (U : Nat → ByteArray × Int) (u : ByteArray) (n : Nat) (d : Int) : ∃ r, UserPost U u n d r := by
  rcases first_or (fun j => isU U u j = true) n with ⟨k, hk, h1, hl⟩ | h
  · exact ⟨_, .inl ⟨k, hk, h1, fun j hj => by simpa using hl j hj, rfl⟩⟩
  · exact ⟨_, .inr ⟨fun j hj => by simpa using h j hj, rfl⟩⟩
theorem need_ex (K : Nat → Int × Int) (k : Int) (n : Nat) (x3 x4 : Int) : ∃ r, NeedPost K k n x3 x4 r := by
  rcases first_or (fun j => (K j).1 = k) n with ⟨i, hi, h1, hl⟩ | h
  · exact ⟨_, .inl ⟨i, hi, h1, hl, rfl⟩⟩
  · exact ⟨_, .inr ⟨h, rfl⟩⟩
theorem users_fun (U : Nat → ByteArray × Int) (n : Nat) (d : Int) : ∃ us : ByteArray → Int, ∀ x, UserPost U x n d (us x) := Classical.axiomOfChoice fun x => user_ex U x n d
theorem needs_fun (K : Nat → Int × Int) (n : Nat) (x3 x4 : Int) : ∃ nd : Int → Int, ∀ k, NeedPost K k n x3 x4 (nd k) := Classical.axiomOfChoice fun k => need_ex K k n x3 x4
theorem bool_of (p : Prop) : ∃ b : Bool, b = true ↔ p := by
  by_cases h : p
  · exact ⟨true, ⟨fun _ => h, fun _ => rfl⟩⟩
  · exact ⟨false, ⟨fun e => (by cases e), fun e => absurd e h⟩⟩
theorem numsEq_refl (d x3 x4 x5 x6 x7 x8 : Int) : numsEq d x3 x4 x5 x6 x7 x8 d x3 x4 x5 x6 x7 x8 = true := by unfold numsEq; simp
theorem ueq_refl (n : Nat) (U : Nat → ByteArray × Int) : UEq n n U U := ⟨rfl, fun j _ => by simp [eqU]⟩
theorem keq_refl (n : Nat) (K : Nat → Int × Int) : KEq n n K K := ⟨rfl, fun j _ => by simp [eqK]⟩
theorem same15_refl (uA vA : Option Addr) (uC vC : Nat) (kA lA : Option Addr) (kC lC : Nat) (L : Lvl) (w : World) (hU : Rws w uA L.nU uC 2 (rowU L.U)) (hV : Rws w vA L.nU vC 2 (rowU L.U)) (hK : Rws w kA L.nK kC 2 (rowK L.K)) (hM : Rws w lA L.nK lC 2 (rowK L.K)) :
    Calls Try.prog 15 #[.agg (lvc uA L.nU uC kA L.nK kC L.d L.x3 L.x4 L.x5 L.x6 L.x7 L.x8).toArray, .agg (lvc vA L.nU vC lA L.nK lC L.d L.x3 L.x4 L.x5 L.x6 L.x7 L.x8).toArray] w fun e' w' => e' = .returned (.bool true) ∧ Below w.heap.size w w' :=
  (same15 uA L.nU uC kA L.nK kC L.d L.x3 L.x4 L.x5 L.x6 L.x7 L.x8 vA L.nU vC lA L.nK lC L.d L.x3 L.x4 L.x5 L.x6 L.x7 L.x8 L.U L.U L.K L.K true true w hU hV hK hM ⟨fun _ => ueq_refl _ _, fun _ => rfl⟩ ⟨fun _ => keq_refl _ _, fun _ => rfl⟩).mono fun e w' h => ⟨by rw [h.1, numsEq_refl]; rfl, h.2⟩
theorem same22_refl (uA : Option Addr) (n uC : Nat) (kA : Option Addr) (nK kC : Nat) (d x3 x4 x5 x6 x7 x8 : Int) (U : Nat → ByteArray × Int) (K : Nat → Int × Int) (w : World) (hU : Rws w uA n uC 2 (rowU U)) (hK : Rws w kA nK kC 2 (rowK K)) :
    Calls Try.prog 22 #[.agg (lvc uA n uC kA nK kC d x3 x4 x5 x6 x7 x8).toArray, .agg (lvc uA n uC kA nK kC d x3 x4 x5 x6 x7 x8).toArray] w fun e' w' => e' = .returned (.bool true) ∧ Below w.heap.size w w' :=
  (same22 uA n uC kA nK kC d x3 x4 x5 x6 x7 x8 uA n uC kA nK kC d x3 x4 x5 x6 x7 x8 U U K K true true w hU hU hK hK ⟨fun _ => ueq_refl _ _, fun _ => rfl⟩ ⟨fun _ => keq_refl _ _, fun _ => rfl⟩).mono fun e w' h => ⟨by rw [h.1, numsEq_refl]; rfl, h.2⟩
def errOf (b : Bool) : Int := if b = true then 0 else 20
theorem change20_is (uA : Option Addr) (n uC : Nat) (kA : Option Addr) (nK kC : Nat) (d x3 x4 x5 x6 x7 x8 : Int) (vA : Option Addr) (m vC : Nat) (lA : Option Addr) (mK lC : Nat) (e y3 y4 y5 y6 y7 y8 : Int) (U V : Nat → ByteArray × Int) (K M : Nat → Int × Int) (us vs : ByteArray → Int) (nd ne : Int → Int) (user : ByteArray) (b : Bool) (w : World) (hU : Rws w uA n uC 2 (rowU U)) (hK : Rws w kA nK kC 2 (rowK K)) (hV : Rws w vA m vC 2 (rowU V)) (hM : Rws w lA mK lC 2 (rowK M))
    (hu : ∀ x, UserPost U x n d (us x)) (hv : ∀ x, UserPost V x m e (vs x)) (hnd : ∀ k, NeedPost K k nK x3 x4 (nd k)) (hne : ∀ k, NeedPost M k mK y3 y4 (ne k)) (hbk : (nK + mK) * 8 ≤ 140737488355328) (hb : b = true ↔ ChOK n m nK mK U V K M us vs nd ne (numF d x3 x4 x5 x6 x7 x8) (numF e y3 y4 y5 y6 y7 y8) user) :
    Calls Try.prog 20 #[.agg (lvc uA n uC kA nK kC d x3 x4 x5 x6 x7 x8).toArray, .agg (lvc vA m vC lA mK lC e y3 y4 y5 y6 y7 y8).toArray, .string user] w fun e' w' => e' = .returned (.int .i64 (errOf b)) ∧ Below w.heap.size w w' :=
  (change20 uA n uC kA nK kC d x3 x4 x5 x6 x7 x8 vA m vC lA mK lC e y3 y4 y5 y6 y7 y8 U V K M us vs nd ne user w hU hV hK hM hu hv hnd hne hbk).mono fun e' w' h => ⟨h.1.elim (fun h => by rw [h.2, hb.2 h.1]; rfl) (fun h => by rw [h.2, (show b = false by cases hbb : b with | false => rfl | true => exact absurd (hb.1 hbb) h.1)]; rfl), h.2⟩
theorem rchange21_is (uA : Option Addr) (n uC : Nat) (kA : Option Addr) (nK kC : Nat) (d x3 x4 x5 x6 x7 x8 : Int) (vA : Option Addr) (m vC : Nat) (lA : Option Addr) (mK lC : Nat) (e y3 y4 y5 y6 y7 y8 : Int) (U V : Nat → ByteArray × Int) (K M : Nat → Int × Int) (us vs : ByteArray → Int) (nd ne : Int → Int) (user : ByteArray) (b : Bool) (w : World) (hU : Rws w uA n uC 2 (rowU U)) (hK : Rws w kA nK kC 2 (rowK K)) (hV : Rws w vA m vC 2 (rowU V)) (hM : Rws w lA mK lC 2 (rowK M))
    (hu : ∀ x, UserPost U x n d (us x)) (hv : ∀ x, UserPost V x m e (vs x)) (hnd : ∀ k, NeedPost K k nK x3 x4 (nd k)) (hne : ∀ k, NeedPost M k mK y3 y4 (ne k)) (hbk : (nK + mK) * 8 ≤ 140737488355328) (hb : b = true ↔ ChOK n m nK mK U V K M us vs nd ne (numF d x3 x4 x5 x6 x7 x8) (numF e y3 y4 y5 y6 y7 y8) user) :
    Calls Try.prog 21 #[.agg (lvc uA n uC kA nK kC d x3 x4 x5 x6 x7 x8).toArray, .agg (lvc vA m vC lA mK lC e y3 y4 y5 y6 y7 y8).toArray, .string user] w fun e' w' => e' = .returned (.int .i64 (errOf b)) ∧ Below w.heap.size w w' :=
  (rchange21 uA n uC kA nK kC d x3 x4 x5 x6 x7 x8 vA m vC lA mK lC e y3 y4 y5 y6 y7 y8 U V K M us vs nd ne user w hU hV hK hM hu hv hnd hne hbk).mono fun e' w' h => ⟨h.1.elim (fun h => by rw [h.2, hb.2 h.1]; rfl) (fun h => by rw [h.2, (show b = false by cases hbb : b with | false => rfl | true => exact absurd (hb.1 hbb) h.1)]; rfl), h.2⟩
theorem small_kinds {n nK m mK : Nat} (h1 : isGreat n nK = false) (h2 : isGreat m mK = false) : (nK + mK) * 8 ≤ 140737488355328 := by
  unfold isGreat at h1 h2
  simp at h1 h2
  omega
end Go.Proofs.Ythhmbcelicfopaa
