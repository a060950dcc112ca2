/- The rule and the allowed rooms of a list of events (rules.Of). No condition on the events. -/
import Derived.Test.YtmgjmcpkoaacjaaW3
import Derived.Test.YtmgjmcpkoaacjaaShelf
import Derived.Deep.RegionHeld3
import Derived.Deep.Cut
import Derived.Deep.CutRange
namespace Go.Proofs.Ytmgjmcpkoaacjaa
open Go.RowKit
set_option linter.unusedVariables false

/-- The slice of strings at `A` holds `zs`. -/
structure Texts (w : World) (A : Option Addr) (l : Nat) (zs : List ByteArray) : Prop where
  sz : zs.length = l
  le : l * 16 ≤ 140737488355328
  at_ : l = 0 ∨ ∃ b off, A = some ⟨b, off, none⟩ ∧ b < w.heap.size ∧ ∀ j, j < l → w.cell? ⟨b, off + j, none⟩ = some (.string (zs.getD j ByteArray.empty))
theorem Texts.below {w w1 : World} {A : Option Addr} {l : Nat} {zs : List ByteArray} (h : Texts w A l zs) (hb : Below w.heap.size w w1) : Texts w1 A l zs :=
  ⟨h.sz, h.le, h.at_.imp id fun ⟨b, off, e, hlt, hc⟩ => ⟨b, off, e, Nat.lt_of_lt_of_le hlt hb.size, fun j hj => (hb.cell (p := ⟨b, off + j, none⟩) hlt).trans (hc j hj)⟩⟩

/-- A copy of it, in new memory. -/
def CopyPost (w : World) (l : Nat) (zs : List ByteArray) (v : Value) (w' : World) : Prop := w'.ownsRow w.heap.size 9 1 v l (zs.map Value.string) ∧ Below w.heap.size w w'
theorem CopyPost.down {w wr w' : World} {l : Nat} {zs : List ByteArray} {v : Value} (h : CopyPost wr.drew l zs v w') (hb : Below w.heap.size w wr) : CopyPost w l zs v w' := by
  obtain ⟨⟨h1, h2⟩, hB⟩ := h
  have hs : w.heap.size ≤ wr.drew.heap.size := hb.size
  refine ⟨⟨h1, h2.imp id fun ⟨g, cap, cur, e, hg, r⟩ => ⟨g, cap, cur, e, Nat.le_trans hs hg, r⟩⟩, hb.drew.trans (hB.mono hs)⟩
theorem clone_any (A : Option Addr) (l c : Nat) (zs : List ByteArray) (w : World) (h : Texts w A l zs) :
    Calls Try.prog 18 #[.slice A l c] w fun e w' => ∃ v, e = .returned v ∧ CopyPost w l zs v w' := by
  obtain ⟨hs, hl, rfl | ⟨b, off, rfl, hlt, hc⟩⟩ := h
  · obtain rfl := List.eq_nil_of_length_eq_zero hs
    cases A with
    | none =>
      refine (Try.slices_Clone_string_nil 0 c w).mono fun e w' ⟨he, hw⟩ => ⟨_, he, ?_⟩
      subst hw
      exact ⟨⟨rfl, .inl ⟨rfl, rfl⟩⟩, Below.refl _ _⟩
    | some a => exact (Try.slices_Clone_string_zero a c w).mono fun e w' ⟨v, he, ho, _, hb⟩ => ⟨v, he, ho, hb⟩
  · refine (Try.slices_Clone_string b off l c zs w (by omega) (by omega) (fun j hj => hc j (by omega))).mono fun e w' ⟨v, he, ho, _, hb⟩ => ⟨v, he, ?_⟩
    rw [List.take_of_length_le (by omega)] at ho
    exact ⟨ho, hb⟩

/-- What rules.Of gives: the first event of kind 4. -/
def OfPost (E : Nat → Ev) (Z : Nat → List ByteArray) (n : Nat) (w : World) (e : Ending) (w' : World) : Prop :=
  (∃ k, k < n ∧ (E k).kd = 4 ∧ (∀ j, j < k → (E j).kd ≠ 4) ∧ ∃ v, e = .returned (.tuple #[.int .i64 (E k).n, v]) ∧ CopyPost w (E k).lA (Z k) v w') ∨
  ((∀ j, j < n → (E j).kd ≠ 4) ∧ e = .returned (.tuple #[.int .i64 0, .slice none 0 0]) ∧ Below w.heap.size w w')

set_option maxHeartbeats 1000000 in
theorem of_any (b off n c : Nat) (E : Nat → Ev) (Z : Nat → List ByteArray) (w : World) (hE : Evs w b off n E) (hA : ∀ j, j < n → Texts w (E j).aA (E j).lA (Z j)) :
    Calls Try.prog 9 #[.slice (some ⟨b, off, none⟩) n c] w (OfPost E Z n w) := by
  have HE := Lib.hid hE
  have HA := Lib.hid hA
  have hbig := hE.big
  clear hE hA
  go_enter Try.func9, Try.ntmps9
  go_wp2
  go_loopg [4, 7] n (fun gg _ s7 wr => ∃ kk : Nat, kk ≤ n ∧ n - kk ≤ gg ∧ s7 = .int .i64 kk ∧ Hid (Below w.heap.size w wr) ∧ Hid (∀ j, j < kk → (E j).kd ≠ 4))
  case atStart => exact ⟨0, Nat.zero_le _, by omega, rfl, Lib.hid (Below.refl _ w), Lib.hid (fun j hj => absurd hj (Nat.not_lt_zero _))⟩
  case round =>
    obtain ⟨kk, hkk, hg, rfl, BW, A⟩ := hrel
    by_cases hlt : kk < n
    · have hltz : (kk : Int) < (n : Int) := by omega
      have HEr := Lib.hid (HE.out.below BW.out)
      have ck := HEr.out.kd hlt
      have cn := HEr.out.num hlt
      have ca := HEr.out.alw hlt
      have HT := Lib.hid ((HA.out kk hlt).below BW.out)
      have HQ := Lib.hid (show (E kk).kd = (E kk).kd from rfl)
      have HNn := Lib.hid (show (E kk).n = (E kk).n from rfl)
      generalize hkd : (E kk).kd = kd at ck
      have Hkd := Lib.hid hkd
      clear hkd HQ
      by_cases q : kd = 4
      · subst q
        have HNx := Lib.hid (rfl : (E kk).n = (E kk).n)
        go_upto_region 5 with (fail)
        generalize hnn : (E kk).n = nn at cn
        generalize haa : (E kk).aA = aA at ca
        generalize hla : (E kk).lA = lA at ca
        generalize hca : (E kk).cA = cA at ca
        have Hnn := Lib.hid hnn; have Haa := Lib.hid haa; have Hla := Lib.hid hla
        have HT2 := Lib.hid (show Texts wr aA lA (Z kk) by have := HT.out; rw [haa, hla] at this; exact this)
        clear hnn haa hla hca ck
        go_region_held3 (fun w' => w'.cell? ⟨b, off + kk * 29 + 11, none⟩ = some (.int .i64 nn) ∧ w'.cell? ⟨b, off + kk * 29 + 15, none⟩ = some (.slice aA lA cA)) (first | exact ⟨cn, ca⟩ | go_keep)
          ((go_at_call 18; refine (clone_any aA lA cA (Z kk) _ (HT2.out.below (Below.drew (Below.refl _ wr)))).mono ?_; rintro e w' ⟨v, rfl, hcp⟩; have HCp := Lib.hid hcp; have cn2 := (hcp.2.cell (p := ⟨b, off + kk * 29 + 11, none⟩) HEr.out.lt).trans cn; have ca2 := (hcp.2.cell (p := ⟨b, off + kk * 29 + 15, none⟩) HEr.out.lt).trans ca; clear hcp cn ca; have cn := cn2; have ca := ca2; clear cn2 ca2))
        go_wp2
        go_ret2
        exact .inl ⟨kk, hlt, Hkd.out, A.out, v, by rw [Hnn.out]; rfl, by rw [Hla.out]; exact (CopyPost.down HCp.out BW.out)⟩
      · have q1 : (kd == 4) = false := by simpa using q
        have HF := Lib.hid (show (E kk).kd ≠ 4 by rw [Hkd.out]; exact q)
        clear q
        go_wp2
        go_roundg (n - (kk + 1))
        case measure => omega
        case rel =>
          refine ⟨kk + 1, by omega, by omega, by go_num, Lib.hid BW.out, Lib.hid (fun j hj => ?_)⟩
          by_cases e : j = kk
          · subst e; exact HF.out
          · exact A.out j (by omega)
    · have hltz : ¬ (kk : Int) < (n : Int) := by omega
      have : kk = n := by omega
      subst this
      go_wp2
      go_ret2
      exact .inr ⟨A.out, rfl, BW.out⟩

end Go.Proofs.Ytmgjmcpkoaacjaa
