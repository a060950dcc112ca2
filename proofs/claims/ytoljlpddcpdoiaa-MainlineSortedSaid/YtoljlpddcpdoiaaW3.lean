/- The mainline: powerOf. Bound: at most 900000 events. -/
import Derived.Test.YtoljlpddcpdoiaaW2
namespace Go.Proofs.Ytoljlpddcpdoiaa
open Go.RowKit Go.Maps
set_option linter.unusedVariables false
set_option linter.unusedSimpArgs false

/-- An id of an event that belongs to power levels. -/
def powq (E : Nat → Me) (n : Nat) (x : Int) : Bool := match plc E n x with
  | some i => (E i.toNat).kd == 3
  | none => false
def pow (E : Nat → Me) (n j : Nat) : Option Int := (E j).zs.find? (powq E n)
def PowP (w : World) (o : Option Int) (e : Ending) (w' : World) : Prop := e = .returned (.tuple #[.int .i64 (o.getD 0), .bool o.isSome]) ∧ Below w.heap.size w w'
theorem ret_ib {a b : Int} {c d : Bool} (h : a = b) (k : c = d) : Ending.returned (.tuple #[.int .i64 a, .bool c]) = .returned (.tuple #[.int .i64 b, .bool d]) := by rw [h, k]
theorem find_first {zs : List Int} {q : Int → Bool} {k : Nat} (hk : k < zs.length) (h : q (zs.getD k 0) = true) (hn : ∀ j, j < k → q (zs.getD j 0) = false) : zs.find? q = some (zs.getD k 0) := by
  rw [List.getD_eq_getElem?_getD, List.getElem?_eq_getElem hk] at h ⊢
  rw [List.find?_eq_some_iff_getElem]
  refine ⟨h, k, hk, rfl, fun j hj => ?_⟩
  have := hn j hj
  rw [List.getD_eq_getElem?_getD, List.getElem?_eq_getElem (by omega)] at this
  simpa using this
theorem find_nil {zs : List Int} {q : Int → Bool} (hn : ∀ j, j < zs.length → q (zs.getD j 0) = false) : zs.find? q = none := by
  rw [List.find?_eq_none]
  intro x hx
  obtain ⟨j, hj, rfl⟩ := List.getElem_of_mem hx
  have := hn j hj
  rw [List.getD_eq_getElem?_getD, List.getElem?_eq_getElem hj] at this
  simpa using this
set_option maxRecDepth 100000 in
set_option maxHeartbeats 4000000 in
theorem powerOf36 (A : Option Addr) (n c : Nat) (E : Nat → Me) (M m b off j : Nat) (w : World) (h : Evm w A n E) (hm : MapI w M m (plc E n)) (hj : j < n) (hA : A = some ⟨b, off, none⟩) : Calls Try.prog 36 #[.slice A n c, .map (some M), .pointer (some ⟨b, off + j * 29, none⟩)] w (PowP w (pow E n j)) := by
  have H := Lib.hid h
  have HM := Lib.hid hm
  have HIt := Lib.hid (h.au j hj)
  subst hA
  obtain ⟨b', off', e', hbl, _, _, _, k9⟩ := h.get hj
  simp only [Option.some.injEq, Addr.mk.injEq, and_true] at e'
  obtain ⟨rfl, rfl⟩ := e'
  have HP := Lib.hid (show pow E n j = (E j).zs.find? (powq E n) from rfl)
  unfold PowP
  clear h hm
  generalize pow E n j = po at HP ⊢
  obtain ⟨zs, hzs⟩ : ∃ zs, (E j).zs = zs := ⟨_, rfl⟩
  obtain ⟨aA, haA⟩ : ∃ x, (E j).aA = x := ⟨_, rfl⟩
  obtain ⟨nA, hnA⟩ : ∃ x, (E j).nA = x := ⟨_, rfl⟩
  obtain ⟨cA, hcA⟩ : ∃ x, (E j).cA = x := ⟨_, rfl⟩
  rw [hzs] at HP HIt
  rw [haA, hnA, hcA] at k9 HIt
  clear hzs haA hnA hcA
  have HL := Lib.hid HIt.out.len
  have hbig := HIt.out.rws.big
  unfold maxLen at hbig
  go_enter Try.func36, Try.ntmps36
  go_wp2
  go_loopg [9, 10, 11, 17] nA (fun gg _ _ _ s17 wr => ∃ kk : Nat, kk ≤ nA ∧ nA - kk ≤ gg ∧ s17 = .int .i64 kk ∧ Hid (∀ i, i < kk → powq E n (zs.getD i 0) = false) ∧ wr = w)
  case atStart => exact ⟨0, Nat.zero_le _, by omega, rfl, Lib.hid (fun i hi => absurd hi (Nat.not_lt_zero _)), rfl⟩
  case round =>
    obtain ⟨kk, hkk, hg, rfl, HJ, rfl⟩ := hrel
    by_cases hlt : kk < nA
    · have hltz : (kk : Int) < (nA : Int) := by omega
      obtain ⟨b2, off2, rfl, hbl2, q0, hfit⟩ := HIt.out.at_ hlt
      have HQ := Lib.hid (show powq E n (zs.getD kk 0) = (match plc E n (zs.getD kk 0) with | some i => (E i.toNat).kd == 3 | none => false) from rfl)
      have HFi := Lib.hid (fun (h : powq E n (zs.getD kk 0) = true) => find_first (q := powq E n) (by rw [HL.out]; exact hlt) h HJ.out)
      have HNo : Hid (powq E n (zs.getD kk 0) = false → ∀ i, i < kk + 1 → powq E n (zs.getD i 0) = false) := Lib.hid (fun h i hi => by
        by_cases e : i = kk
        · subst e; exact h
        · exact HJ.out i (by omega))
      have hask := HM.out.ask hfit
      generalize zs.getD kk 0 = x at q0 hfit HQ HFi HNo hask
      cases hp : plc E n x with
      | none =>
        rw [hp] at hask HQ
        have HN2 := Lib.hid (HNo.out HQ.out)
        clear hp HFi HNo
        go_wp2
        go_roundg (nA - (kk + 1))
        case measure => omega
        case rel => exact ⟨kk + 1, by omega, by omega, by go_num, HN2, rfl⟩
      | some i =>
        obtain ⟨i', rfl, hi', _⟩ := plc_lt hp
        rw [hp] at hask HQ
        obtain ⟨b3, off3, e3, _, _, k3, _⟩ := H.out.get hi'
        simp only [Option.some.injEq, Addr.mk.injEq, and_true] at e3
        obtain ⟨rfl, rfl⟩ := e3
        have hiz : (i' : Int) < (n : Int) := by omega
        have hi0 : (0 : Int) ≤ (i' : Int) := by omega
        have HQ2 := Lib.hid (show powq E n x = ((E i').kd == 3) from HQ.out)
        generalize (E i').kd = kd at k3 HQ2
        clear hp HQ
        cases hk3 : (kd == 3)
        · have HN2 := Lib.hid (HNo.out (HQ2.out.trans hk3))
          clear HQ2 HFi HNo
          go_wp2
          go_roundg (nA - (kk + 1))
          case measure => omega
          case rel => exact ⟨kk + 1, by omega, by omega, by go_num, HN2, rfl⟩
        · have HF2 := Lib.hid (HP.out.trans (HFi.out (HQ2.out.trans hk3)))
          clear HQ2 HFi HNo
          go_wp2
          go_ret2
          exact ⟨ret_ib (by rw [HF2.out]; rfl) (by rw [HF2.out]; rfl), Below.refl _ _⟩
    · have hltz : ¬ (kk : Int) < (nA : Int) := by omega
      obtain rfl : kk = nA := by omega
      have HF2 := Lib.hid (HP.out.trans (find_nil (q := powq E n) (fun i hi => HJ.out i (by rw [HL.out] at hi; exact hi))))
      go_wp2
      go_ret2
      exact ⟨ret_ib (by rw [HF2.out]; rfl) (by rw [HF2.out]; rfl), Below.refl _ _⟩
end Go.Proofs.Ytoljlpddcpdoiaa
