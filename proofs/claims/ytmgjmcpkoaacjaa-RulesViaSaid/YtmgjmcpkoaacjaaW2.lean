/- The events of a list: their cells; who is a member (members.Of). No condition on the events. -/
import Derived.Test.YtmgjmcpkoaacjaaW1
import Derived.Deep.LoopGhost
import Derived.Deep.Draws
import Derived.Lib.SliceRun
namespace Go.Proofs.Ytmgjmcpkoaacjaa
open Go.RowKit
set_option linter.unusedVariables false

/-- An event, by its cells. -/
structure Ev where
  v0 : Value
  v1 : Value
  snd : ByteArray
  kd : Int
  v4 : Value
  key : ByteArray
  v6 : Value
  v7 : Value
  v8 : Value
  v9 : Value
  v10 : Value
  n : Int
  v12 : Value
  v13 : Value
  v14 : Value
  aA : Option Addr
  lA : Nat
  cA : Nat
  v16 : Value
  v17 : Value
  v18 : Value
  v19 : Value
  v20 : Value
  v21 : Value
  v22 : Value
  v23 : Value
  v24 : Value
  v25 : Value
  v26 : Value
  v27 : Value
  v28 : Value

def enc (e : Ev) : List Value := [e.v0, e.v1, .string e.snd, .int .i64 e.kd, e.v4, .string e.key, e.v6, e.v7, e.v8, e.v9, e.v10, .int .i64 e.n, e.v12, e.v13, e.v14, .slice e.aA e.lA e.cA, e.v16, e.v17, e.v18, e.v19, e.v20, e.v21, e.v22, e.v23, e.v24, e.v25, e.v26, e.v27, e.v28]
theorem enc_len (e : Ev) : (enc e).length = 29 := rfl
/-- The events `E 0`, `E 1`, .. lie one behind the other. -/
structure Evs (w : World) (b off n : Nat) (E : Nat → Ev) : Prop where
  lt : b < w.heap.size
  big : n ≤ 9223372036854775807
  cell : ∀ j, j < n → ∀ i v, (enc (E j))[i]? = some v → w.cell? ⟨b, off + j * 29 + i, none⟩ = some v
theorem Evs.below {w w1 : World} {b off n : Nat} {E : Nat → Ev} (h : Evs w b off n E) (hb : Below w.heap.size w w1) : Evs w1 b off n E :=
  ⟨Nat.lt_of_lt_of_le h.lt hb.size, h.big, fun j hj i v hi => (hb.cell (p := ⟨b, off + j * 29 + i, none⟩) h.lt).trans (h.cell j hj i v hi)⟩
theorem Evs.snd {w : World} {b off n : Nat} {E : Nat → Ev} (h : Evs w b off n E) {j : Nat} (hj : j < n) : w.cell? ⟨b, off + j * 29 + 2, none⟩ = some (.string (E j).snd) := h.cell j hj 2 _ rfl
theorem Evs.kd {w : World} {b off n : Nat} {E : Nat → Ev} (h : Evs w b off n E) {j : Nat} (hj : j < n) : w.cell? ⟨b, off + j * 29 + 3, none⟩ = some (.int .i64 (E j).kd) := h.cell j hj 3 _ rfl
theorem Evs.key {w : World} {b off n : Nat} {E : Nat → Ev} (h : Evs w b off n E) {j : Nat} (hj : j < n) : w.cell? ⟨b, off + j * 29 + 5, none⟩ = some (.string (E j).key) := h.cell j hj 5 _ rfl
theorem Evs.num {w : World} {b off n : Nat} {E : Nat → Ev} (h : Evs w b off n E) {j : Nat} (hj : j < n) : w.cell? ⟨b, off + j * 29 + 11, none⟩ = some (.int .i64 (E j).n) := h.cell j hj 11 _ rfl
theorem Evs.alw {w : World} {b off n : Nat} {E : Nat → Ev} (h : Evs w b off n E) {j : Nat} (hj : j < n) : w.cell? ⟨b, off + j * 29 + 15, none⟩ = some (.slice (E j).aA (E j).lA (E j).cA) := h.cell j hj 15 _ rfl

/-- Does event `e` give `u`'s membership? -/
def gives (e : Ev) (u : ByteArray) : Bool := (e.kd == 2) && (e.key.toList == u.toList)
/-- The number of the first event of which `p` holds, or `none`. -/
def MemPost (E : Nat → Ev) (u : ByteArray) (n : Nat) (r : Int) : Prop :=
  (∃ k, k < n ∧ gives (E k) u = true ∧ (∀ j, j < k → gives (E j) u = false) ∧ r = (E k).n) ∨ ((∀ j, j < n → gives (E j) u = false) ∧ r = 0)

set_option maxHeartbeats 1000000 in
theorem member_any (b off n c : Nat) (E : Nat → Ev) (u : ByteArray) (w : World) (hE : Evs w b off n E) :
    Calls Try.prog 20 #[.slice (some ⟨b, off, none⟩) n c, .string u] w fun e w' => ∃ r, e = .returned (.int .i64 r) ∧ MemPost E u n r ∧ w = w' := by
  have HE := Lib.hid hE
  have hbig := hE.big
  clear hE
  go_enter Try.func20, Try.ntmps20
  go_wp2
  go_loopg [5, 8] n (fun gg _ s8 wr => ∃ kk : Nat, kk ≤ n ∧ n - kk ≤ gg ∧ s8 = .int .i64 kk ∧ w = wr ∧ Hid (∀ j, j < kk → gives (E j) u = false))
  case atStart => exact ⟨0, Nat.zero_le _, by omega, rfl, rfl, Lib.hid (fun j hj => absurd hj (Nat.not_lt_zero _))⟩
  case round =>
    obtain ⟨kk, hkk, hg, rfl, rfl, A⟩ := hrel
    by_cases hlt : kk < n
    · have hltz : (kk : Int) < (n : Int) := by omega
      have ck := HE.out.kd hlt
      have cy := HE.out.key hlt
      have cn := HE.out.num hlt
      have HG := Lib.hid (show gives (E kk) u = ((E kk).kd == 2 && ((E kk).key.toList == u.toList)) from rfl)
      generalize hkd : (E kk).kd = kd at ck
      generalize hky : (E kk).key = ky at cy
      generalize hnn : (E kk).n = nn at cn
      have Hkd := Lib.hid hkd; have Hky := Lib.hid hky; have Hnn := Lib.hid hnn
      clear hkd hky hnn
      cases q1 : (kd == 2) with
      | false =>
        have HF := Lib.hid (show gives (E kk) u = false by rw [HG.out, Hkd.out, q1]; rfl)
        go_wp2
        go_roundg (n - (kk + 1))
        case measure => omega
        case rel =>
          refine ⟨kk + 1, by omega, by omega, by go_num, rfl, Lib.hid (fun j hj => ?_)⟩
          by_cases e : j = kk
          · subst e; exact HF.out
          · exact A.out j (by omega)
      | true =>
        cases q2 : (ky.toList == u.toList) with
        | false =>
          have HF := Lib.hid (show gives (E kk) u = false by rw [HG.out, Hkd.out, Hky.out, q1, q2]; rfl)
          go_wp2
          go_roundg (n - (kk + 1))
          case measure => omega
          case rel =>
            refine ⟨kk + 1, by omega, by omega, by go_num, rfl, Lib.hid (fun j hj => ?_)⟩
            by_cases e : j = kk
            · subst e; exact HF.out
            · exact A.out j (by omega)
        | true =>
          have HF := Lib.hid (show gives (E kk) u = true by rw [HG.out, Hkd.out, Hky.out, q1, q2]; rfl)
          go_wp2
          go_ret
          exact ⟨nn, rfl, .inl ⟨kk, hlt, HF.out, A.out, Hnn.out.symm⟩, rfl⟩
    · have hltz : ¬ (kk : Int) < (n : Int) := by omega
      have : kk = n := by omega
      subst this
      go_wp2
      go_ret
      exact ⟨0, rfl, .inr ⟨A.out, rfl⟩, rfl⟩

theorem MemPost.one {E : Nat → Ev} {u : ByteArray} {n : Nat} {r s : Int} (h : MemPost E u n r) (k : MemPost E u n s) : r = s := by
  rcases h with ⟨i, hi, gi, li, rfl⟩ | ⟨hn, rfl⟩ <;> rcases k with ⟨j, hj, gj, lj, rfl⟩ | ⟨kn, rfl⟩
  · rcases Nat.lt_trichotomy i j with h | h | h
    · rw [lj i h] at gi; cases gi
    · rw [h]
    · rw [li j h] at gj; cases gj
  · rw [kn i hi] at gi; cases gi
  · rw [hn j hj] at gj; cases gj
  · rfl
theorem member_is (b off n c : Nat) (E : Nat → Ev) (u : ByteArray) (r : Int) (w : World) (hE : Evs w b off n E) (hr : MemPost E u n r) :
    Calls Try.prog 20 #[.slice (some ⟨b, off, none⟩) n c, .string u] w fun e w' => e = .returned (.int .i64 r) ∧ w = w' :=
  (member_any b off n c E u w hE).mono fun e w' ⟨s, he, hs, hw⟩ => ⟨by rw [he, hs.one hr], hw⟩

end Go.Proofs.Ytmgjmcpkoaacjaa
