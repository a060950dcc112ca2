/- Memberships: what is read of events; members.Of of both; has. No condition. -/
import Derived.Test.YtnhjbknhbeicfaaDoorK0
import Derived.Test.YtnhjbknhbeicfaaDoorKL20
import Derived.Test.YtnhjbknhbeicfaaDoorIW6
namespace Go.Proofs.YtnhjbknhbeicfaaDoor
open Go.RowKit
set_option linter.unusedVariables false
set_option linter.unusedSimpArgs false

/-- What the memberships read of an event. -/
structure Kc where
  kd : Int
  key : ByteArray
  n : Int
def kcd (e : Evd) : Kc := ⟨e.e3, e.e5, e.C.n⟩
def coK (p : Kc) : Co := ⟨p.kd, p.key.data.toList, p.n⟩
def cores (n : Nat) (K : Nat → Kc) : List Co := (List.range n).map fun j => coK (K j)
theorem cores_len (n : Nat) (K : Nat → Kc) : (cores n K).length = n := by unfold cores; simp
theorem cores_get {n : Nat} {K : Nat → Kc} {j : Nat} (h : j < n) : (cores n K)[j]'(by rw [cores_len]; exact h) = coK (K j) := by unfold cores; simp
theorem cores_succ (n : Nat) (K : Nat → Kc) : cores (n + 1) K = cores n K ++ [coK (K n)] := by unfold cores; rw [List.range_succ, List.map_append]; rfl
theorem cores_take {n : Nat} {K : Nat → Kc} {k : Nat} (h : k ≤ n) : (cores n K).take k = cores k K := by
  unfold cores; rw [← List.map_take, List.take_range, Nat.min_eq_left h]
structure Evk (w : World) (A : Option Addr) (n : Nat) (K : Nat → Kc) : Prop where
  big : n ≤ 9223372036854775807
  at_ : 0 < n → ∃ b off, A = some ⟨b, off, none⟩ ∧ b < w.heap.size ∧ ∀ j, j < n → w.cell? ⟨b, off + j * 29 + 3, none⟩ = some (.int .i64 (K j).kd) ∧ w.cell? ⟨b, off + j * 29 + 5, none⟩ = some (.string (K j).key) ∧ w.cell? ⟨b, off + j * 29 + 11, none⟩ = some (.int .i64 (K j).n)
  fit : ∀ j, j < n → (K j).key.size ≤ 9223372036854775807
theorem Evk.get {w : World} {A : Option Addr} {n : Nat} {K : Nat → Kc} (h : Evk w A n K) {j : Nat} (hj : j < n) : ∃ b off, A = some ⟨b, off, none⟩ ∧ b < w.heap.size ∧ w.cell? ⟨b, off + j * 29 + 3, none⟩ = some (.int .i64 (K j).kd) ∧ w.cell? ⟨b, off + j * 29 + 5, none⟩ = some (.string (K j).key) ∧ w.cell? ⟨b, off + j * 29 + 11, none⟩ = some (.int .i64 (K j).n) := by
  obtain ⟨b, off, e, hlt, hc⟩ := h.at_ (by omega)
  exact ⟨b, off, e, hlt, hc j hj⟩
theorem Evk.below {w w1 : World} {A : Option Addr} {n : Nat} {K : Nat → Kc} (h : Evk w A n K) (hb : Below w.heap.size w w1) : Evk w1 A n K := by
  refine ⟨h.big, fun h0 => ?_, h.fit⟩
  obtain ⟨b, off, e, hlt, hc⟩ := h.at_ h0
  exact ⟨b, off, e, Nat.lt_of_lt_of_le hlt hb.size, fun j hj => ⟨(hb.cell (p := ⟨b, _, none⟩) hlt).trans (hc j hj).1, (hb.cell (p := ⟨b, _, none⟩) hlt).trans (hc j hj).2.1, (hb.cell (p := ⟨b, _, none⟩) hlt).trans (hc j hj).2.2⟩⟩
theorem Evx.evk {w : World} {A : Option Addr} {n : Nat} {E : Nat → Evd} (h : Evx w A n E) : Evk w A n (fun j => kcd (E j)) := by
  refine ⟨h.big, fun h0 => ?_, fun j hj => (h.wf j hj).s5⟩
  obtain ⟨b, off, e, hlt, hc⟩ := h.at_ h0
  exact ⟨b, off, e, hlt, fun j hj => ⟨hc j hj 3 _ rfl, hc j hj 5 _ rfl, hc j hj 11 _ rfl⟩⟩
def giv (p : Kc) (u : ByteArray) : Bool := (p.kd == 2) && (p.key.toList == u.toList)
theorem giv_gv (p : Kc) (u : ByteArray) : gvC u.data.toList (coK p) = giv p u := by unfold gvC giv coK; rw [Lib.toList_data, Lib.toList_data]
theorem all_next {p : Nat → Bool} {k : Nat} (h : ∀ j, j < k → p j = false) (hk : p k = false) : ∀ j, j < k + 1 → p j = false := by
  intro j hj
  by_cases e : j = k
  · rw [e]; exact hk
  · exact h j (by omega)
theorem find_none {K : Nat → Kc} {n : Nat} {u : ByteArray} (h : ∀ j, j < n → giv (K j) u = false) : (cores n K).find? (gvC u.data.toList) = none := by
  rw [List.find?_eq_none]
  intro c hc
  unfold cores at hc
  obtain ⟨j, hj, rfl⟩ := List.mem_map.1 hc
  rw [giv_gv, h j (List.mem_range.1 hj)]
  decide
theorem find_at {K : Nat → Kc} {n k : Nat} {u : ByteArray} (hk : k < n) (hg : giv (K k) u = true) (h : ∀ j, j < k → giv (K j) u = false) : (cores n K).find? (gvC u.data.toList) = some (coK (K k)) := by
  have e : cores n K = cores k K ++ (cores n K).drop k := by
    rw [← cores_take (K := K) (Nat.le_of_lt hk), List.take_append_drop]
  have e2 : (cores n K).drop k = coK (K k) :: (cores n K).drop (k + 1) := by
    rw [List.drop_eq_getElem_cons (by rw [cores_len]; exact hk), cores_get hk]
  rw [e, List.find?_append, find_none h, e2, List.find?_cons_of_pos (by rw [giv_gv]; exact hg)]
  rfl
theorem memC_at {K : Nat → Kc} {n : Nat} {u : ByteArray} {k : Nat} {r : Int} (hk : k < n) (hg : giv (K k) u = true) (h : ∀ j, j < k → giv (K j) u = false) (hr : (K k).n = r) : memC (cores n K) u.data.toList = r := by
  unfold memC
  rw [find_at hk hg h]
  exact hr
theorem memC_no {K : Nat → Kc} {n : Nat} {u : ByteArray} (h : ∀ j, j < n → giv (K j) u = false) : memC (cores n K) u.data.toList = 0 := by
  unfold memC
  rw [find_none h]
set_option maxRecDepth 100000 in
set_option maxHeartbeats 2000000 in
theorem of10 (A : Option Addr) (n c : Nat) (K : Nat → Kc) (u : ByteArray) (w : World) (h : Evk w A n K) : Calls Tryd.prog 10 #[.slice A n c, .string u] w fun e w' => e = .returned (.int .i64 (memC (cores n K) u.data.toList)) ∧ w = w' := by
  have H := Lib.hid h
  have hbig := h.big
  have HAt := Lib.hid (fun k r h1 h2 h3 h4 => memC_at (K := K) (n := n) (u := u) (k := k) (r := r) h1 h2 h3 h4)
  have HNo := Lib.hid (fun h1 => memC_no (K := K) (n := n) (u := u) h1)
  clear h
  generalize memC (cores n K) u.data.toList = r at HAt HNo
  go_enter Tryd.func10, Tryd.ntmps10
  go_wp2
  go_loopg [5, 8] n (fun gg _ s8 wr => ∃ kk : Nat, kk ≤ n ∧ n - kk ≤ gg ∧ s8 = .int .i64 kk ∧ Hid (∀ j, j < kk → giv (K j) u = false) ∧ w = wr)
  case atStart => exact ⟨0, Nat.zero_le _, by omega, rfl, Lib.hid (fun j hj => absurd hj (Nat.not_lt_zero _)), rfl⟩
  case round =>
    obtain ⟨kk, hkk, hg, rfl, HN, rfl⟩ := hrel
    by_cases hlt : kk < n
    · have hltz : (kk : Int) < (n : Int) := by omega
      obtain ⟨b, off, rfl, _, k3, k5, k11⟩ := H.out.get hlt
      cases q1 : ((K kk).kd == 2)
      · have HN2 := Lib.hid (fun (hj : giv (K kk) u = false) => all_next HN.out hj)
        have hgv : giv (K kk) u = false := by unfold giv; rw [q1]; rfl
        generalize K kk = p at k3 k5 k11 q1 HN2 hgv
        have HN3 := Lib.hid (HN2.out hgv)
        clear HN2 hgv
        go_wp2
        go_roundg (n - (kk + 1))
        case measure => omega
        case rel => exact ⟨kk + 1, by omega, by omega, by go_num, HN3, rfl⟩
      · cases q2 : ((K kk).key.toList == u.toList)
        · have HN3 : Hid (∀ j, j < kk + 1 → giv (K j) u = false) := Lib.hid (all_next HN.out (by unfold giv; rw [q1, q2]; rfl))
          clear HN
          generalize K kk = p at k3 k5 k11 q1 q2
          go_wp2
          go_roundg (n - (kk + 1))
          case measure => omega
          case rel => exact ⟨kk + 1, by omega, by omega, by go_num, HN3, rfl⟩
        · have HR := Lib.hid (HAt.out kk _ hlt (by unfold giv; rw [q1, q2]; rfl) HN.out rfl)
          clear HN
          generalize K kk = p at k3 k5 k11 q1 q2 HR
          go_wp2
          go_ret
          exact ⟨ret_i64 HR.out.symm, rfl⟩
    · have hltz : ¬ (kk : Int) < (n : Int) := by omega
      have HR := Lib.hid (HNo.out (fun j hj => HN.out j (by omega)))
      clear HN
      go_wp2
      go_ret
      exact ⟨ret_i64 HR.out.symm, rfl⟩
set_option maxRecDepth 100000 in
set_option maxHeartbeats 2000000 in
theorem of11 (A : Option Addr) (n c : Nat) (K : Nat → Kc) (u : ByteArray) (w : World) (h : Evk w A n K) : Calls Tryd.prog 11 #[.slice A n c, .string u] w fun e w' => e = .returned (.int .i64 (memC (cores n K) u.data.toList)) ∧ w = w' := by
  have H := Lib.hid h
  have hbig := h.big
  have HAt := Lib.hid (fun k r h1 h2 h3 h4 => memC_at (K := K) (n := n) (u := u) (k := k) (r := r) h1 h2 h3 h4)
  have HNo := Lib.hid (fun h1 => memC_no (K := K) (n := n) (u := u) h1)
  clear h
  generalize memC (cores n K) u.data.toList = r at HAt HNo
  go_enter Tryd.func11, Tryd.ntmps11
  go_wp2
  go_loopg [5] n (fun gg s8 wr => ∃ kk : Nat, kk ≤ n ∧ n - kk ≤ gg ∧ s8 = .int .i64 kk ∧ Hid (∀ j, j < kk → giv (K j) u = false) ∧ w = wr)
  case atStart => exact ⟨0, Nat.zero_le _, by omega, rfl, Lib.hid (fun j hj => absurd hj (Nat.not_lt_zero _)), rfl⟩
  case round =>
    obtain ⟨kk, hkk, hg, rfl, HN, rfl⟩ := hrel
    by_cases hlt : kk < n
    · have hltz : (kk : Int) < (n : Int) := by omega
      obtain ⟨b, off, rfl, _, k3, k5, k11⟩ := H.out.get hlt
      cases q1 : ((K kk).kd == 2)
      · have HN2 := Lib.hid (fun (hj : giv (K kk) u = false) => all_next HN.out hj)
        have hgv : giv (K kk) u = false := by unfold giv; rw [q1]; rfl
        generalize K kk = p at k3 k5 k11 q1 HN2 hgv
        have HN3 := Lib.hid (HN2.out hgv)
        clear HN2 hgv
        go_wp2
        go_roundg (n - (kk + 1))
        case measure => omega
        case rel => exact ⟨kk + 1, by omega, by omega, by go_num, HN3, rfl⟩
      · cases q2 : ((K kk).key.toList == u.toList)
        · have HN3 : Hid (∀ j, j < kk + 1 → giv (K j) u = false) := Lib.hid (all_next HN.out (by unfold giv; rw [q1, q2]; rfl))
          clear HN
          generalize K kk = p at k3 k5 k11 q1 q2
          go_wp2
          go_roundg (n - (kk + 1))
          case measure => omega
          case rel => exact ⟨kk + 1, by omega, by omega, by go_num, HN3, rfl⟩
        · have HR := Lib.hid (HAt.out kk _ hlt (by unfold giv; rw [q1, q2]; rfl) HN.out rfl)
          clear HN
          generalize K kk = p at k3 k5 k11 q1 q2 HR
          go_wp2
          go_ret
          exact ⟨ret_i64 HR.out.symm, rfl⟩
    · have hltz : ¬ (kk : Int) < (n : Int) := by omega
      have HR := Lib.hid (HNo.out (fun j hj => HN.out j (by omega)))
      clear HN
      go_wp2
      go_ret
      exact ⟨ret_i64 HR.out.symm, rfl⟩
set_option maxRecDepth 100000 in
set_option maxHeartbeats 2000000 in
/-- has: whether a text is among some. -/
theorem has22 (A : Option Addr) (n c : Nat) (ls : List ByteArray) (u : ByteArray) (w : World) (h : Strs w A n ls) : Calls Tryd.prog 22 #[.slice A n c, .string u] w fun e w' => e = .returned (.bool (decide (u.data.toList ∈ tx ls))) ∧ w = w' := by
  have H := Lib.hid h
  have HL := Lib.hid h.1
  have hbig := h.2.1
  have HY := Lib.hid (fun (h : u.data.toList ∈ tx ls) => decide_eq_true h)
  have HX := Lib.hid (fun (h : ¬ u.data.toList ∈ tx ls) => decide_eq_false h)
  clear h
  generalize decide (u.data.toList ∈ tx ls) = r at HY HX
  go_enter Tryd.func22, Tryd.ntmps22
  go_wp2
  go_loopg [5] n (fun gg s5 wr => ∃ kk : Nat, kk ≤ n ∧ n - kk ≤ gg ∧ s5 = .int .i64 kk ∧ Hid (∀ j, j < kk → ((ls.getD j ByteArray.empty).toList == u.toList) = false) ∧ w = wr)
  case atStart => exact ⟨0, Nat.zero_le _, by omega, rfl, Lib.hid (fun j hj => absurd hj (Nat.not_lt_zero _)), rfl⟩
  case round =>
    obtain ⟨kk, hkk, hg, rfl, HN, rfl⟩ := hrel
    by_cases hlt : kk < n
    · have hltz : (kk : Int) < (n : Int) := by omega
      obtain ⟨b, off, rfl, t, ht, hs, _, k0⟩ := H.out.str hlt
      cases q1 : (t.toList == u.toList)
      · have HN3 : Hid (∀ j, j < kk + 1 → ((ls.getD j ByteArray.empty).toList == u.toList) = false) := Lib.hid (all_next (p := fun j => (ls.getD j ByteArray.empty).toList == u.toList) HN.out (by rw [← ht]; exact q1))
        clear HN ht
        go_wp2
        go_roundg (n - (kk + 1))
        case measure => omega
        case rel => exact ⟨kk + 1, by omega, by omega, by go_num, HN3, rfl⟩
      · have HR := Lib.hid (HY.out (by
          rw [beq_iff_eq, Lib.toList_data, Lib.toList_data] at q1
          rw [← q1, ht]
          exact List.mem_map.2 ⟨_, by rw [List.getD_eq_getElem?_getD, List.getElem?_eq_getElem (by rw [HL.out]; exact hlt)]; exact List.getElem_mem _, rfl⟩))
        clear HN ht
        go_wp2
        go_ret
        exact ⟨ret_bool HR.out.symm, rfl⟩
    · have hltz : ¬ (kk : Int) < (n : Int) := by omega
      have HR := Lib.hid (HX.out (fun hm => by
        obtain ⟨t, ht, e⟩ := List.mem_map.1 hm
        obtain ⟨j, hj, rfl⟩ := List.mem_iff_getElem.1 ht
        have := HN.out j (by rw [HL.out] at hj; omega)
        rw [List.getD_eq_getElem?_getD, List.getElem?_eq_getElem hj, Lib.toList_data, Lib.toList_data] at this
        simp at this
        exact this (Array.ext' e)))
      clear HN
      go_wp2
      go_ret
      exact ⟨ret_bool HR.out.symm, rfl⟩
end Go.Proofs.YtnhjbknhbeicfaaDoor
