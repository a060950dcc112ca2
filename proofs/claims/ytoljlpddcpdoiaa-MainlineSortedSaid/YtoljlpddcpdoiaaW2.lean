/- The mainline: events by the cells that matter; index.Of. Bound: at most 900000 events. -/
import Derived.Test.YtoljlpddcpdoiaaMJ
import Derived.Deep.CutRange
namespace Go.Proofs.Ytoljlpddcpdoiaa
open Go.RowKit Go.Maps
set_option linter.unusedVariables false
set_option linter.unusedSimpArgs false

def rowI (zs : List Int) (j : Nat) : List Value := [.int .i64 (zs.getD j 0)]
/-- The slice at A has n numbers, which are zs. -/
structure Its (w : World) (A : Option Addr) (n c : Nat) (zs : List Int) : Prop where
  rws : Rws w A n c 1 (rowI zs)
  len : zs.length = n
  cap : n ≤ c
  wf : ∀ z ∈ zs, i64B z
theorem Its.below {w w' : World} {A : Option Addr} {n c : Nat} {zs : List Int} (h : Its w A n c zs) (hb : Below w.heap.size w w') : Its w' A n c zs := ⟨h.rws.below hb, h.len, h.cap, h.wf⟩
theorem Its.at_ {w : World} {A : Option Addr} {n c : Nat} {zs : List Int} (h : Its w A n c zs) {k : Nat} (hk : k < n) : ∃ b off, A = some ⟨b, off, none⟩ ∧ b < w.heap.size ∧ w.cell? ⟨b, off + k, none⟩ = some (.int .i64 (zs.getD k 0)) ∧ i64B (zs.getD k 0) := by
  obtain ⟨b, off, e, hlt, hr⟩ := h.rws.get hk
  refine ⟨b, off, e, hlt, by have := hr 0 _ rfl; rwa [Nat.mul_one] at this, h.wf _ ?_⟩
  rw [List.getD_eq_getElem?_getD, List.getElem?_eq_getElem (by rw [h.len]; exact hk)]
  exact List.getElem_mem _
/-- What matters of an event. -/
structure Me where
  id : Int
  kd : Int
  tm : Int
  aA : Option Addr
  nA : Nat
  cA : Nat
  zs : List Int
  cs : List Value
/-- The cells of an event hold what is said of it. -/
structure Fits (e : Me) : Prop where
  len : e.cs.length = 29
  c0 : e.cs[0]? = some (.int .i64 e.id)
  c3 : e.cs[3]? = some (.int .i64 e.kd)
  c6 : e.cs[6]? = some (.int .i64 e.tm)
  c9 : e.cs[9]? = some (.slice e.aA e.nA e.cA)
  one : ∀ u ∈ e.cs, u.oneCell' = true
structure Evm (w : World) (A : Option Addr) (n : Nat) (E : Nat → Me) : Prop where
  at_ : 0 < n → ∃ b off, A = some ⟨b, off, none⟩ ∧ b < w.heap.size ∧ ∀ j, j < n → w.rangeAt b (off + j * 29) (E j).cs
  au : ∀ j, j < n → Its w (E j).aA (E j).nA (E j).cA (E j).zs
  wf : ∀ j, j < n → i64B (E j).id
  fit : ∀ j, j < n → Fits (E j)
theorem Evm.below {w w' : World} {A : Option Addr} {n : Nat} {E : Nat → Me} (h : Evm w A n E) (hb : Below w.heap.size w w') : Evm w' A n E := by
  refine ⟨fun h0 => ?_, fun j hj => (h.au j hj).below hb, h.wf, h.fit⟩
  obtain ⟨b, off, e, hlt, hc⟩ := h.at_ h0
  exact ⟨b, off, e, Nat.lt_of_lt_of_le hlt hb.size, fun j hj k v hv => (hb.cell (p := ⟨b, _, none⟩) hlt).trans (hc j hj k v hv)⟩
theorem Evm.range {w : World} {A : Option Addr} {n : Nat} {E : Nat → Me} (h : Evm w A n E) {j : Nat} (hj : j < n) : ∃ b off, A = some ⟨b, off, none⟩ ∧ b < w.heap.size ∧ w.rangeAt b (off + j * 29) (E j).cs := by
  obtain ⟨b, off, e, hlt, hc⟩ := h.at_ (by omega)
  exact ⟨b, off, e, hlt, hc j hj⟩
theorem Evm.get {w : World} {A : Option Addr} {n : Nat} {E : Nat → Me} (h : Evm w A n E) {j : Nat} (hj : j < n) : ∃ b off, A = some ⟨b, off, none⟩ ∧ b < w.heap.size ∧ w.cell? ⟨b, off + j * 29, none⟩ = some (.int .i64 (E j).id) ∧ w.cell? ⟨b, off + j * 29 + 3, none⟩ = some (.int .i64 (E j).kd) ∧ w.cell? ⟨b, off + j * 29 + 6, none⟩ = some (.int .i64 (E j).tm) ∧ w.cell? ⟨b, off + j * 29 + 9, none⟩ = some (.slice (E j).aA (E j).nA (E j).cA) := by
  obtain ⟨b, off, e, hlt, hc⟩ := h.range hj
  have hf := h.fit j hj
  exact ⟨b, off, e, hlt, hc 0 _ hf.c0, hc 3 _ hf.c3, hc 6 _ hf.c6, hc 9 _ hf.c9⟩
/-- The place of the first event with an id. -/
def plc (E : Nat → Me) (n : Nat) (id : Int) : Option Int := Option.map (fun j : Nat => (j : Int)) ((List.range n).find? (fun j : Nat => (E j).id == id))
theorem plc_old {E : Nat → Me} {k : Nat} {x : Int} (h : plc E k (E k).id = some x) : plc E (k + 1) = plc E k := by
  funext id
  unfold plc at h ⊢
  rw [List.range_succ, List.find?_append]
  cases hf : (List.range k).find? (fun j => (E j).id == id) with
  | some y => rfl
  | none =>
    have hz : ((E k).id == id) = false := by
      cases hd : ((E k).id == id)
      · rfl
      · have e : (E k).id = id := by simpa using hd
        rw [e, hf] at h
        cases h
    simp [hz]
theorem plc_new {E : Nat → Me} {k : Nat} (h : plc E k (E k).id = none) : plc E (k + 1) = fun id => if id = (E k).id then some (k : Int) else plc E k id := by
  funext id
  unfold plc at h ⊢
  rw [List.range_succ, List.find?_append]
  by_cases e : id = (E k).id
  · subst e
    rw [if_pos rfl]
    rw [Option.map_eq_none_iff] at h
    rw [h]
    simp
  · rw [if_neg e]
    have hz : ((E k).id == id) = false := by simpa using fun h => e h.symm
    simp [hz]
theorem plc_lt {E : Nat → Me} {n : Nat} {id x : Int} (h : plc E n id = some x) : ∃ j : Nat, x = j ∧ j < n ∧ (E j).id = id := by
  unfold plc at h
  rw [Option.map_eq_some_iff] at h
  obtain ⟨j, hj, rfl⟩ := h
  exact ⟨j, rfl, by simpa using List.mem_of_find?_eq_some hj, by simpa using List.find?_some hj⟩
theorem below_put {w0 w w' : World} {M : Nat} (h : Below w0.heap.size w0 w) (hg : w.grownBy w' (some M)) (hB : w0.heap.size ≤ M) : Below w0.heap.size w0 w' := h.grown hg h.size (fun k e => by cases e; exact hB)
theorem run_makeMapS (n : Int) (w : World) : (Instr.makeMap 53 (some (.int .i64 n))).run Try.prog w = .ok (.map (some w.heap.size)) (w.alloc (.map #[] 0)) := by
  simp [Instr.makeMap, run_underlying mi_info, asInt, asIntOf, Result.andThen]
set_option maxRecDepth 100000 in
set_option maxHeartbeats 4000000 in
theorem index22 (A : Option Addr) (n c : Nat) (E : Nat → Me) (w : World) (h : Evm w A n E) (hn : n ≤ 900000) : Calls Try.prog 22 #[.slice A n c] w fun e w' => e = .returned (.map (some w.heap.size)) ∧ (∃ m, m ≤ n ∧ MapI w' w.heap.size m (plc E n)) ∧ Below w.heap.size w w' := by
  have H := Lib.hid h
  clear h
  go_enter Try.func22, Try.ntmps22
  have hmm := run_makeMapS
  go_wp2
  clear hmm
  go_loopg [4, 5, 6, 12] n (fun gg _ _ _ s12 wr => ∃ kk m : Nat, kk ≤ n ∧ n - kk ≤ gg ∧ m ≤ kk ∧ s12 = .int .i64 kk ∧ Hid (MapI wr w.heap.size m (plc E kk)) ∧ Hid (Below w.heap.size w wr))
  case atStart => exact ⟨0, 0, Nat.zero_le _, by omega, by omega, rfl, Lib.hid (MapI.made w), Lib.hid ((Below.refl _ _).alloc (Nat.le_refl _) _)⟩
  case round =>
    obtain ⟨kk, m, hkk, hg, hmk, rfl, HM, BW⟩ := hrel
    by_cases hlt : kk < n
    · have hltz : (kk : Int) < (n : Int) := by omega
      have hk0 : (0 : Int) ≤ (kk : Int) := by omega
      obtain ⟨b, off, eA, hbl, k0, _⟩ := (H.out.below BW.out).get hlt
      have HOl := Lib.hid (fun x => plc_old (E := E) (k := kk) (x := x))
      have HNe := Lib.hid (plc_new (E := E) (k := kk))
      have hfit := H.out.wf kk hlt
      subst eA
      generalize (E kk).id = i at k0 HOl HNe hfit
      have hask := HM.out.ask hfit
      cases hk : plc E kk i with
      | none =>
        have HNw := Lib.hid (HNe.out hk)
        rw [hk] at hask
        clear hk
        go_wp2_with (first
          | (at_mapUpdate; refine wpList_putI rfl _ _ _ rfl w.heap.size m (plc E kk) rfl HM.out (by omega) i hfit rfl (kk : Int) (by unfold i64B; omega) rfl ?_; intro w3 hm3 hg3; have M3 := Lib.hid hm3; have B3 := Lib.hid (below_put BW.out hg3 (Nat.le_refl _)); clear hm3 hg3 hask)
          | go_in)
        go_roundg (n - (kk + 1))
        case measure => omega
        case rel => exact ⟨kk + 1, m + 1, by omega, by omega, by omega, by go_num, Lib.hid (by rw [HNw.out]; exact M3.out), B3⟩
      | some x =>
        have HOd := Lib.hid (HOl.out x hk)
        rw [hk] at hask
        clear hk
        go_wp2
        go_roundg (n - (kk + 1))
        case measure => omega
        case rel => exact ⟨kk + 1, m, by omega, by omega, by omega, by go_num, Lib.hid (by rw [HOd.out]; exact HM.out), BW⟩
    · have hltz : ¬ (kk : Int) < (n : Int) := by omega
      obtain rfl : kk = n := by omega
      go_wp2
      go_ret
      exact ⟨rfl, ⟨m, hmk, HM.out⟩, BW.out⟩
end Go.Proofs.Ytoljlpddcpdoiaa
