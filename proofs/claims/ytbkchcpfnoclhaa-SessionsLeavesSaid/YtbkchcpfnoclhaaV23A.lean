/- SessionsLeaves: its walk. -/
import Derived.Test.YtbkchcpfnoclhaaV20
namespace Go.Proofs.Ytbkchcpfnoclhaa
open Go Go.RowKit
set_option linter.unusedVariables false
set_option linter.unusedSimpArgs false
set_option maxRecDepth 100000

/-- The first members, but one. -/
def rstL (ms : List ByteArray) (u : ByteArray) (k : Nat) : List ByteArray := (ms.take k).filter (fun s => decide (¬ s = u))
theorem rst_yes {ms : List ByteArray} {u : ByteArray} {k : Nat} (hk : k < ms.length) (h : ¬ ms.getD k ByteArray.empty = u) : rstL ms u (k + 1) = rstL ms u k ++ [ms.getD k ByteArray.empty] := by
  have e : ms.getD k ByteArray.empty = ms[k] := by rw [List.getD_eq_getElem?_getD, List.getElem?_eq_getElem hk]; rfl
  rw [e] at h ⊢
  unfold rstL
  rw [List.take_succ_eq_append_getElem hk, List.filter_append]
  simp [h]
theorem rst_no {ms : List ByteArray} {u : ByteArray} {k : Nat} (hk : k < ms.length) (h : ms.getD k ByteArray.empty = u) : rstL ms u (k + 1) = rstL ms u k := by
  have e : ms.getD k ByteArray.empty = ms[k] := by rw [List.getD_eq_getElem?_getD, List.getElem?_eq_getElem hk]; rfl
  rw [e] at h
  unfold rstL
  rw [List.take_succ_eq_append_getElem hk, List.filter_append]
  simp [h]
theorem rst_len (ms : List ByteArray) (u : ByteArray) (k : Nat) : (rstL ms u k).length ≤ k := by
  unfold rstL
  have h1 := List.length_filter_le (fun s : ByteArray => decide (¬ s = u)) (ms.take k)
  have h2 := List.length_take_le k ms
  omega
theorem rst_enc (l : List ByteArray) (t : ByteArray) : (tx (l ++ [t])).map encStr = (tx l).map encStr ++ [.string t] := by
  unfold tx
  rw [List.map_append, List.map_append]
  rfl
theorem rst_mem {ms : List ByteArray} {u : ByteArray} {k : Nat} : u ∉ rstL ms u k := by
  unfold rstL
  intro h
  have := (List.mem_filter.1 h).2
  simp at this
theorem stl_leave {l : List Rc} {nx : Int} {u d : ByteArray} {ix : Int} (h : rdB l nx u d ix = true) {ms : List ByteArray} {f : ByteArray → List ByteArray} (hm : u ∉ ms) : stlB l (holdL ms f) = true := by
  unfold rdB at h
  rcases e : l.find? (smH u d) with _ | p
  · rw [e] at h; cases h
  · have h1 := List.find?_some e
    have h2 := List.mem_of_find?_eq_some e
    unfold smH at h1
    simp only [Bool.and_eq_true, decide_eq_true_eq] at h1
    unfold stlB
    refine List.any_eq_true.2 ⟨p, h2, ?_⟩
    have : hsH (holdL ms f) (p.us, p.dv) = false := by
      rcases hb : hsH (holdL ms f) (p.us, p.dv) with _ | _
      · rfl
      · have := (mem_holdL.1 (hsH_iff.1 hb)).1
        dsimp only at this
        rw [h1.1] at this
        exact absurd this hm
    rw [this]
    rfl
theorem rd_next {l : List Rc} {nx : Int} {u d : ByteArray} {ix : Int} (h : rdB l nx u d ix = true) : rdB l (nx + 1) u d ix = true := by
  rw [rdB_sh] at h ⊢
  simp only [Bool.and_eq_true, decide_eq_true_eq] at h ⊢
  exact ⟨h.1, by omega⟩
theorem use_cases (S : Ses) (m : Int) : (∃ er : Int, ¬ er = 0 ∧ useS S m = (s0, 0, er)) ∨ (useS S m = (⟨S.id, S.rm, S.nx + 1, S.l⟩, S.nx, 0)) := by
  unfold useS
  split
  · exact .inl ⟨2, by decide, rfl⟩
  · split
    · exact .inl ⟨26, by decide, rfl⟩
    · exact .inr rfl
theorem reads13b (id : Int) (rm : ByteArray) (nx : Int) (A : Option Addr) (c : Nat) (l : List Rc) (u d : ByteArray) (ix : Int) (q : Bool) (hq : rdB l nx u d ix = q) (w : World) (h : Rcs w A l.length c l) : Calls Try.prog 13 #[.agg #[.int .i64 id, .string rm, .int .i64 nx, .slice A l.length c], .string u, .string d, .int .i64 ix] w fun r w' => r = .returned (.bool q) ∧ Below w.heap.size w w' := by
  have := reads13 id rm nx A c l u d ix w h
  rwa [hq] at this
theorem use_zero (S : Ses) (A : Option Addr) (c : Nat) (m er : Int) (hX : useS S m = (s0, 0, er)) (w : World) (h : Rcs w A S.l.length c S.l) (hn : S.l.length ≤ 900000) (hnx : i64B S.nx) : Calls Try.prog 10 #[.agg #[.int .i64 S.id, .string S.rm, .int .i64 S.nx, .slice A S.l.length c], .int .i64 m] w fun r w' => ∃ A' c', r = .returned (.tuple #[.agg #[.int .i64 0, .string ⟨#[]⟩, .int .i64 0, .slice A' 0 c'], .int .i64 0, .int .i64 er]) ∧ Rcs w' A' 0 c' [] ∧ Below w.heap.size w w' := uses_use S A c m _ hX w h hn hnx

end Go.Proofs.Ytbkchcpfnoclhaa
