/- The default levels, the level of a user, the levels of a room without a power event. -/
import Derived.Test.YtmgjmcpkoaacjaaW4
import Derived.Laws.ResultCell
namespace Go.Proofs.Ytmgjmcpkoaacjaa
open Go.RowKit
set_option linter.unusedVariables false

theorem size28 : (Try.prog.info? 28).map (·.size) = some 9 := by kernel_rfl
theorem results_cell_tmp_row {P : Program} {fn : Func} {p u : Tmp} {ty : TypeId} (h : fn.results = #[.cell p ty, .tmp u]) (tmps : Array Value) (w : World) (g : Nat) (t : TypeId) (cs : Array Value) (fr : Nat × Nat) (d : TypeDesc)
    (hp : tmps.getD p undef = .pointer (some ⟨g, 0, none⟩)) (hg : w.heap[g]? = some (.cells cs t fr))
    (hu : P.underlying ty = some d) (hd : (match d with | .struct _ | .array _ _ => true | _ => false) = true) (hi : (P.info? ty).map (·.size) = some cs.size) :
    (results fn tmps).run P w = .ok (.tuple #[.agg cs, tmps.getD u undef]) w := by
  rw [results_cell_tmp h, hp]
  simp [asAddr, Result.andThen, run_loadVar_row w g t ty cs fr d hg hu hd hi]

/-- The levels that a room begins with; its users lie in block `g`. -/
abbrev lv (g : Nat) : Value := .agg #[.slice (some ⟨g, 0, none⟩) 1 1, .slice none 0 0, .int .i64 0, .int .i64 0, .int .i64 0, .int .i64 0, .int .i64 50, .int .i64 50, .int .i64 50]
def LvPost (u : ByteArray) (w : World) (g : Nat) (w' : World) : Prop :=
  w.heap.size ≤ g ∧ g < w'.heap.size ∧ w'.cell? ⟨g, 0, none⟩ = some (.string u) ∧ w'.cell? ⟨g, 1, none⟩ = some (.int .i64 100) ∧ Below w.heap.size w w'
theorem three_post (u : ByteArray) (w : World) (A B C : Obj) (hC : C = .cells #[.string u, .int .i64 100] 55) : LvPost u w (w.heap.size + 1 + 1) (((w.alloc A).alloc B).alloc C) := by
  subst hC
  have h2 : ((w.alloc A).alloc B).heap.size = w.heap.size + 1 + 1 := by simp
  have hg := heap_alloc_new ((w.alloc A).alloc B) (.cells #[.string u, .int .i64 100] 55)
  rw [h2] at hg
  refine ⟨by omega, by simp, ?_, ?_, ?_⟩
  · rw [cell_of_row _ _ 0 _ _ _ hg]; rfl
  · rw [cell_of_row _ _ 1 _ _ _ hg]; rfl
  · exact (((Below.refl _ w).alloc (Nat.le_refl _) A).alloc (by simp) B).alloc (by simp; omega) _
theorem three_old (w : World) (A B C : Obj) : (((w.alloc A).alloc B).alloc C).heap[w.heap.size]? = some A := by
  rw [heap_alloc_old _ _ (by simp; omega), heap_alloc2_old]

set_option maxHeartbeats 1000000 in
theorem default_any (u : ByteArray) (hu : (u.toList == []) = false) (w : World) :
    Calls Try.prog 27 #[.string u] w fun e w' => ∃ g, e = .returned (lv g) ∧ LvPost u w g w' := by
  go_enter Try.func27, Try.ntmps27
  go_wp2
  (try simp only [Exit.inBlock, Exit.then])
  refine bodyPost_ret (results_cell_row rfl _ _ w.heap.size 28 _ (0, 0) _ rfl (three_old w _ _ _) Try.underlying28 rfl size28) rfl ?_
  exact ⟨_, rfl, three_post u w _ _ _ rfl⟩

/-- The level of a user: the first entry that bears the name, or the levels' own. -/
structure Users (w : World) (g off n : Nat) (U : Nat → ByteArray × Int) : Prop where
  lt : g < w.heap.size
  big : n ≤ 9223372036854775807
  nm : ∀ j, j < n → w.cell? ⟨g, off + j * 2, none⟩ = some (.string (U j).1)
  lv : ∀ j, j < n → w.cell? ⟨g, off + j * 2 + 1, none⟩ = some (.int .i64 (U j).2)
theorem Users.below {w w1 : World} {b off n : Nat} {U : Nat → ByteArray × Int} (h : Users w b off n U) (hb : Below w.heap.size w w1) : Users w1 b off n U :=
  ⟨Nat.lt_of_lt_of_le h.lt hb.size, h.big, fun j hj => (hb.cell (p := ⟨b, off + j * 2, none⟩) h.lt).trans (h.nm j hj), fun j hj => (hb.cell (p := ⟨b, off + j * 2 + 1, none⟩) h.lt).trans (h.lv j hj)⟩
def isU (U : Nat → ByteArray × Int) (u : ByteArray) (j : Nat) : Bool := ((U j).1.toList == u.toList)
def UserPost (U : Nat → ByteArray × Int) (u : ByteArray) (n : Nat) (d r : Int) : Prop :=
  (∃ k, k < n ∧ isU U u k = true ∧ (∀ j, j < k → isU U u j = false) ∧ r = (U k).2) ∨ ((∀ j, j < n → isU U u j = false) ∧ r = d)

set_option maxHeartbeats 1000000 in
theorem user_any (g off n c : Nat) (U : Nat → ByteArray × Int) (K : Value) (d x3 x4 x5 x6 x7 x8 : Int) (u : ByteArray) (w : World) (hU : Users w g off n U) (hK : ∃ a l c, K = .slice a l c) :
    Calls Try.prog 21 #[.agg #[.slice (some ⟨g, off, none⟩) n c, K, .int .i64 d, .int .i64 x3, .int .i64 x4, .int .i64 x5, .int .i64 x6, .int .i64 x7, .int .i64 x8], .string u] w
      fun e w' => ∃ r, e = .returned (.int .i64 r) ∧ UserPost U u n d r ∧ Below w.heap.size w w' := by
  obtain ⟨aK, lK, cK, rfl⟩ := hK
  have HU := Lib.hid hU
  have hbig := hU.big
  have HA := Lib.hid (Below.alloc (Below.refl w.heap.size w) (Nat.le_refl _) (.cells #[.slice (some ⟨g, off, none⟩) n c, .slice aK lK cK, .int .i64 d, .int .i64 x3, .int .i64 x4, .int .i64 x5, .int .i64 x6, .int .i64 x7, .int .i64 x8] 28))
  have HD := Lib.hid (show (w.alloc (.cells #[.slice (some ⟨g, off, none⟩) n c, .slice aK lK cK, .int .i64 d, .int .i64 x3, .int .i64 x4, .int .i64 x5, .int .i64 x6, .int .i64 x7, .int .i64 x8] 28)).cell? ⟨w.heap.size, 2, none⟩ = some (.int .i64 d) by rw [cell_of_row _ _ 2 _ _ _ (heap_alloc_new w _)]; rfl)
  have HS := Lib.hid (show w.heap.size < (w.alloc (.cells #[.slice (some ⟨g, off, none⟩) n c, .slice aK lK cK, .int .i64 d, .int .i64 x3, .int .i64 x4, .int .i64 x5, .int .i64 x6, .int .i64 x7, .int .i64 x8] 28)).heap.size by simp)
  clear hU
  go_enter Try.func21, Try.ntmps21
  go_wp2
  generalize (w.alloc _) = w0 at HA HD HS ⊢
  go_loopg [10] n (fun gg s10 wr => ∃ kk : Nat, kk ≤ n ∧ n - kk ≤ gg ∧ s10 = .int .i64 kk ∧ Hid (Below w0.heap.size w0 wr) ∧ Hid (∀ j, j < kk → isU U u j = false))
  case atStart => exact ⟨0, Nat.zero_le _, by omega, rfl, Lib.hid (Below.refl _ w0), Lib.hid (fun j hj => absurd hj (Nat.not_lt_zero _))⟩
  case round =>
    obtain ⟨kk, hkk, hg, rfl, BW, A⟩ := hrel
    have cd := (BW.out.cell (p := ⟨w.heap.size, 2, none⟩) HS.out).trans HD.out
    by_cases hlt : kk < n
    · have hltz : (kk : Int) < (n : Int) := by omega
      have HUr := Lib.hid ((HU.out.below HA.out).below BW.out)
      have cy := HUr.out.nm kk hlt
      have cn := HUr.out.lv kk hlt
      have HG := Lib.hid (show isU U u kk = ((U kk).1.toList == u.toList) from rfl)
      generalize hky : (U kk).1 = ky at cy
      generalize hnn : (U kk).2 = nn at cn
      have Hky := Lib.hid hky; have Hnn := Lib.hid hnn
      have HB := Lib.hid (Below.alloc BW.out BW.out.size (.cells #[.string ky, .int .i64 nn] 55))
      clear hky hnn cd
      cases q2 : (ky.toList == u.toList) with
      | false =>
        have HF := Lib.hid (show isU U u kk = false by rw [HG.out, Hky.out, q2])
        go_wp2
        go_roundg (n - (kk + 1))
        case measure => omega
        case rel =>
          refine ⟨kk + 1, by omega, by omega, by go_num, Lib.hid HB.out, Lib.hid (fun j hj => ?_)⟩
          by_cases e : j = kk
          · subst e; exact HF.out
          · exact A.out j (by omega)
      | true =>
        have HF := Lib.hid (show isU U u kk = true by rw [HG.out, Hky.out, q2])
        go_wp2
        go_ret
        exact ⟨nn, rfl, .inl ⟨kk, hlt, HF.out, A.out, Hnn.out.symm⟩, HA.out.trans (HB.out.mono HA.out.size)⟩
    · have hltz : ¬ (kk : Int) < (n : Int) := by omega
      have : kk = n := by omega
      subst this
      go_wp2
      go_ret
      exact ⟨d, rfl, .inr ⟨A.out, rfl⟩, HA.out.trans (BW.out.mono HA.out.size)⟩

end Go.Proofs.Ytmgjmcpkoaacjaa
