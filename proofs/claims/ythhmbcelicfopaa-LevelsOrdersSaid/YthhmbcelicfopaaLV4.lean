/- The default levels, of the program and of the reference. -/
import Derived.Test.YthhmbcelicfopaaLV3
namespace Go.Proofs.Ythhmbcelicfopaa
open Go.RowKit
set_option linter.unusedVariables false

def defLv (u : ByteArray) : Lvl := ⟨if u.toList = [] then 0 else 1, fun _ => (u, 100), 0, fun _ => (0, 0), 0, 0, 0, 0, 50, 50, 50⟩
theorem one_user (w : World) (u : ByteArray) (g c : Nat) (h : Blk w g [.string u, .int .i64 100] 51) : Rws w (some ⟨g, 0, none⟩) 1 c 2 (rowU fun _ => (u, 100)) :=
  ⟨fun j hj => rfl, fun j hj v hv => by simp [rowU] at hv; rcases hv with rfl | rfl <;> rfl, by decide, (fun h => by cases h), .inr ⟨g, 0, rfl, h.lt, fun j hj i v hv => by
    obtain rfl : j = 0 := by omega
    have := h.cell (i := i) (v := v) hv
    simpa using this⟩⟩
theorem empty_of {u : ByteArray} (h : u.toList = []) : u = ⟨#[]⟩ := by
  have h1 : u.data.toList = [] := by rw [← h]; exact (ByteArray.toList_eq u).symm
  cases u with
  | mk d => simp at h1; subst h1; rfl
theorem def_some {w : World} {u : ByteArray} (hu : u.toList ≠ []) (A B : Obj) (C : Obj) (hC : C = .cells #[.string u, .int .i64 100] 51) :
    LvPost2 w (defLv u) (.returned (.agg #[.slice (some ⟨w.heap.size + 1 + 1, 0, none⟩) 1 1, .slice none 0 0, .int .i64 0, .int .i64 0, .int .i64 0, .int .i64 0, .int .i64 50, .int .i64 50, .int .i64 50])) (((w.alloc A).alloc B).alloc C) := by
  subst hC
  have h2 : ((w.alloc A).alloc B).heap.size = w.heap.size + 1 + 1 := by simp
  have hb := blk_new ((w.alloc A).alloc B) [.string u, .int .i64 100] 51
  rw [h2] at hb
  unfold defLv
  rw [if_neg hu]
  exact ⟨_, _, _, _, rfl, one_user _ u _ 1 hb, Rws.zero _ _ _ _ _ (fun _ => rfl), (((Below.refl _ w).alloc (Nat.le_refl _) A).alloc (by simp) B).alloc (by simp; omega) _, fun _ b off e => by cases e; omega, fun h => absurd h (Nat.lt_irrefl 0)⟩
theorem def_none {w : World} {u : ByteArray} (hu : u.toList = []) (A B : Obj) :
    LvPost2 w (defLv u) (.returned (.agg #[.slice none 0 0, .slice none 0 0, .int .i64 0, .int .i64 0, .int .i64 0, .int .i64 0, .int .i64 50, .int .i64 50, .int .i64 50])) ((w.alloc A).alloc B) := by
  unfold defLv
  rw [if_pos hu]
  exact ⟨_, _, _, _, rfl, Rws.zero _ _ _ _ _ (fun _ => rfl), Rws.zero _ _ _ _ _ (fun _ => rfl), ((Below.refl _ w).alloc (Nat.le_refl _) A).alloc (by simp) B, fun h => absurd h (Nat.lt_irrefl 0), fun h => absurd h (Nat.lt_irrefl 0)⟩
theorem two_old (w : World) (A B : Obj) : ((w.alloc A).alloc B).heap[w.heap.size]? = some A := heap_alloc2_old w A B

set_option maxHeartbeats 1000000 in
theorem default27 (u : ByteArray) (w : World) : Calls Try.prog 16 #[.string u] w (LvPost2 w (defLv u)) := by
  by_cases hu : u.toList = []
  · have HD := Lib.hid (fun (A B : Obj) => def_none (w := w) hu A B)
    obtain rfl := empty_of hu
    clear hu
    go_enter Try.func16, Try.ntmps16
    go_wp2
    (try simp only [Exit.inBlock, Exit.then])
    refine bodyPost_ret (results_cell_row rfl _ _ w.heap.size 25 _ (0, 0) _ rfl (two_old w _ _) Try.underlying25 rfl size28) rfl ?_
    exact HD.out _ _
  · have HD := Lib.hid (fun (A B : Obj) => def_some (w := w) hu A B _ rfl)
    have hq : (u.toList == []) = false := by simpa using hu
    clear hu
    go_enter Try.func16, Try.ntmps16
    go_wp2
    (try simp only [Exit.inBlock, Exit.then])
    refine bodyPost_ret (results_cell_row rfl _ _ w.heap.size 25 _ (0, 0) _ rfl (three_old w _ _ _) Try.underlying25 rfl size28) rfl ?_
    exact HD.out _ _
set_option maxHeartbeats 1000000 in
theorem default28 (u : ByteArray) (w : World) : Calls Try.prog 17 #[.string u] w (LvPost2 w (defLv u)) := by
  by_cases hu : u.toList = []
  · have HD := Lib.hid (fun (A B : Obj) => def_none (w := w) hu A B)
    obtain rfl := empty_of hu
    clear hu
    go_enter Try.func17, Try.ntmps17
    go_wp2
    (try simp only [Exit.inBlock, Exit.then])
    refine bodyPost_ret (results_cell_row rfl _ _ w.heap.size 25 _ (0, 0) _ rfl (two_old w _ _) Try.underlying25 rfl size28) rfl ?_
    exact HD.out _ _
  · have HD := Lib.hid (fun (A B : Obj) => def_some (w := w) hu A B _ rfl)
    have hq : (u.toList == []) = false := by simpa using hu
    clear hu
    go_enter Try.func17, Try.ntmps17
    go_wp2
    (try simp only [Exit.inBlock, Exit.then])
    refine bodyPost_ret (results_cell_row rfl _ _ w.heap.size 25 _ (0, 0) _ rfl (three_old w _ _ _) Try.underlying25 rfl size28) rfl ?_
    exact HD.out _ _
end Go.Proofs.Ythhmbcelicfopaa
