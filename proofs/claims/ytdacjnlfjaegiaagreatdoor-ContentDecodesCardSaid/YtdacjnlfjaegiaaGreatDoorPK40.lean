/- Laws for a long test: operations that a test leaves out or runs, joined; a store of one cell; four new blocks. No condition. -/
import Derived.Test.YtdacjnlfjaegiaaGreatDoorPK36
import Derived.Test.YtdacjnlfjaegiaaGreatDoorPK39
namespace Go.Proofs.YtdacjnlfjaegiaaGreatDoor
open Go Go.RowKit
set_option linter.unusedVariables false
set_option linter.unusedSimpArgs false
set_option maxRecDepth 100000

theorem si3 : (Tryz.prog.info? 3).map (·.size) = some 1 := by kernel_rfl
theorem size9 : (Tryz.prog.info? 9).map (·.size) = some 1 := by kernel_rfl
theorem size4 : (Tryz.prog.info? 4).map (·.size) = some 1 := by kernel_rfl
theorem size23 : (Tryz.prog.info? 23).map (·.size) = some 1 := by kernel_rfl
section
variable {P : Program}
theorem run_storeAt_one (w : World) (t i : Nat) (ty : TypeId) (v : Value) {cs : List Value} {T : TypeId} (hb : Blk w t cs T) (hi : i < cs.length) (hs : (P.info? ty).map (·.size) = some 1) (hv : v.oneCell' = true) :
    (Instr.storeAt ty (.pointer (some ⟨t, i, none⟩)) v).run P w = .ok () (w.setCell ⟨t, i, none⟩ v) := by
  have h1 : w.cell? ⟨t, i, none⟩ = some cs[i] := hb.cell (List.getElem?_eq_getElem hi)
  have := run_storeCells_cells (P := P) t i [v] 0 w (fun j hj => by
      have : j = 0 := by simpa using hj
      subst this
      simp [h1]) (fun j hj => by
      have : j = 0 := by simpa using hj
      subst this
      exact hb.free i) (fun u hu => by
      have : u = v := by simpa using hu
      subst this
      exact hv)
  have e1 : w.setCells t i [v] = w.setCell ⟨t, i, none⟩ v := rfl
  simp only [Nat.add_zero, e1] at this
  cases hq : P.info? ty with
  | none => simp [hq] at hs
  | some d =>
    have hs1 : d.size = 1 := by simpa [hq] using hs
    have hc : v.cells = #[v] := by
      cases v <;> first | rfl | (simp [Value.oneCell'] at hv; done)
    simp only [Instr.storeAt, Instr.sureAddr, Sem.run_bind, Sem.run_pure, Result.andThen_ok]
    simp [storeVar, sizeOf, typeInfo, hq, hc, hs1, this]
end
/-- Four new blocks with the same cells. -/
structure F4 (w wx : World) (cs : List Value) (a b c d : Nat) : Prop where
  bel : Below w.heap.size w wx
  xa : Blk wx a cs 29
  xb : Blk wx b cs 29
  xc : Blk wx c cs 29
  xd : Blk wx d cs 29
  ab : a ≠ b
  ac : a ≠ c
  ad : a ≠ d
  bc : b ≠ c
  bd : b ≠ d
  cd : c ≠ d
  la : w.heap.size ≤ a
  lb : w.heap.size ≤ b
  lc : w.heap.size ≤ c
  ld : w.heap.size ≤ d
/-- New blocks, all of the same cells. -/
structure S4 (w y : World) (bs : List Nat) : Prop where
  bel : Below w.heap.size w y
  blk : ∀ b ∈ bs, Blk y b [.string ⟨#[]⟩, .int .i64 0, .int .i64 0, .bool false, .string ⟨#[]⟩, .slice none 0 0, .slice none 0 0, .slice none 0 0, .slice none 0 0, .int .i64 0, .int .i64 0, .int .i64 0, .int .i64 0, .int .i64 0, .int .i64 0, .int .i64 0] 29
  ge : ∀ b ∈ bs, w.heap.size ≤ b
  nd : bs.Nodup
theorem S4.nil {w y : World} (h : Below w.heap.size w y) : S4 w y [] := ⟨h, (fun b hb => by cases hb), (fun b hb => by cases hb), List.nodup_nil⟩
/-- Four blocks, their cells. -/
structure G4 (w y : World) (A B C D : List Value) (a b c d : Nat) : Prop where
  bel : Below w.heap.size w y
  xa : Blk y a A 29
  xb : Blk y b B 29
  xc : Blk y c C 29
  xd : Blk y d D 29
  ab : a ≠ b
  ac : a ≠ c
  ad : a ≠ d
  bc : b ≠ c
  bd : b ≠ d
  cd : c ≠ d
  la : w.heap.size ≤ a
  lb : w.heap.size ≤ b
  lc : w.heap.size ≤ c
  ld : w.heap.size ≤ d
theorem S4.g4 {w y : World} {a b c d : Nat} (h : S4 w y [a, b, c, d]) : G4 w y [.string ⟨#[]⟩, .int .i64 0, .int .i64 0, .bool false, .string ⟨#[]⟩, .slice none 0 0, .slice none 0 0, .slice none 0 0, .slice none 0 0, .int .i64 0, .int .i64 0, .int .i64 0, .int .i64 0, .int .i64 0, .int .i64 0, .int .i64 0] [.string ⟨#[]⟩, .int .i64 0, .int .i64 0, .bool false, .string ⟨#[]⟩, .slice none 0 0, .slice none 0 0, .slice none 0 0, .slice none 0 0, .int .i64 0, .int .i64 0, .int .i64 0, .int .i64 0, .int .i64 0, .int .i64 0, .int .i64 0] [.string ⟨#[]⟩, .int .i64 0, .int .i64 0, .bool false, .string ⟨#[]⟩, .slice none 0 0, .slice none 0 0, .slice none 0 0, .slice none 0 0, .int .i64 0, .int .i64 0, .int .i64 0, .int .i64 0, .int .i64 0, .int .i64 0, .int .i64 0] [.string ⟨#[]⟩, .int .i64 0, .int .i64 0, .bool false, .string ⟨#[]⟩, .slice none 0 0, .slice none 0 0, .slice none 0 0, .slice none 0 0, .int .i64 0, .int .i64 0, .int .i64 0, .int .i64 0, .int .i64 0, .int .i64 0, .int .i64 0] a b c d := by
  have hn := h.nd
  simp only [List.nodup_cons, List.mem_cons, List.not_mem_nil, or_false, not_or] at hn
  exact ⟨h.bel, h.blk a (by simp), h.blk b (by simp), h.blk c (by simp), h.blk d (by simp), hn.1.1, hn.1.2.1, hn.1.2.2, hn.2.1.1, hn.2.1.2, hn.2.2.1, h.ge a (by simp), h.ge b (by simp), h.ge c (by simp), h.ge d (by simp)⟩
section
variable {w y y' : World} {A B C D E : List Value} {a b c d : Nat}
theorem G4.f4 (h : G4 w y A A A A a b c d) : F4 w y A a b c d := ⟨h.bel, h.xa, h.xb, h.xc, h.xd, h.ab, h.ac, h.ad, h.bc, h.bd, h.cd, h.la, h.lb, h.lc, h.ld⟩
end
end Go.Proofs.YtdacjnlfjaegiaaGreatDoor
