/- The reference's encoding of a content. Bounds: SmE. No condition. -/
import Derived.Test.YtablocpcgknmaaaGreatDoorPK25
namespace Go.Proofs.YtablocpcgknmaaaGreatDoor
open Go Go.RowKit
set_option linter.unusedVariables false
set_option linter.unusedSimpArgs false
set_option maxRecDepth 100000

/-- A function gave these bytes. -/
def SlR (w : World) (zs : List Int) (e : Ending) (w' : World) : Prop := ∃ A c, e = .returned (.slice A zs.length c) ∧ Cd.Sl w' A zs.length c zs ∧ Below w.heap.size w w'
theorem app_bd {xs ys : List Int} (h1 : ∀ z ∈ xs, 0 ≤ z ∧ z ≤ 255) (h2 : ∀ z ∈ ys, 0 ≤ z ∧ z ≤ 255) : ∀ z ∈ xs ++ ys, 0 ≤ z ∧ z ≤ 255 := fun z hz => (List.mem_append.1 hz).elim (h1 z) (h2 z)
theorem rI (n : Int) (hn : i64B n) (w : World) (A : Option Addr) (c : Nat) (zs : List Int) (h : Cd.Sl w A zs.length c zs) (hl : zs.length ≤ 790000) : Calls Tryz.prog 79 #[.slice A zs.length c, .int .i64 n] w (SlP w (zs ++ eI n)) := by
  refine (Cd.rputInt_any A zs.length c zs n ((Cd.C.in64_iff n).2 hn) (by omega) w h).mono ?_
  rintro e w' ⟨A', c', rfl, ho, hb⟩
  exact ⟨A', c', rfl, own_sl ho (app_bd h.bd (eI_bd hn).1) rfl, ho, hb⟩
def Y1 (xs : List Int) (us : List (ByteArray × Int)) (k : Nat) : List Int := (xs ++ eI us.length) ++ encU (us.take k)
end Go.Proofs.YtablocpcgknmaaaGreatDoor
