/- The reference's Get of a store. No condition. -/
import Derived.Test.YtbedibiodlgegaaYPL
namespace Go.Proofs.Ytbedibiodlgegaa
open Go.RowKit
set_option linter.unusedVariables false
set_option linter.unusedSimpArgs false

def ev0 : Evd := ⟨0, ⟨#[]⟩, ⟨#[]⟩, 0, false, ⟨#[]⟩, 0, 0, none, 0, 0, none, 0, 0, ⟨⟨#[]⟩, 0, 0, false, ⟨#[]⟩, 0, [], 0, [], ⟨0, fun _ => (⟨#[]⟩, 0), 0, fun _ => (0, 0), 0, 0, 0, 0, 0, 0, 0⟩⟩, ⟨none, 0, none, 0, none, 0, none, 0⟩, 0, ⟨#[]⟩, 0, [], []⟩
abbrev z29' : List Value := evc 0 ⟨#[]⟩ ⟨#[]⟩ 0 false ⟨#[]⟩ 0 0 none 0 0 none 0 0 ⟨#[]⟩ 0 0 false ⟨#[]⟩ none 0 0 none 0 0 none 0 0 none 0 0 0 0 0 0 0 0 0 0 ⟨#[]⟩ 0
def gotE (E : Nat → Evd) (o : Option Nat) : Evd := match o with | some k => E k | none => ev0
set_option maxRecDepth 100000 in
set_option maxHeartbeats 4000000 in
theorem get40 (A : Option Addr) (n c : Nat) (z : Int) (E : Nat → Evd) (w : World) (h : Evx w A n E) : Calls Try.prog 40 #[.slice A n c, .int .i64 z] w fun e w' => e = .returned (.tuple #[.agg (cellsE (gotE E (pl E n z))).toArray, .bool (pl E n z).isSome]) ∧ Below w.heap.size w w' := by
  have B0 := Lib.hid ((Below.refl w.heap.size w).alloc (Nat.le_refl _) (.cells z29'.toArray 34))
  have Y0 := Lib.hid (blk_new w z29' 34)
  have CP := Lib.hid (place50 A n c z E (w.alloc (.cells z29'.toArray 34)) (h.below B0.out))
  have H := Lib.hid (h.below B0.out)
  clear h
  cases hp : pl E n z with
  | none =>
    rw [hp, show plI none = -1 from rfl] at CP
    clear hp
    go_enter Try.func40, Try.ntmps40
    go_wp2_with (first
      | (go_at_call 53; refine CP.out.mono ?_; rintro e w' ⟨rfl, rfl⟩)
      | (refine wpList_store_mid rfl 34 _ _ rfl w.heap.size 0 z29'.toArray rfl rfl (Blk.there (n := 29) Y0.out (by decide)) size39 (by simp [Value.oneCell']) ?_))
    (try simp only [Exit.inBlock, Exit.then])
    refine bodyPost_ret (results_cell_tmp_blk rfl _ _ w.heap.size z29' 34 _ rfl (Y0.out.setAll _ rfl) Try.underlying34 rfl size39) rfl ?_
    exact ⟨rfl, below_setAll (Nat.le_refl _) _ _ _ B0.out⟩
  | some k =>
    have hk := pl_lt hp
    rw [hp, show plI (some k) = (k : Int) from rfl] at CP
    have hk1 : ¬ (k : Int) < 0 := by omega
    have hk2 : (k : Int) < (n : Int) := by omega
    clear hp
    obtain ⟨b, off, rfl, R⟩ := H.out.get hk
    go_enter Try.func40, Try.ntmps40
    go_wp2_with (first
      | (go_at_call 53; refine CP.out.mono ?_; rintro e w' ⟨rfl, rfl⟩)
      | (refine load_mid_g (by rfl) 34 _ rfl b (off + k * 29) rfl (cellsE (E k)) _ R.out Try.underlying34 rfl size39 ?_)
      | (refine wpList_store_mid rfl 34 _ _ rfl w.heap.size 0 (cellsE (E k)).toArray rfl rfl (Blk.there (n := 29) Y0.out (by decide)) size39 (by simp [Value.oneCell']) ?_))
    (try simp only [Exit.inBlock, Exit.then])
    refine bodyPost_ret (results_cell_tmp_blk rfl _ _ w.heap.size (cellsE (E k)) 34 _ rfl (Y0.out.setAll _ rfl) Try.underlying34 rfl size39) rfl ?_
    exact ⟨rfl, below_setAll (Nat.le_refl _) _ _ _ B0.out⟩
end Go.Proofs.Ytbedibiodlgegaa
