/- The walks of marked, User, Room, ServerOf, LocalOf of both, for every text. -/
import Derived.Test.YtbkchcpfnoclhaaIW4
namespace Go.Proofs.Ytbkchcpfnoclhaa
open Go.RowKit
set_option linter.unusedVariables false

/-- The error that a test leaves. -/
def err (b : Bool) : Int := if b then 0 else 3
theorem mkd_eq (s : ByteArray) (m : Int) (h0 : 0 < s.size) (h : (s[0].toNat : Int) = m) : I.mkd m (bys s) = (decide (I.col (bys s) < s.size) && (I.isLoc (bys (locP s)) && I.isSrv (bys (srvP s)))) := by
  unfold I.mkd locP srvP
  rw [bys_extract, bys_from, bys_getD s 0 h0, bys_len]
  congr 1
  apply decide_eq_decide.2
  constructor
  · exact fun h => h.2.2
  · exact fun h' => ⟨h0, h, h'⟩
theorem loc_size (s : ByteArray) {m : Nat} (h : s.size ≤ m) : (locP s).size ≤ m := size_extract_le _ _ _ h
theorem srv_size (s : ByteArray) {m : Nat} (h : s.size ≤ m) : (srvP s).size ≤ m := size_extract_le _ _ _ h
theorem verdict_any (b : Bool) (w : World) : Calls Try.prog 47 #[.bool b] w fun e w' => e = .returned (.int .i64 (err b)) ∧ w = w' := by
  cases b
  all_goals
    go_enter Try.func47, Try.ntmps47
    go_wp2
    go_ret
    exact ⟨rfl, rfl⟩
theorem user_any (s : ByteArray) (hs : s.size ≤ 9223372036854775807) (w : World) : Calls Try.prog 35 #[.string s] w fun e w' => e = .returned (.int .i64 (err (I.mkd 64 (bys s)))) ∧ Below w.heap.size w w' := by
  cases h : I.mkd 64 (bys s)
  · have C := Lib.hid (parts_no s 64 (by decide) hs h)
    clear h
    go_enter Try.func35, Try.ntmps35
    go_wp2_with (first
      | (go_at_call 46; refine (C.out _).mono ?_; rintro e w1 ⟨rfl, hb1⟩; have HB := Lib.hid hb1; clear hb1)
      | (go_at_call 47; refine (verdict_any _ _).mono ?_; rintro e w' ⟨rfl, rfl⟩))
    go_ret
    exact ⟨rfl, HB.out⟩
  · have C := Lib.hid (parts_yes s 64 (by decide) hs h)
    clear h
    generalize locP s = x at *
    generalize srvP s = y at *
    go_enter Try.func35, Try.ntmps35
    go_wp2_with (first
      | (go_at_call 46; refine (C.out _).mono ?_; rintro e w1 ⟨rfl, hb1⟩; have HB := Lib.hid hb1; clear hb1)
      | (go_at_call 47; refine (verdict_any _ _).mono ?_; rintro e w' ⟨rfl, rfl⟩))
    go_ret
    exact ⟨rfl, HB.out⟩
end Go.Proofs.Ytbkchcpfnoclhaa
