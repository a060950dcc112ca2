/- The mainline: the walks of the statements Of, Closest, Orders. Conditions: the statements' own. -/
import Derived.Test.YtoljlpddcpdoiaaW22
import Derived.OwnWalk
namespace Go.Proofs.Ytoljlpddcpdoiaa
open Go Go.RowKit Go.Maps
set_option linter.unusedVariables false
set_option linter.unusedSimpArgs false

def FewI (r : Bool) (n : Nat) (E : Nat → Me) : Prop := r = true → Few n E
theorem FewI.le {n : Nat} {E : Nat → Me} (h : FewI true n E) : n ≤ 14 := (h rfl).1
def Tr (w : World) (e : Ending) (w' : World) : Prop := e = .returned (.bool true) ∧ Below w.heap.size w w'
set_option maxRecDepth 100000 in
set_option maxHeartbeats 4000000 in
theorem of_walk (A : Option Addr) (n c : Nat) (E : Nat → Me) (id : Int) (w : World) (h : Evm w A n E) (hw : i64B id) : Calls Try.prog 3 #[.slice A n c, .int .i64 id] w fun e w' => e = .returned (.bool true) ∧ Below w.heap.size w w' := by
  have HF := Lib.hid (few8 A n c E w h)
  have HO := Lib.hid (fun (hn : n ≤ 900000) v (hb : Below w.heap.size w v) => of11 A n c E id v (h.below hb) hn hw)
  have HP := Lib.hid (fun (hn : n ≤ 900000) v (hb : Below w.heap.size w v) => rof12 A n c E id v (h.below hb) hn hw)
  have HL := Lib.hid (way_len E n id)
  unfold IntsP at HO HP
  unfold FewP at HF
  generalize wayL E n id = ws at HO HP HL
  clear h
  go_enter Try.func3, Try.ntmps3
  go_wp2_with (first
    | (go_at_call 8; (with_reducible refine HF.out.mono ?_); rintro e w1 ⟨⟨r, rfl, hr⟩, hb⟩; have B1 := Lib.hid hb; have HR1 := Lib.hid (show FewI r n E from hr); clear hb hr; cases r)
    | (go_at_call 10; (with_reducible refine (same10 _ _ _ _ _ ws _ (I2.out.below B3.out) I3.out (by have := HL.out; have := HR1.out.le; omega)).mono ?_); rintro e w4 ⟨rfl, hb⟩; have B4 := Lib.hid (B3b.out.trans (hb.mono B3b.out.size));  clear hb)
    | (go_at_call 12; (with_reducible refine (HP.out (by have := HR1.out.le; omega) _ B2.out).mono ?_); rintro e w3 ⟨A3, c3, rfl, hi, hb, _⟩; have I3 := Lib.hid hi; have B3 := Lib.hid hb; have B3b := Lib.hid (B2.out.trans (hb.mono B2.out.size)); clear hi hb)
    | (go_at_call 11; (with_reducible refine (HO.out (by have := HR1.out.le; omega) _ B1.out).mono ?_); rintro e w2 ⟨A2, c2, rfl, hi, hb, _⟩; have I2 := Lib.hid hi; have B2 := Lib.hid (B1.out.trans (hb.mono B1.out.size)); clear hi hb)
    | (go_at_call 9; (with_reducible refine (lives9 _).mono ?_); rintro e wl ⟨rfl, hb⟩; have BL := Lib.hid (B4.out.trans (hb.mono B4.out.size)); clear hb)
    | (go_at_call 9; (with_reducible refine (lives9 _).mono ?_); rintro e wl ⟨rfl, hb⟩; have BL := Lib.hid (B1.out.trans (hb.mono B1.out.size)); clear hb)
    | go_in)
  · go_ret
    exact ⟨rfl, BL.out⟩
  · go_ret
    exact ⟨rfl, BL.out⟩
set_option maxRecDepth 100000 in
set_option maxHeartbeats 4000000 in
theorem closest_walk (A : Option Addr) (n c : Nat) (E : Nat → Me) (A1 : Option Addr) (n1 c1 : Nat) (ms : List Int) (id : Int) (w : World) (h : Evm w A n E) (h1 : Its w A1 n1 c1 ms) (hw : i64B id) : Calls Try.prog 4 #[.slice A n c, .slice A1 n1 c1, .int .i64 id] w fun e w' => e = .returned (.bool true) ∧ Below w.heap.size w w' := by
  have HF := Lib.hid (few8 A n c E w h)
  have HO := Lib.hid (fun (hn : n ≤ 900000) (hn1 : n1 ≤ 900000) v (hb : Below w.heap.size w v) => closest13 A n c E A1 n1 c1 ms id v (h.below hb) hn (h1.below hb) hn1 hw)
  have HP := Lib.hid (fun (hn : n ≤ 900000) (hn1 : n1 ≤ 900000) v (hb : Below w.heap.size w v) => rclosest14 A n c E A1 n1 c1 ms id v (h.below hb) hn (h1.below hb) hn1 hw)
  unfold FewP at HF
  generalize clo (wayL E n id) (rk ms) n1 = x at HO HP
  clear h h1
  by_cases hg : (30 : Int) < (n1 : Int)
  · go_enter Try.func4, Try.ntmps4
    go_wp2_with (first
      | (go_at_call 8; (with_reducible refine HF.out.mono ?_); rintro e w1 ⟨⟨r, rfl, hr⟩, hb⟩; have B1 := Lib.hid hb; have HR1 := Lib.hid (show FewI r n E from hr); clear hb hr; cases r)
      | (go_at_call 14; (with_reducible refine (HP.out (by have := HR1.out.le; omega) HN1.out _ B2.out).mono ?_); rintro e w3 ⟨rfl, hb⟩; have B4 := Lib.hid (B2.out.trans (hb.mono B2.out.size)); clear hb)
      | (go_at_call 13; (with_reducible refine (HO.out (by have := HR1.out.le; omega) HN1.out _ B1.out).mono ?_); rintro e w2 ⟨rfl, hb⟩; have B2 := Lib.hid (B1.out.trans (hb.mono B1.out.size)); clear hb)
      | (go_at_call 9; (with_reducible refine (lives9 _).mono ?_); rintro e wl ⟨rfl, hb⟩; have BL := Lib.hid (B4.out.trans (hb.mono B4.out.size)); clear hb)
      | (go_at_call 9; (with_reducible refine (lives9 _).mono ?_); rintro e wl ⟨rfl, hb⟩; have BL := Lib.hid (B1.out.trans (hb.mono B1.out.size)); clear hb)
      | go_in)
    · go_ret
      exact ⟨rfl, BL.out⟩
    · go_ret
      exact ⟨rfl, BL.out⟩
  · have HN1 := Lib.hid (show n1 ≤ 900000 by omega)
    go_enter Try.func4, Try.ntmps4
    go_wp2_with (first
      | (go_at_call 8; (with_reducible refine HF.out.mono ?_); rintro e w1 ⟨⟨r, rfl, hr⟩, hb⟩; have B1 := Lib.hid hb; have HR1 := Lib.hid (show FewI r n E from hr); clear hb hr; cases r)
      | (go_at_call 14; (with_reducible refine (HP.out (by have := HR1.out.le; omega) HN1.out _ B2.out).mono ?_); rintro e w3 ⟨rfl, hb⟩; have B4 := Lib.hid (B2.out.trans (hb.mono B2.out.size)); clear hb)
      | (go_at_call 13; (with_reducible refine (HO.out (by have := HR1.out.le; omega) HN1.out _ B1.out).mono ?_); rintro e w2 ⟨rfl, hb⟩; have B2 := Lib.hid (B1.out.trans (hb.mono B1.out.size)); clear hb)
      | (go_at_call 9; (with_reducible refine (lives9 _).mono ?_); rintro e wl ⟨rfl, hb⟩; have BL := Lib.hid (B4.out.trans (hb.mono B4.out.size)); clear hb)
      | (go_at_call 9; (with_reducible refine (lives9 _).mono ?_); rintro e wl ⟨rfl, hb⟩; have BL := Lib.hid (B1.out.trans (hb.mono B1.out.size)); clear hb)
      | go_in)
    · go_ret
      exact ⟨rfl, BL.out⟩
    · go_ret
      exact ⟨rfl, BL.out⟩
end Go.Proofs.Ytoljlpddcpdoiaa
