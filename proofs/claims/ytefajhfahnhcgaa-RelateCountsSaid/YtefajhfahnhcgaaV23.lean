/- Relations: Show of the program. Bound: a thousand events. -/
import Derived.Test.YtefajhfahnhcgaaV22
namespace Go.Proofs.Ytefajhfahnhcgaa
open Go Go.RowKit
set_option linter.unusedVariables false
set_option linter.unusedSimpArgs false

/-- The text that is shown, the error. -/
def shwT (E : Nat → Me) (n : Nat) (z : Int) : ByteArray := match gt E n z with
  | none => ⟨#[]⟩
  | some t => if (E t).kd = 11 then (match gt E n (idO E (ltL E ((onc E n).filter (isEd E z (E t).sd)))) with | none => (E t).tx | some u => (E u).tx) else ⟨#[]⟩
def shwE (E : Nat → Me) (n : Nat) (z : Int) : Int := match gt E n z with
  | none => 5
  | some t => if (E t).kd = 11 then 0 else 1
theorem ret_si {a b : ByteArray} {i j : Int} (h : a = b) (k : i = j) : Ending.returned (.tuple #[.string a, .int .i64 i]) = .returned (.tuple #[.string b, .int .i64 j]) := by rw [h, k]
theorem field45 (a b c : Int) (A : Option Addr) (n m : Nat) (w : World) : (Instr.field 45 (.agg #[.int .i64 a, .slice A n m, .int .i64 b, .int .i64 c]) 0).run Try.prog w = .ok (.int .i64 a) w := by kernel_rfl
set_option maxRecDepth 100000 in
set_option maxHeartbeats 16000000 in
theorem show17 (A : Option Addr) (n c b off : Nat) (E : Nat → Me) (z : Int) (w : World) (h : Evm w A n E) (hA : 0 < n → A = some ⟨b, off, none⟩) (hn : n ≤ 1000) : Calls Try.prog 17 #[.slice A n c, .int .i64 z] w fun r w' => r = .returned (.tuple #[.string (shwT E n z), .int .i64 (shwE E n z)]) ∧ Below w.heap.size w w' := by
  have HP := Lib.hid (present28 A n c b off E w h hA (by omega))
  have HFn := Lib.hid (fun (y : Int) (A' : Option Addr) (c' : Nat) (u : World) (hp : Pes u A' (onc E n).length c' b off E (onc E n)) => find29 A' (onc E n).length c' b off E (onc E n) y u hp)
  have HFd := Lib.hid (fun y => fd_gt E y n)
  have HSm := Lib.hid (fun u (hb : Below w.heap.size w u) => sum15 A n c b off E z u (h.below hb) hA hn)
  have HTm := Lib.hid (show ∀ y t, gt E n y = some t → t ∈ onc E n from fun y t ht => by
    rw [← HFd.out] at ht
    exact List.mem_of_find?_eq_some ht)
  have HT := Lib.hid (show shwT E n z = (match gt E n z with
    | none => ⟨#[]⟩
    | some t => if (E t).kd = 11 then (match gt E n (idO E (ltL E ((onc E n).filter (isEd E z (E t).sd)))) with | none => (E t).tx | some u => (E u).tx) else ⟨#[]⟩) from rfl)
  have HE := Lib.hid (show shwE E n z = (match gt E n z with
    | none => 5
    | some t => if (E t).kd = 11 then 0 else 1) from rfl)
  have HF2 := Lib.hid (show ∀ (y : Int) (A' : Option Addr) (c' : Nat) (u : World), Pes u A' (onc E n).length c' b off E (onc E n) → Calls Try.prog 29 #[.slice A' (onc E n).length c', .int .i64 y] u fun r w' => r = .returned (pvO b off (gt E n y)) ∧ w' = u from fun y A' c' u hp => by have := HFn.out y A' c' u hp; rwa [HFd.out] at this)
  unfold PesP at HP
  unfold SumP at HSm
  generalize shwT E n z = st at HT ⊢
  generalize shwE E n z = se at HE ⊢
  clear h hA HFn HFd
  cases hg : gt E n z with
  | none =>
    have HF3 := Lib.hid (HF2.out z)
    rw [hg] at HT HE HF3
    simp only [pvO] at HF3
    clear hg HSm HTm HF2
    go_enter Try.func17, Try.ntmps17
    go_wp2_with (first
      | (go_at_call 28; (with_reducible refine HP.out.mono ?_); rintro r w1 ⟨A', c', rfl, hp, hb⟩; have PE := Lib.hid hp; have B1 := Lib.hid hb; clear hp hb)
      | (go_at_call 29; (with_reducible refine (HF3.out _ _ _ PE.out).mono ?_); rintro r w2 ⟨rfl, rfl⟩)
      | go_in)
    go_ret2
    exact ⟨ret_si HT.out.symm HE.out.symm, B1.out⟩
  | some t =>
    have htm := HTm.out z t hg
    have HF3 := Lib.hid (HF2.out z)
    rw [hg] at HT HE HF3 HSm
    simp only [pvO, pv] at HF3
    simp only at HSm HT HE
    clear hg
    by_cases c1 : (E t).kd = 11
    · rw [if_pos c1] at HT HE
      have hfl := field45
      generalize hy : idO E (ltL E ((onc E n).filter (isEd E z (E t).sd))) = y at HT HSm
      clear hy
      have HF4 := Lib.hid (HF2.out y)
      cases hu : gt E n y with
      | none =>
        rw [hu] at HF4 HT
        simp only [pvO] at HF4
        clear hu HF2 HTm
        go_enter Try.func17, Try.ntmps17
        go_wp2_with (first
          | (go_at_call 28; (with_reducible refine HP.out.mono ?_); rintro r w1 ⟨A', c', rfl, hp, hb⟩; have PE := Lib.hid hp; have B1 := Lib.hid hb; clear hp hb)
          | (go_at_call 29; (first | (with_reducible refine (HF3.out _ _ _ PE.out).mono ?_; rintro r w2 ⟨rfl, rfl⟩; have k3 := (PE.out.at_ t htm).k3; rw [c1] at k3) | (with_reducible refine (HF4.out _ _ _ PE4.out).mono ?_; rintro r w6 ⟨rfl, rfl⟩; have k10 := (PE4.out.at_ t htm).k10)))
          | (go_at_call 15; (with_reducible refine (HSm.out _ B1.out).mono ?_); rintro r w4 ⟨A3, c3, rfl, hr, hb⟩; have PE4 := Lib.hid (PE.out.below hb); have B4 := Lib.hid (B1.out.trans (hb.mono B1.out.size)); clear hr hb)
          | go_in)
        go_ret2
        exact ⟨ret_si HT.out.symm HE.out.symm, B4.out⟩
      | some u =>
        have hum := HTm.out y u hu
        rw [hu] at HF4 HT
        simp only [pvO, pv] at HF4
        clear hu HF2 HTm
        go_enter Try.func17, Try.ntmps17
        go_wp2_with (first
          | (go_at_call 28; (with_reducible refine HP.out.mono ?_); rintro r w1 ⟨A', c', rfl, hp, hb⟩; have PE := Lib.hid hp; have B1 := Lib.hid hb; clear hp hb)
          | (go_at_call 29; (first | (with_reducible refine (HF3.out _ _ _ PE.out).mono ?_; rintro r w2 ⟨rfl, rfl⟩; have k3 := (PE.out.at_ t htm).k3; rw [c1] at k3) | (with_reducible refine (HF4.out _ _ _ PE4.out).mono ?_; rintro r w6 ⟨rfl, rfl⟩; have k10 := (PE4.out.at_ u hum).k10)))
          | (go_at_call 15; (with_reducible refine (HSm.out _ B1.out).mono ?_); rintro r w4 ⟨A3, c3, rfl, hr, hb⟩; have PE4 := Lib.hid (PE.out.below hb); have B4 := Lib.hid (B1.out.trans (hb.mono B1.out.size)); clear hr hb)
          | go_in)
        go_ret2
        exact ⟨ret_si HT.out.symm HE.out.symm, B4.out⟩
    · rw [if_neg c1] at HT HE
      have z1 : ((E t).kd != 11) = true := by simp [c1]
      clear HSm HF2 HTm
      go_enter Try.func17, Try.ntmps17
      go_wp2_with (first
        | (go_at_call 28; (with_reducible refine HP.out.mono ?_); rintro r w1 ⟨A', c', rfl, hp, hb⟩; have PE := Lib.hid hp; have B1 := Lib.hid hb; clear hp hb)
        | (go_at_call 29; (with_reducible refine (HF3.out _ _ _ PE.out).mono ?_); rintro r w2 ⟨rfl, rfl⟩; have k3 := (PE.out.at_ t htm).k3)
        | go_in)
      go_ret2
      exact ⟨ret_si HT.out.symm HE.out.symm, B1.out⟩
end Go.Proofs.Ytefajhfahnhcgaa
