/- The reference's Of. No condition on the events. -/
import Derived.Test.YtmgjmcpkoaacjaaW10
import Derived.Test.YtmgjmcpkoaacjaaG1
namespace Go.Proofs.Ytmgjmcpkoaacjaa
open Go.RowKit
set_option linter.unusedVariables false

theorem info9 : (Try.prog.info? 9).map (fun i => (i.zero, i.size, i.bytes)) = some (some (.string ByteArray.empty), 1, 16) := by kernel_rfl
theorem one_str (zs : List ByteArray) : ∀ u ∈ zs.map Value.string, u.oneCell' = true := by
  intro u hu
  obtain ⟨s, _, rfl⟩ := List.mem_map.1 hu
  rfl
theorem Texts.src {w : World} {A : Option Addr} {l c : Nat} {zs : List ByteArray} (h : Texts w A l zs) (hn : A = none → l = 0 ∧ c = 0) : Src w A l c 1 (zs.map Value.string) := by
  refine ⟨by rw [List.length_map, h.sz, Nat.mul_one], hn, h.at_.imp id fun ⟨b, off, e, hlt, hc⟩ => ⟨b, off, e, hlt, fun j u hu => ?_⟩, one_str zs⟩
  rw [List.getElem?_map] at hu
  obtain ⟨s, hs, rfl⟩ := Option.map_eq_some_iff.1 hu
  have hj : j < l := by rw [← h.sz]; exact (List.getElem?_eq_some_iff.1 hs).1
  rw [hc j hj, List.getD_eq_getElem?_getD, hs]; rfl

set_option maxHeartbeats 1000000 in
theorem rof_any (b off n c : Nat) (E : Nat → Ev) (Z : Nat → List ByteArray) (w : World) (hE : Evs w b off n E) (hA : ∀ j, j < n → Texts w (E j).aA (E j).lA (Z j)) (hN : ∀ j, j < n → (E j).aA = none → (E j).lA = 0 ∧ (E j).cA = 0) :
    Calls Try.prog 10 #[.slice (some ⟨b, off, none⟩) n c] w (OfPost E Z n w) := by
  have HE := Lib.hid hE
  have HA := Lib.hid hA
  have HN := Lib.hid hN
  have hbig := hE.big
  obtain ⟨i0, hi, hz0, hz1, hz2⟩ := info_parts info9
  have HI := Lib.hid (And.intro hi (And.intro hz0 (And.intro hz1 hz2)))
  clear hi hz0 hz1 hz2
  clear hE hA hN
  go_enter Try.func10, Try.ntmps10
  go_wp2
  go_loopg [4] n (fun gg s4 wr => ∃ kk : Nat, kk ≤ n ∧ n - kk ≤ gg ∧ s4 = .int .i64 kk ∧ Hid (Below w.heap.size w wr) ∧ Hid (∀ j, j < kk → (E j).kd ≠ 4))
  case atStart => exact ⟨0, Nat.zero_le _, by omega, rfl, Lib.hid (Below.refl _ w), Lib.hid (fun j hj => absurd hj (Nat.not_lt_zero _))⟩
  case round =>
    obtain ⟨kk, hkk, hg, rfl, BW, A⟩ := hrel
    by_cases hlt : kk < n
    · have hltz : (kk : Int) < (n : Int) := by omega
      have HEr := Lib.hid (HE.out.below BW.out)
      have ck := HEr.out.kd hlt
      have cn := HEr.out.num hlt
      have ca := HEr.out.alw hlt
      have HT := Lib.hid (((HA.out kk hlt).src (HN.out kk hlt)).below BW.out)
      have HTl := Lib.hid (HA.out kk hlt).le
      generalize hkd : (E kk).kd = kd at ck
      have Hkd := Lib.hid hkd
      clear hkd
      by_cases q : kd = 4
      · subst q
        go_upto_region 5 with (fail)
        generalize hnn : (E kk).n = nn at cn
        generalize haa : (E kk).aA = aA at ca HT
        generalize hla : (E kk).lA = lA at ca HT HTl
        generalize hca : (E kk).cA = cA at ca HT
        have Hnn := Lib.hid hnn; have Haa := Lib.hid haa; have Hla := Lib.hid hla
        have hle := HTl.out
        clear hnn haa hla hca ck
        generalize hzz : Z kk = zs at HT
        have Hzz := Lib.hid hzz
        clear hzz
        go_region_held3 (fun w' => w'.cell? ⟨b, off + kk * 29 + 11, none⟩ = some (.int .i64 nn) ∧ w'.cell? ⟨b, off + kk * 29 + 15, none⟩ = some (.slice aA lA cA)) (first | exact ⟨cn, ca⟩ | go_keep)
          ((refine step_append_any _ (by rfl) _ _ _ (by rfl) wr.heap.size 9 i0 _ 1 16 Try.underlying24 HI.out.1 HI.out.2.1 HI.out.2.2.1 HI.out.2.2.2 rfl (by omega) _ 0 [] (by rfl) (World.ownsRow_made wr.drew #[] 0 (Nat.le_refl _) (by omega) rfl) aA lA cA (zs.map Value.string) (by rfl) (HT.out.below (Below.drew (Below.alloc (Below.refl _ wr) (Nat.le_refl _) (.cells #[] 9)))) (by unfold maxLen; omega) (by omega) (by simp) ?_; intro v3 w3 hgr; have HX := Lib.hid (Grew.below (w0 := wr) hgr (Below.drew (Below.alloc (Below.refl _ wr) (Nat.le_refl _) (.cells #[] 9))) (World.ownsRow_made wr.drew #[] 0 (Nat.le_refl _) (by omega) rfl)); have cn2 := (HX.out.cell (p := ⟨b, off + kk * 29 + 11, none⟩) HEr.out.lt).trans cn; have ca2 := (HX.out.cell (p := ⟨b, off + kk * 29 + 15, none⟩) HEr.out.lt).trans ca; clear cn ca; have cn := cn2; have ca := ca2; clear cn2 ca2; have hown3 := hgr.own; simp only [Nat.zero_add, List.nil_append] at hown3; have HO := Lib.hid hown3; clear hown3 hgr))
        go_wp2
        go_ret2
        exact .inl ⟨kk, hlt, Hkd.out, A.out, v3, by rw [Hnn.out]; rfl, by rw [Hla.out, Hzz.out]; exact ⟨World.ownsRow.mono HO.out BW.out.size, BW.out.trans (HX.out.mono BW.out.size)⟩⟩
      · have q1 : (kd == 4) = false := by simpa using q
        have HF := Lib.hid (show (E kk).kd ≠ 4 by rw [Hkd.out]; exact q)
        clear q
        go_wp2
        go_roundg (n - (kk + 1))
        case measure => omega
        case rel =>
          refine ⟨kk + 1, by omega, by omega, by go_num, Lib.hid BW.out, Lib.hid (fun j hj => ?_)⟩
          by_cases e : j = kk
          · subst e; exact HF.out
          · exact A.out j (by omega)
    · have hltz : ¬ (kk : Int) < (n : Int) := by omega
      have : kk = n := by omega
      subst this
      go_wp2
      go_ret2
      exact .inr ⟨A.out, rfl, BW.out⟩

end Go.Proofs.Ytmgjmcpkoaacjaa
