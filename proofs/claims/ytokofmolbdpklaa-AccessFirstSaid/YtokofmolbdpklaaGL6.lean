/- The walk of Match. Condition: the text has at most 2 to the 62nd bytes. -/
import Derived.Test.YtokofmolbdpklaaGL5
import Derived.Deep.QuietTactic
import Derived.BigQuiet
namespace Go.Proofs.Ytokofmolbdpklaa.GL
open Go.RowKit
set_option linter.unusedVariables false

theorem below_dn {B : Nat} {w w1 : World} (h : Below B w w1) (n : Nat) : Below B w (w1.drewN n) := ⟨h.os, h.tape, h.output, h.size, h.block⟩
theorem Byt.drewN {w : World} {a : Option Addr} {l : Nat} {zs : List Int} (h : Byt w a l zs) (n : Nat) : Byt (w.drewN n) a l zs := h
/-- What Match returns. -/
def gm (p s : List Int) : Bool := chk p == 0 && G.mt p s

theorem loop_snoc (x : List Int) : ∀ (ps : List (List Int)) (s : List Int), G.loop (ps ++ [x]) s = match G.loop ps s with | none => none | some r => G.loop [x] r
  | [], s => rfl
  | y :: ps, s => by
    rw [List.cons_append, G.loop, G.loop]
    cases G.find y s with
    | none => rfl
    | some k => exact loop_snoc x ps _
theorem loop_app : ∀ (ps qs : List (List Int)) (s : List Int), G.loop (ps ++ qs) s = match G.loop ps s with | none => none | some r => G.loop qs r
  | [], qs, s => rfl
  | y :: ps, qs, s => by
    rw [List.cons_append, G.loop, G.loop]
    cases G.find y s with
    | none => rfl
    | some k => exact loop_app ps qs _
theorem fi_cases (x t : List Int) : (fi x t = -1 ∧ G.find x t = none) ∨ ∃ k : Nat, fi x t = k ∧ G.find x t = some k ∧ k + x.length ≤ t.length := by
  unfold fi
  cases hf : G.find x t with
  | none => exact .inl ⟨rfl, rfl⟩
  | some k =>
    obtain ⟨_, h2, h3, _⟩ := G.fnd_some x t _ 0 k hf
    have := G.beg_len _ _ h3
    rw [List.length_drop] at this
    exact .inr ⟨k, rfl, rfl, by omega⟩
theorem loop_step {ps : List (List Int)} {k : Nat} {s r : List Int} (hk : k < ps.length) (h : G.loop (ps.take k) s = some r) :
    (G.find (ps.getD k []) r = none → G.loop ps s = none) ∧ (∀ m, G.find (ps.getD k []) r = some m → G.loop (ps.take (k + 1)) s = some (r.drop (m + (ps.getD k []).length))) := by
  have e : ps.getD k [] = ps[k] := by rw [List.getD_eq_getElem?_getD, List.getElem?_eq_getElem hk]; rfl
  have e2 : ps = ps.take k ++ (ps[k] :: ps.drop (k + 1)) := by rw [← List.drop_eq_getElem_cons hk, List.take_append_drop]
  constructor
  · intro hn
    rw [e2, loop_app, h]
    show G.loop (ps[k] :: _) r = none
    rw [G.loop, ← e, hn]
  · intro m hm
    rw [List.take_succ_eq_append_getElem hk, loop_snoc, h]
    show G.loop [ps[k]] r = _
    rw [G.loop, ← e, hm]
    rfl

set_option maxHeartbeats 1600000 in
theorem match_any (p s : ByteArray) (hp : p.size ≤ 9223372036854775807) (hs : s.size ≤ 4611686018427387903) (w : World) :
    Calls Try.prog 33 #[.string p, .string s] w fun e w' => e = .returned (.bool (gm (bys p) (bys s))) ∧ Below w.heap.size w w' := by
  have c1 := check_any p hp
  by_cases h0 : chk (bys p) = 0
  · rw [h0] at c1
    have C1 := Lib.hid c1
    have HG : Hid (gm (bys p) (bys s) = G.mt (bys p) (bys s)) := Lib.hid (by unfold gm; rw [h0]; rfl)
    obtain ⟨k1, k2, k3⟩ := chk_ok h0
    rw [bys_len] at k1 k2
    clear c1 h0 k1
    go_enter Try.func33, Try.ntmps33
    go_wp2_with (first
      | (go_at_call 35; refine (C1.out _).mono ?_; rintro e w' ⟨rfl, rfl⟩)
      | ((with_reducible refine wpList_bytes rfl rfl p ?_ ?_ ?_); (rfl); (exact hp); intro A1 c1 w1 hc1 hB1 hw1))
    refine (cut_any A1 p.size c1 (bys p) w1 hB1 hc1 k2).mono ?_
    rintro e w3 ⟨ps, last, g, c, rfl, hwh, hps, hlast, hpl, hgc, hg1, hg2, hcell, hw3⟩
    have HW := Lib.hid hwh
    have HP := Lib.hid hps
    have HLs := Lib.hid hlast
    have HC := Lib.hid hcell
    have Hw := Lib.hid (hw1.trans (hw3.mono hw1.size))
    rw [bys_len] at hpl
    have HB1 := Lib.hid hB1
    have Hw3 := Lib.hid hw3
    clear hwh hps hlast hcell hw1 hw3 hB1 k3 C1
    rcases ps with _ | ⟨x, ps⟩
    · simp only [List.length_nil, Nat.zero_add]
      obtain ⟨a0, l0, d0, hcell0, hb0⟩ := HC.out 0 (by simp)
      have hb0 : Byt w1 a0 l0 last := hb0
      have HL0 := Lib.hid hb0.1
      have HF0 : Hid (gm (bys p) (bys s) = ((bys s).length == last.length && G.beg last (bys s))) := Lib.hid (by rw [HG.out, HW.out, G.mt_lone _ HLs.out])
      have HB0 := Lib.hid hb0
      have HC0 := Lib.hid hcell0
      clear hb0 hcell0
      by_cases hsz : s.size = l0
      · have e1 : ((s.size : Int) == (l0 : Int)) = true := beq_iff_eq.2 (by omega)
        have HF : Hid (gm (bys p) (bys s) = G.beg last (bys s)) := Lib.hid (by rw [HF0.out, bys_len, HL0.out, hsz]; simp)
        have HZ := Lib.hid hsz
        clear hsz
        go_wp2_with (first
          | ((with_reducible refine wpList_bytes rfl rfl s ?_ ?_ ?_); (rfl); (omega); intro A2 c2 w4 hc2 hB2 hw4; have hcc := (hw4.cell (p := ⟨g, 0, none⟩) hg2).trans HC0.out; have HB2 := Lib.hid hB2; have Hw4 := Lib.hid hw4; clear hB2 hw4)
          | (go_at_call 37; refine (begins_any _ _ _ _ _ _ _ _ _ HB2.out (HB0.out.below (Hw3.out.trans (Hw4.out.mono Hw3.out.size)))).mono ?_; rintro e w' ⟨rfl, rfl⟩))
        go_ret
        exact ⟨ret_bool HF.out.symm, Hw.out.trans (Hw4.out.mono Hw.out.size)⟩
      · have e1 : ((s.size : Int) == (l0 : Int)) = false := beq_eq_false_iff_ne.2 (by omega)
        have HF : Hid (gm (bys p) (bys s) = false) := Lib.hid (by rw [HF0.out, bys_len, HL0.out, beq_eq_false_iff_ne.2 hsz]; rfl)
        have HZ := Lib.hid hsz
        clear hsz
        go_wp2_with (first
          | ((with_reducible refine wpList_bytes rfl rfl s ?_ ?_ ?_); (rfl); (omega); intro A2 c2 w4 hc2 hB2 hw4; have hcc := (hw4.cell (p := ⟨g, 0, none⟩) hg2).trans HC0.out; have HB2 := Lib.hid hB2; have Hw4 := Lib.hid hw4; clear hB2 hw4))
        go_ret
        exact ⟨ret_bool HF.out.symm, Hw.out.trans (Hw4.out.mono Hw.out.size)⟩
    · simp only [List.length_cons] at hpl hgc ⊢
      obtain ⟨a0, l0, d0, hcell0, hb0⟩ := HC.out 0 (by simp)
      have hb0 : Byt w1 a0 l0 x := hb0
      obtain ⟨a9, l9, d9, hcell9, hb9⟩ := HC.out (ps.length + 1) (by simp)
      have hb9 : Byt w1 a9 l9 last := by simpa using hb9
      have HC9 := Lib.hid hcell9
      have HB9 := Lib.hid hb9
      clear hcell9 hb9
      have HF0 : Hid (gm (bys p) (bys s) = (G.beg x (bys s) && G.tailB last (G.loop ps ((bys s).drop x.length)))) :=
        Lib.hid (by rw [HG.out, HW.out, G.mt_whole x ps last (HP.out x (by simp)) (fun y hy => HP.out y (by simp [hy])) HLs.out])
      have hl0 : x.length = l0 := hb0.1
      have HL0 := Lib.hid hl0
      have HB0 := Lib.hid hb0
      have HC0 := Lib.hid hcell0
      have hc1' : ¬ c = 1 := by omega
      have e0 : ((ps.length : Int) + 1 == 0) = false := beq_eq_false_iff_ne.2 (by omega)
      cases hbeg : G.beg x (bys s)
      · have HBG := Lib.hid hbeg
        have HF2 : Hid (gm (bys p) (bys s) = false) := Lib.hid (by rw [HF0.out, hbeg]; rfl)
        clear hb0 hcell0 hl0 hbeg
        go_wp2_with (first
          | ((with_reducible refine wpList_bytes rfl rfl s ?_ ?_ ?_); (rfl); (omega); intro A2 c2 w4 hc2 hB2 hw4; have hcc := (hw4.cell (p := ⟨g, 0, none⟩) hg2).trans HC0.out; have HB2 := Lib.hid hB2; have Hw4 := Lib.hid hw4; clear hB2 hw4)
          | (go_at_call 37; refine (begins_any _ _ _ _ _ _ _ _ _ HB2.out (HB0.out.below (Hw3.out.trans (Hw4.out.mono Hw3.out.size)))).mono ?_; rw [HBG.out]; rintro e w' ⟨rfl, rfl⟩))
        go_ret
        exact ⟨ret_bool HF2.out.symm, Hw.out.trans (Hw4.out.mono Hw.out.size)⟩
      · have HF1 : Hid (gm (bys p) (bys s) = G.tailB last (G.loop ps ((bys s).drop l0))) := Lib.hid (by rw [HF0.out, HL0.out, hbeg]; rfl)
        have hlx := G.beg_len _ _ hbeg
        rw [bys_len, hl0] at hlx
        have HBG := Lib.hid hbeg
        clear hb0 hcell0 hl0 hbeg
        go_wp2_with (first
          | ((with_reducible refine wpList_bytes rfl rfl s ?_ ?_ ?_); (rfl); (omega); intro A2 c2 w4 hc2 hB2 hw4; have hcc := (hw4.cell (p := ⟨g, 0, none⟩) hg2).trans HC0.out; have HB2 := Lib.hid hB2; have Hw4 := Lib.hid hw4; clear hB2 hw4)
          | (go_at_call 37; refine (begins_any _ _ _ _ _ _ _ _ _ HB2.out (HB0.out.below (Hw3.out.trans (Hw4.out.mono Hw3.out.size)))).mono ?_; rw [HBG.out]; rintro e w' ⟨rfl, rfl⟩)
          | ((with_reducible refine wpList_from rfl rfl A2 s.size c2 (bys s) (l0 : Int) l0 ?_ ?_ rfl HB2.out hlx hc2 ?_); (rfl); (rfl); intro A3 hB3; have HB3 := Lib.hid hB3; clear hB3))
        clear hcc
        have HCW : Hid (∀ i, i < ps.length + 1 → ∃ a l c, w4.cell? ⟨g, i + 1, none⟩ = some (.slice a l c) ∧ Byt w4 a l ((ps ++ [last]).getD i [])) := Lib.hid (fun i hi => by
          obtain ⟨a, l, c, h1, h2⟩ := HC.out (i + 1) (by simp; omega)
          exact ⟨a, l, c, (Hw4.out.cell (p := ⟨g, i + 1, none⟩) hg2).trans h1, (by simpa using h2 : Byt w1 a l ((ps ++ [last]).getD i [])).below (Hw3.out.trans (Hw4.out.mono Hw3.out.size))⟩)
        have hwend := Lib.hid (Hw.out.trans (Hw4.out.mono Hw.out.size))
        go_loop [6, 9, 10, 55] (fun v _ _ i => ∃ (k n c' : Nat) (A : Option Addr) (r : List Int), k ≤ ps.length ∧ i = .int .i64 k ∧ v = .slice A n c' ∧ n ≤ c' ∧ n ≤ s.size ∧ Hid (Byt w4 A n r) ∧ Hid (G.loop (ps.take k) ((bys s).drop l0) = some r)) (fun _ _ _ i => ps.length - (intOf i).toNat)
        case atStart => exact ⟨0, s.size - l0, c2 - l0, A3, _, by omega, rfl, rfl, by omega, by omega, HB3, Lib.hid (by rw [List.take_zero]; rfl)⟩
        case round =>
          obtain ⟨k, n, c', A, r, hk, rfl, rfl, hnc, hns, HBr, HLp⟩ := hrel
          by_cases hlt : k < ps.length
          · obtain ⟨ak, lk, dk, hck, hbk⟩ := HCW.out k (by omega)
            have hbk : Byt w4 ak lk (ps.getD k []) := by
              rw [List.getD_eq_getElem?_getD, List.getElem?_append_left hlt, ← List.getD_eq_getElem?_getD] at hbk; exact hbk
            have hck : w4.cell? ⟨g, 1 + k, none⟩ = some (.slice ak lk dk) := by rw [Nat.add_comm]; exact hck
            have hlk : (ps.getD k []).length = lk := hbk.1
            have hrn : r.length = n := HBr.out.1
            have hf := find_any A ak n c' lk dk r (ps.getD k []) w4 HBr.out hbk hnc (by omega)
            have HS := Lib.hid (loop_step hlt HLp.out)
            rcases fi_cases (ps.getD k []) r with ⟨h1, h2⟩ | ⟨m, h1, h2, h3⟩
            · rw [h1] at hf
              have Hf := Lib.hid hf
              have HFF : Hid (gm (bys p) (bys s) = false) := Lib.hid (by rw [HF1.out, HS.out.1 h2]; rfl)
              clear hf hlk hrn h1 h2 hbk
              go_wp2_with (go_at_call 38; refine Hf.out.mono ?_; rintro e w' ⟨rfl, rfl⟩)
              go_ret
              exact ⟨ret_bool HFF.out.symm, hwend.out⟩
            · rw [h1] at hf
              rw [hlk, hrn] at h3
              have HST : Hid (G.loop (ps.take (k + 1)) ((bys s).drop l0) = some (r.drop (m + lk))) := Lib.hid (by rw [HS.out.2 m h2, hlk])
              have Hf := Lib.hid hf
              clear hf hlk hrn h1 h2 hbk
              go_wp2_with (first
                | (go_at_call 38; refine Hf.out.mono ?_; rintro e w' ⟨rfl, rfl⟩)
                | ((with_reducible refine wpList_from rfl rfl A n c' r ((m : Int) + (lk : Int)) (m + lk) ?_ ?_ (by omega) HBr.out (by omega) hnc ?_); (rfl); (rfl); intro A5 hB5; have HB5 := Lib.hid hB5; clear hB5))
              go_round
              case rel => exact ⟨k + 1, n - (m + lk), c' - (m + lk), A5, _, by omega, by go_num, rfl, by omega, by omega, HB5, HST⟩
              case measure => simp [intOf]; omega
          · obtain ⟨ae, le, de, hce, hbe⟩ := HCW.out ps.length (by omega)
            have hbe : Byt w4 ae le last := by simpa using hbe
            have hle : last.length = le := hbe.1
            have hleb : le ≤ 9223372036854775807 := hbe.2.2.1
            have hrn : r.length = n := HBr.out.1
            have HFL : Hid (gm (bys p) (bys s) = G.atEnd last r) := Lib.hid (by rw [HF1.out]; rw [show G.loop ps ((bys s).drop l0) = some r by rw [← HLp.out, List.take_of_length_le (by omega)]]; rfl)
            have HBe := Lib.hid hbe
            rcases Nat.lt_or_ge n le with hnl | hnl
            · have HFF : Hid (gm (bys p) (bys s) = false) := Lib.hid (by rw [HFL.out, G.atEnd, hle, hrn, decide_eq_false (by omega)]; rfl)
              have g1 : decide ((0 : Int) ≤ (n : Int) - (le : Int)) = false := by simp; omega
              have g2 : decide ((le : Int) ≤ (n : Int)) = false := by simp; omega
              have g3 : decide (le ≤ n) = false := by simp; omega
              clear hle hrn hbe
              go_wp2
              go_quiet (fail)
              go_wp2
              go_ret
              exact ⟨ret_bool HFF.out.symm, below_dn hwend.out _⟩
            · obtain ⟨d, rfl⟩ : ∃ d, n = d + le := ⟨n - le, by omega⟩
              have hd : Byt w4 (Option.map (fun x => x.add d) A) le (r.drop d) := by
                have := HBr.out.drop d (by omega)
                rwa [show d + le - d = le by omega] at this
              have HFF : Hid (gm (bys p) (bys s) = G.beg last (r.drop d)) := Lib.hid (by rw [HFL.out, G.atEnd, hle, hrn, decide_eq_true (by omega), show d + le - le = d by omega]; rfl)
              have HD := Lib.hid hd
              have g1 : decide ((0 : Int) ≤ (d : Int)) = true := by simp
              have q1 : (0 : Int) ≤ (d : Int) := by omega
              have q2 : (d : Int) ≤ ((d + le : Nat) : Int) := by omega
              have q3 : (d : Int) ≤ (d : Int) + (le : Int) := by omega
              have q5 : d ≤ d + le := by omega
              have r1 : (0 : Int) ≤ (ps.length : Int) + 1 := by omega
              have r2 : (ps.length : Int) + 1 < (ps.length : Int) + 1 + 1 := by omega
              have r3 : ((ps.length : Int) + 1).toNat = ps.length + 1 := by omega
              clear hle hrn hbe hd
              have hce : w4.cell? ⟨g, ps.length + 1, none⟩ = some (.slice ae le de) := hce
              rcases Nat.lt_or_ge d c' with hdc | hdc
              · have hdc2 : ¬ c' = d := by omega
                go_wp2
                go_quiet ((go_at_call 37; refine (begins_any _ _ _ _ _ _ _ _ _ (HD.out.drewN _) (HBe.out.drewN _)).mono ?_; rintro e w' ⟨rfl, rfl⟩; exact ⟨rfl, _, rfl⟩))
                go_wp2
                go_ret
                exact ⟨ret_bool HFF.out.symm, below_dn hwend.out _⟩
              · obtain rfl : le = 0 := by omega
                obtain rfl : c' = d := by omega
                have HD2 : Hid (Byt w4 A 0 (r.drop c')) := Lib.hid ⟨HD.out.1, HD.out.2.1, by omega, by omega⟩
                go_wp2
                go_quiet ((go_at_call 37; refine (begins_any _ _ _ _ _ _ _ _ _ (HD2.out.drewN _) (HBe.out.drewN _)).mono ?_; rintro e w' ⟨rfl, rfl⟩; exact ⟨rfl, _, rfl⟩))
                go_wp2
                go_ret
                exact ⟨ret_bool HFF.out.symm, below_dn hwend.out _⟩
  · have HF : Hid (gm (bys p) (bys s) = false) := Lib.hid (by unfold gm; rw [beq_eq_false_iff_ne.2 h0]; rfl)
    have e1 : (chk (bys p) != 0) = true := by rw [bne_iff_ne]; exact h0
    clear h0
    generalize chk (bys p) = c at *
    have C1 := Lib.hid c1
    clear c1
    go_enter Try.func33, Try.ntmps33
    go_wp2_with (go_at_call 35; refine (C1.out _).mono ?_; rintro e w' ⟨rfl, rfl⟩)
    go_ret
    exact ⟨ret_bool HF.out.symm, Below.refl _ _⟩
end Go.Proofs.Ytokofmolbdpklaa.GL
