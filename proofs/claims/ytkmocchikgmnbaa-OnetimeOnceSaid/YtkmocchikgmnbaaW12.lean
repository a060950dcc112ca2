/- One-time keys: Claim of the program. Bound: at most 900000 entries. -/
import Derived.Test.YtkmocchikgmnbaaW11
namespace Go.Proofs.Ytkmocchikgmnbaa
open Go.RowKit
set_option linter.unusedVariables false
set_option linter.unusedSimpArgs false

theorem look_x {w : World} {M n : Nat} {zs : List Rc} (h : MapR w M n zs) {u d : ByteArray} (hu : u.size ≤ 9223372036854775807) (hd : d.size ≤ 9223372036854775807) {a b : ByteArray} {nx lf : Int} (hp : lk zs u d = ⟨a, b, nx, lf⟩) :
    (Instr.lookup 52 (.map (some M)) (.agg #[.string u, .string d]) false).run Try.prog w = .ok (.agg #[.string a, .string b, .int .i64 nx, .int .i64 lf]) w := by
  rw [h.look hu hd, hp]; rfl
theorem MapR.set {w : World} {M n : Nat} {zs : List Rc} (h : MapR w M n zs) (a : Addr) (v : Value) (hne : M ≠ a.block) : MapR (w.setCell a v) M n zs := h.kept (Below.heap_setCell w a v M hne)
/-- The key that Claim gives. -/
def clK (zs : List Rc) (u d : ByteArray) : Int := if clE zs u d = 0 then (lk zs u d).nx - (lk zs u d).lf else 0
set_option maxRecDepth 100000 in
set_option maxHeartbeats 4000000 in
theorem claim_any (A : Option Addr) (n c : Nat) (zs : List Rc) (u d : ByteArray) (w : World) (h : Rcs w A n c zs) (hn : n ≤ 900000) (hu : u.size ≤ 9223372036854775807) (hd : d.size ≤ 9223372036854775807) :
    Calls Try.prog 15 #[.slice A n c, .string u, .string d] w fun e w' => ∃ A' c' ys, e = .returned (.tuple #[.slice A' ys.length c', .int .i64 (clK zs u d), .int .i64 (clE zs u d)]) ∧ OutP w (clE zs u d) (putL zs (clP zs u d)) A' c' ys w' := by
  have H := Lib.hid h
  have HL := Lib.hid h.len
  have HC := Lib.hid (check10 A n c zs w h hn)
  have HBO := Lib.hid (fun v (hb : Below w.heap.size w v) => byOwner_any A n c zs v (H.out.below hb) hn)
  clear h
  by_cases hc : chk zs n = 0
  · have HK := Lib.hid (show chk zs zs.length = 0 by rw [HL.out]; exact hc)
    have HRt := Lib.hid (right_iff.1 HK.out)
    have HDis := Lib.hid HRt.out.srt.dis
    have HPI := Lib.hid (puts_id HDis.out)
    rw [hc] at HC
    clear hc
    have hrng := lk_rng HRt.out u d
    obtain ⟨a, b, nx, lf, hp⟩ : ∃ a b nx lf, lk zs u d = ⟨a, b, nx, lf⟩ := ⟨_, _, _, _, rfl⟩
    have HLk := Lib.hid hp
    rw [hp] at hrng
    simp only at hrng
    by_cases f0 : lf = 0
    · subst f0
      have HE := Lib.hid (show clE zs u d = 5 by unfold clE; rw [if_pos HK.out, HLk.out, if_pos rfl])
      have HKy := Lib.hid (show clK zs u d = 0 by unfold clK; rw [HE.out, if_neg (by decide)])
      rw [HE.out, HKy.out]
      clear hp
      go_wp2_with (first
        | (go_at_call 10; (with_reducible refine HC.out.mono ?_); rintro e w1 ⟨rfl, hb1⟩; have B1 := Lib.hid hb1; clear hb1)
        | (go_at_call 26; (with_reducible refine (HBO.out _ B1.out).mono ?_); rintro e w3 ⟨rfl, hm3, hb3⟩; have M3 := Lib.hid (show MapR w3 w1.heap.size n zs from HPI.out ▸ hm3); have B3 := Lib.hid (B1.out.trans (hb3.mono B1.out.size)); have hlk := look_x M3.out hu hd HLk.out; have hM3 := Nat.ne_of_lt M3.out.lt; clear hm3 hb3)
        | go_in)
      go_ret3
      exact ⟨none, 0, [], rfl, outP_err (by decide) (B3.out.alloc B3.out.size _)⟩
    · have HE := Lib.hid (show clE zs u d = 0 by unfold clE; rw [if_pos HK.out, HLk.out, if_neg f0])
      have HKy := Lib.hid (show clK zs u d = nx - lf by unfold clK; rw [HE.out, if_pos rfl, HLk.out])
      have HPp := Lib.hid (show clP zs u d = ⟨u, d, nx, lf - 1⟩ by unfold clP; rw [HLk.out])
      rw [HE.out, HKy.out, HPp.out]
      obtain ⟨rfl, rfl⟩ : a = u ∧ b = d := by
        rcases lk_ok HRt.out u d with ⟨e, _⟩ | ⟨_, e⟩
        · rw [hp] at e
          exact absurd (congrArg Rc.lf e) f0
        · rw [hp] at e
          exact dev_iff.1 e
      have fb : (lf == 0) = false := by simpa using f0
      have e1 : IntKind.i64.wrap (lf - 1) = lf - 1 := IntWalk.i64_in _ (by omega)
      have e2 : IntKind.i64.wrap (nx - lf) = nx - lf := IntWalk.i64_in _ (by omega)
      clear hp
      go_wp2_with (first
        | (go_at_call 10; (with_reducible refine HC.out.mono ?_); rintro e w1 ⟨rfl, hb1⟩; have B1 := Lib.hid hb1; clear hb1)
        | (go_at_call 26; (with_reducible refine (HBO.out _ B1.out).mono ?_); rintro e w3 ⟨rfl, hm3, hb3⟩; have M3 := Lib.hid (show MapR w3 w1.heap.size n zs from HPI.out ▸ hm3); have B3 := Lib.hid (B1.out.trans (hb3.mono B1.out.size)); have hlk := look_x M3.out hu hd HLk.out; have hM3 := Nat.ne_of_lt M3.out.lt; clear hm3 hb3)
        | (at_mapUpdate; refine wpList_putR rfl _ _ _ rfl w1.heap.size n zs rfl (by first | exact M3.out.alloc _ | exact (M3.out.alloc _).set _ _ hM3) (by omega) ⟨a, b, nx, lf - 1⟩ ⟨hu, hd⟩ rfl rfl ?_; intro w4 hm4 hg4; have M4 := Lib.hid hm4; have B4 := Lib.hid (below_put (by first | exact B3.out.alloc B3.out.size _ | exact (B3.out.alloc B3.out.size _).setCell B3.out.size _) hg4 B1.out.size); clear hm4 hg4 hlk)
        | (go_at_call 27; (with_reducible refine (sorted_any w1.heap.size (n + 1) _ w4 M4.out (HDis.out.put _) (putL_ne _ _) (by omega)).mono ?_); rintro e w5 ⟨A5, c5, ys, rfl, hr5, hp5, hs5, hb5, hn5⟩)
        | go_in)
      go_ret3
      exact ⟨A5, c5, ys, rfl, outP_ok hr5 hp5 hs5 B4.out hb5 hn5⟩
  · have HE := Lib.hid (show clE zs u d = chk zs n by unfold clE; rw [HL.out, if_neg hc])
    have HKy := Lib.hid (show clK zs u d = 0 by unfold clK; rw [HE.out, if_neg hc])
    have HNc := Lib.hid hc
    rw [HE.out, HKy.out]
    have hcb : (chk zs n != 0) = true := by simpa using hc
    generalize chk zs n = r at HC HNc hcb ⊢
    clear hc
    go_wp2_with (first
        | (go_at_call 10; (with_reducible refine HC.out.mono ?_); rintro e w1 ⟨rfl, hb1⟩; have B1 := Lib.hid hb1; clear hb1)
        | go_in)
    go_ret3
    exact ⟨none, 0, [], rfl, outP_err HNc.out B1.out⟩
end Go.Proofs.Ytkmocchikgmnbaa
