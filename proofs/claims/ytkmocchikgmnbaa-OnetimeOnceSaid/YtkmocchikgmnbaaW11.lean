/- One-time keys: Upload and Claim of the program. Bound: at most 900000 entries. -/
import Derived.Test.YtkmocchikgmnbaaW10
namespace Go.Proofs.Ytkmocchikgmnbaa
open Go.RowKit
set_option linter.unusedVariables false
set_option linter.unusedSimpArgs false

theorem look_as {w : World} {M n : Nat} {zs : List Rc} (h : MapR w M n zs) {u d : ByteArray} (hu : u.size ≤ 9223372036854775807) (hd : d.size ≤ 9223372036854775807) {p : Rc} (hp : lk zs u d = p) :
    (Instr.lookup 52 (.map (some M)) (.agg #[.string u, .string d]) false).run Try.prog w = .ok (.agg #[.string p.us, .string p.dv, .int .i64 p.nx, .int .i64 p.lf]) w := by
  rw [h.look hu hd, hp]; rfl
set_option maxRecDepth 100000 in
set_option maxHeartbeats 4000000 in
theorem upload_any (A : Option Addr) (n c : Nat) (zs : List Rc) (u d : ByteArray) (k : Int) (w : World) (h : Rcs w A n c zs) (hn : n ≤ 900000) (hu : u.size ≤ 9223372036854775807) (hd : d.size ≤ 9223372036854775807) :
    Calls Try.prog 12 #[.slice A n c, .string u, .string d, .int .i64 k] w fun e w' => ∃ A' c' ys, e = .returned (.tuple #[.slice A' ys.length c', .int .i64 (upE zs u d k)]) ∧ OutP w (upE zs u d k) (putL zs (upP zs u d k)) A' c' ys w' := by
  have H := Lib.hid h
  have HL := Lib.hid h.len
  have HC := Lib.hid (check10 A n c zs w h hn)
  have HV := Lib.hid (fun u' => valid_any u d hu hd u')
  have HBO := Lib.hid (fun v (hb : Below w.heap.size w v) => byOwner_any A n c zs v (H.out.below hb) hn)
  clear h
  by_cases hc : chk zs n = 0
  · have HK := Lib.hid (show chk zs zs.length = 0 by rw [HL.out]; exact hc)
    have HRt := Lib.hid (right_iff.1 HK.out)
    have HDis := Lib.hid HRt.out.srt.dis
    have HPI := Lib.hid (puts_id HDis.out)
    rw [hc] at HC
    clear hc
    cases hok : okO u d
    · have HT := Lib.hid hok
      rw [hok] at HV
      clear hok
      have HE := Lib.hid (show upE zs u d k = 3 by unfold upE; rw [if_pos HK.out, if_neg (by rw [HT.out]; decide)])
      rw [HE.out]
      go_wp2_with (first
              | (go_at_call 10; (with_reducible refine HC.out.mono ?_); rintro e w1 ⟨rfl, hb1⟩; have B1 := Lib.hid hb1; have X1 := Lib.hid (blk_new w1 [.string u, .string d] 47); have BA1 := Lib.hid (hb1.alloc hb1.size (.cells #[.string u, .string d] 47)); clear hb1)
              | (go_at_call 22; (with_reducible refine (HV.out _).mono ?_); rintro e w2 ⟨rfl, hb2⟩; have B2 := Lib.hid (BA1.out.trans (hb2.mono BA1.out.size)); have X2 := Lib.hid (X1.out.below hb2); have k0 := X2.out.cell (i := 0) rfl; have k1 := X2.out.cell (i := 1) rfl; clear hb2)
              | go_in)
      go_ret2
      exact ⟨none, 0, [], rfl, outP_err (by decide) B2.out⟩
    · have HT := Lib.hid hok
      rw [hok] at HV
      clear hok
      by_cases k1_ : k < 1
      · 
        have HE := Lib.hid (show upE zs u d k = 2 by unfold upE; rw [if_pos HK.out, if_pos HT.out, if_pos (.inl k1_)])
        rw [HE.out]
        go_wp2_with (first
                | (go_at_call 10; (with_reducible refine HC.out.mono ?_); rintro e w1 ⟨rfl, hb1⟩; have B1 := Lib.hid hb1; have X1 := Lib.hid (blk_new w1 [.string u, .string d] 47); have BA1 := Lib.hid (hb1.alloc hb1.size (.cells #[.string u, .string d] 47)); clear hb1)
                | (go_at_call 22; (with_reducible refine (HV.out _).mono ?_); rintro e w2 ⟨rfl, hb2⟩; have B2 := Lib.hid (BA1.out.trans (hb2.mono BA1.out.size)); have X2 := Lib.hid (X1.out.below hb2); have k0 := X2.out.cell (i := 0) rfl; have k1 := X2.out.cell (i := 1) rfl; clear hb2)
                | go_in)
        go_ret2
        exact ⟨none, 0, [], rfl, outP_err (by decide) B2.out⟩
      · by_cases k2_ : 100 < k
        · 
          have HE := Lib.hid (show upE zs u d k = 2 by unfold upE; rw [if_pos HK.out, if_pos HT.out, if_pos (.inr k2_)])
          rw [HE.out]
          go_wp2_with (first
                  | (go_at_call 10; (with_reducible refine HC.out.mono ?_); rintro e w1 ⟨rfl, hb1⟩; have B1 := Lib.hid hb1; have X1 := Lib.hid (blk_new w1 [.string u, .string d] 47); have BA1 := Lib.hid (hb1.alloc hb1.size (.cells #[.string u, .string d] 47)); clear hb1)
                  | (go_at_call 22; (with_reducible refine (HV.out _).mono ?_); rintro e w2 ⟨rfl, hb2⟩; have B2 := Lib.hid (BA1.out.trans (hb2.mono BA1.out.size)); have X2 := Lib.hid (X1.out.below hb2); have k0 := X2.out.cell (i := 0) rfl; have k1 := X2.out.cell (i := 1) rfl; clear hb2)
                  | go_in)
          go_ret2
          exact ⟨none, 0, [], rfl, outP_err (by decide) B2.out⟩
        · have hkr : 1 ≤ k ∧ k ≤ 100 := by omega
          have HKR := Lib.hid (show ¬ (k < 1 ∨ 100 < k) by omega)
          have hrng := lk_rng HRt.out u d
          obtain ⟨p, hp⟩ : ∃ p, lk zs u d = p := ⟨_, rfl⟩
          have HLk := Lib.hid hp
          rw [hp] at hrng
          have e1 : IntKind.i64.wrap (p.lf + k) = p.lf + k := IntWalk.i64_in _ (by omega)
          have e2 : IntKind.i64.wrap (p.nx + k) = p.nx + k := IntWalk.i64_in _ (by omega)
          by_cases f1 : 200 < p.lf + k
          · 
            have HE := Lib.hid (show upE zs u d k = 29 by unfold upE; rw [if_pos HK.out, if_pos HT.out, if_neg HKR.out, HLk.out, if_pos (.inl f1)])
            rw [HE.out]
            go_wp2_with (first
                    | (go_at_call 10; (with_reducible refine HC.out.mono ?_); rintro e w1 ⟨rfl, hb1⟩; have B1 := Lib.hid hb1; have X1 := Lib.hid (blk_new w1 [.string u, .string d] 47); have BA1 := Lib.hid (hb1.alloc hb1.size (.cells #[.string u, .string d] 47)); clear hb1)
                    | (go_at_call 22; (with_reducible refine (HV.out _).mono ?_); rintro e w2 ⟨rfl, hb2⟩; have B2 := Lib.hid (BA1.out.trans (hb2.mono BA1.out.size)); have X2 := Lib.hid (X1.out.below hb2); have k0 := X2.out.cell (i := 0) rfl; have k1 := X2.out.cell (i := 1) rfl; clear hb2)
                    | (go_at_call 26; (with_reducible refine (HBO.out _ B2.out).mono ?_); rintro e w3 ⟨rfl, hm3, hb3⟩; have M3 := Lib.hid (show MapR w3 w2.heap.size n zs from HPI.out ▸ hm3); have B3 := Lib.hid (B2.out.trans (hb3.mono B2.out.size)); have X3 := Lib.hid (X2.out.below hb3); clear k0 k1; have k0 := X3.out.cell (i := 0) rfl; have k1 := X3.out.cell (i := 1) rfl; have q0 := (X3.out.alloc (.cells #[.string p.us, .string p.dv, .int .i64 p.nx, .int .i64 p.lf] 45)).cell (i := 0) rfl; have q1 := (X3.out.alloc (.cells #[.string p.us, .string p.dv, .int .i64 p.nx, .int .i64 p.lf] 45)).cell (i := 1) rfl; have hlk := look_as M3.out hu hd HLk.out; clear hm3 hb3)
                    | go_in)
            go_ret2
            exact ⟨none, 0, [], rfl, outP_err (by decide) (B3.out.alloc B3.out.size _)⟩
          · by_cases f2 : 1000000000000 < p.nx + k
            · 
              have HE := Lib.hid (show upE zs u d k = 29 by unfold upE; rw [if_pos HK.out, if_pos HT.out, if_neg HKR.out, HLk.out, if_pos (.inr f2)])
              rw [HE.out]
              go_wp2_with (first
                      | (go_at_call 10; (with_reducible refine HC.out.mono ?_); rintro e w1 ⟨rfl, hb1⟩; have B1 := Lib.hid hb1; have X1 := Lib.hid (blk_new w1 [.string u, .string d] 47); have BA1 := Lib.hid (hb1.alloc hb1.size (.cells #[.string u, .string d] 47)); clear hb1)
                      | (go_at_call 22; (with_reducible refine (HV.out _).mono ?_); rintro e w2 ⟨rfl, hb2⟩; have B2 := Lib.hid (BA1.out.trans (hb2.mono BA1.out.size)); have X2 := Lib.hid (X1.out.below hb2); have k0 := X2.out.cell (i := 0) rfl; have k1 := X2.out.cell (i := 1) rfl; clear hb2)
                      | (go_at_call 26; (with_reducible refine (HBO.out _ B2.out).mono ?_); rintro e w3 ⟨rfl, hm3, hb3⟩; have M3 := Lib.hid (show MapR w3 w2.heap.size n zs from HPI.out ▸ hm3); have B3 := Lib.hid (B2.out.trans (hb3.mono B2.out.size)); have X3 := Lib.hid (X2.out.below hb3); clear k0 k1; have k0 := X3.out.cell (i := 0) rfl; have k1 := X3.out.cell (i := 1) rfl; have q0 := (X3.out.alloc (.cells #[.string p.us, .string p.dv, .int .i64 p.nx, .int .i64 p.lf] 45)).cell (i := 0) rfl; have q1 := (X3.out.alloc (.cells #[.string p.us, .string p.dv, .int .i64 p.nx, .int .i64 p.lf] 45)).cell (i := 1) rfl; have hlk := look_as M3.out hu hd HLk.out; clear hm3 hb3)
                      | go_in)
              go_ret2
              exact ⟨none, 0, [], rfl, outP_err (by decide) (B3.out.alloc B3.out.size _)⟩
            · have HE := Lib.hid (show upE zs u d k = 0 by unfold upE; rw [if_pos HK.out, if_pos HT.out, if_neg HKR.out, HLk.out, if_neg (by omega)])
              have HPp := Lib.hid (show upP zs u d k = ⟨u, d, p.nx + k, p.lf + k⟩ by unfold upP; rw [HLk.out])
              rw [HE.out, HPp.out]
              clear hp
              go_wp2_with (first
                      | (go_at_call 10; (with_reducible refine HC.out.mono ?_); rintro e w1 ⟨rfl, hb1⟩; have B1 := Lib.hid hb1; have X1 := Lib.hid (blk_new w1 [.string u, .string d] 47); have BA1 := Lib.hid (hb1.alloc hb1.size (.cells #[.string u, .string d] 47)); clear hb1)
                      | (go_at_call 22; (with_reducible refine (HV.out _).mono ?_); rintro e w2 ⟨rfl, hb2⟩; have B2 := Lib.hid (BA1.out.trans (hb2.mono BA1.out.size)); have X2 := Lib.hid (X1.out.below hb2); have k0 := X2.out.cell (i := 0) rfl; have k1 := X2.out.cell (i := 1) rfl; clear hb2)
                      | (go_at_call 26; (with_reducible refine (HBO.out _ B2.out).mono ?_); rintro e w3 ⟨rfl, hm3, hb3⟩; have M3 := Lib.hid (show MapR w3 w2.heap.size n zs from HPI.out ▸ hm3); have B3 := Lib.hid (B2.out.trans (hb3.mono B2.out.size)); have X3 := Lib.hid (X2.out.below hb3); clear k0 k1; have k0 := X3.out.cell (i := 0) rfl; have k1 := X3.out.cell (i := 1) rfl; have q0 := (X3.out.alloc (.cells #[.string p.us, .string p.dv, .int .i64 p.nx, .int .i64 p.lf] 45)).cell (i := 0) rfl; have q1 := (X3.out.alloc (.cells #[.string p.us, .string p.dv, .int .i64 p.nx, .int .i64 p.lf] 45)).cell (i := 1) rfl; have hlk := look_as M3.out hu hd HLk.out; clear hm3 hb3)
                      | (at_mapUpdate; refine wpList_putR rfl _ _ _ rfl w2.heap.size n zs rfl (M3.out.alloc _) (by omega) ⟨u, d, p.nx + k, p.lf + k⟩ ⟨hu, hd⟩ rfl rfl ?_; intro w4 hm4 hg4; have M4 := Lib.hid hm4; have B4 := Lib.hid (below_put (B3.out.alloc B3.out.size _) hg4 B2.out.size); clear hm4 hg4 k0 k1 q0 q1 hlk)
                      | (go_at_call 27; (with_reducible refine (sorted_any w2.heap.size (n + 1) _ w4 M4.out (HDis.out.put _) (putL_ne _ _) (by omega)).mono ?_); rintro e w5 ⟨A5, c5, ys, rfl, hr5, hp5, hs5, hb5, hn5⟩)
                      | go_in)
              go_ret2
              exact ⟨A5, c5, ys, rfl, outP_ok hr5 hp5 hs5 B4.out hb5 hn5⟩
  · have HE := Lib.hid (show upE zs u d k = chk zs n by unfold upE; rw [HL.out, if_neg hc])
    have HNc := Lib.hid hc
    rw [HE.out]
    have hcb : (chk zs n != 0) = true := by simpa using hc
    generalize chk zs n = r at HC HNc hcb ⊢
    clear hc
    go_wp2_with (first
        | (go_at_call 10; (with_reducible refine HC.out.mono ?_); rintro e w1 ⟨rfl, hb1⟩; have B1 := Lib.hid hb1; have X1 := Lib.hid (blk_new w1 [.string u, .string d] 47); have BA1 := Lib.hid (hb1.alloc hb1.size (.cells #[.string u, .string d] 47)); clear hb1)
        | go_in)
    go_ret2
    exact ⟨none, 0, [], rfl, outP_err HNc.out B1.out⟩
end Go.Proofs.Ytkmocchikgmnbaa
