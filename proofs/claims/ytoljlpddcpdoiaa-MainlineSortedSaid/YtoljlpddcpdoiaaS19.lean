/- The mainline: slices.SortFunc at a row of places. Bound: a million places. -/
import Derived.Test.YtoljlpddcpdoiaaP19
namespace Go.Proofs.Ytoljlpddcpdoiaa
open Go Go.RowKit Go.Maps
set_option linter.unusedVariables false
set_option linter.unusedSimpArgs false

theorem sortRow28 (B : Nat) (A : Option Addr) (n c : Nat) (ys : List Pl.Rc) (w : World) (h : w.ownsRow B 62 3 (.slice A n c) n (Pl.cl ys)) (hB : B ≤ w.heap.size) (hA : A ≠ none) (hd : ys.Nodup) (hl : ys.length = n) (hn : n ≤ 1000000) : Calls Try.prog 28 #[.slice A n c, .func (.func 29) #[] #[]] w fun e w' => e = .returned (.tuple #[]) ∧ Pl.Rcs w' A n c (Pl.srtP ys) ∧ Below B w w' := by
  rcases h.2 with ⟨hv, _⟩ | ⟨g, cap, cur, hv, hgB, hblk, hnc, hcm, hs, ht⟩
  · simp only [Value.slice.injEq] at hv
    exact absurd hv.1 hA
  · simp only [Value.slice.injEq, true_and] at hv
    obtain ⟨rfl, rfl⟩ := hv
    subst hl
    have hb : Blk w g cur.toList 62 := ⟨by rw [Array.toArray_toList]; exact hblk⟩
    refine (Pl.sortF_any g c ys w (Pl.holds_of_blk hb ht rfl) hb.lt (by omega)).mono ?_
    rintro e w' ⟨he, zs, hp, hso, hh, hg⟩
    have hz : zs = Pl.srtP ys := Pl.srtP_eq hp hd (Pl.srt_of hso (hp.symm.nodup hd))
    subst hz
    have hl2 := Pl.srtP_len ys
    have hr := Pl.Rcs.ofHolds (c := c) hh (Nat.lt_of_lt_of_le hb.lt hg.size) (by omega) (by omega) (fun p _ => trivial)
    rw [hl2] at hr
    exact ⟨he, hr, (Below.refl B w).grown hg hB (fun k hk => by cases hk; exact hgB)⟩
end Go.Proofs.Ytoljlpddcpdoiaa
