/- The walk of the reference's GetText, with the block of what is left. Bounds: at most 800000 bytes. -/
import Derived.Test.YtgfodleoollmmaaW12
namespace Go.Proofs.Ytgfodleoollmmaa
open Go.RowKit
set_option linter.unusedVariables false

theorem gotin_any {B : Nat} {z v : Value} {r : Option (Value × List Int)} {w w' : World} {A : Option Addr} {n c : Nat} (h : Got z r w (.returned (.tuple #[v, .slice A n c, .bool true])) w') (hb : ∀ a, A = some a → a.block < B) : GotIn B z r w (.returned (.tuple #[v, .slice A n c, .bool true])) w' := by
  cases r with
  | none => exact absurd h.2 (by simp)
  | some p =>
    obtain ⟨x, rest⟩ := p
    obtain ⟨hbl, A', c', he, hs⟩ := h
    refine ⟨hbl, A', c', he, hs, fun _ a ha => ?_⟩
    simp at he
    obtain ⟨_, ⟨rfl, _⟩⟩ := he
    exact hb _ ha
theorem in_map {B : Nat} {A : Option Addr} (h : ∀ a, A = some a → a.block < B) (n : Nat) : ∀ a, Option.map (fun x => x.add n) A = some a → a.block < B := by
  intro a ha
  cases A with
  | none => cases ha
  | some x =>
    simp only [Option.map_some, Option.some.injEq] at ha
    rw [← ha]
    have := h x rfl
    by_cases hn : n = 0
    · simpa [Addr.add, hn] using this
    · simpa [Addr.add, hn] using this
theorem gotin_empty {B : Nat} {z v : Value} {r : Option (Value × List Int)} {w w' : World} {A : Option Addr} {n c : Nat} (h : Got z r w (.returned (.tuple #[v, .slice A n c, .bool true])) w') (hb : n = 0) : GotIn B z r w (.returned (.tuple #[v, .slice A n c, .bool true])) w' := by
  cases r with
  | none => exact absurd h.2 (by simp)
  | some p =>
    obtain ⟨x, rest⟩ := p
    obtain ⟨hbl, A', c', he, hs⟩ := h
    refine ⟨hbl, A', c', he, hs, fun h0 a ha => ?_⟩
    simp at he
    omega

set_option maxRecDepth 100000 in
set_option maxHeartbeats 1600000 in
theorem rgetText_in (B : Nat) (a : Option Addr) (len cap : Nat) (zs : List Int) (hl : len ≤ 800000) (w : World) (h : Sl w a len cap zs) (hB : In B len a) :
    Calls Try.prog 30 #[.slice a len cap] w (GotIn B (.string ⟨#[]⟩) (gt zs) w) := by
  have H := Lib.hid h
  have HB0 := Lib.hid hB
  have hz := h.sz
  subst hz
  clear h hB
  cases hd : C.dec zs with
  | none =>
    have HG := Lib.hid (gi_none hd)
    have HN := Lib.hid (show gt zs = none by unfold gt; rw [cnt_no hd]; rfl)
    clear hd
    go_enter Try.func30, Try.ntmps30
    go_wp2_with (go_at_call 23; refine (rgetInt_any _ _ _ zs hl _ H.out).mono ?_; intro e w1 hgot; obtain ⟨rfl, hb1⟩ := got_no hgot HG.out; have HB := Lib.hid hb1; clear hb1 hgot)
    go_ret3
    exact gotin_none (got_none HN.out HB.out)
  | some p =>
    obtain ⟨u, k⟩ := p
    have HG := Lib.hid (gi_some hd)
    have hin := (C.in64_iff _).1 (C.zag_in (C.enc_dec H.out.bd hd).2.1)
    have hrl : (zs.drop k).length ≤ 800000 := by rw [List.length_drop]; omega
    have H1 := Lib.hid (fun h => show gt zs = none by unfold gt; rw [cnt_out hd h]; rfl)
    have H2 := Lib.hid (fun h0 h1 => show gt zs = some (.string (strOfNums ((zs.drop k).take (C.zag u).toNat)), (zs.drop k).drop (C.zag u).toNat) by unfold gt; rw [cnt_in hd h0 h1]; rfl)
    clear hd
    generalize C.zag u = n at *
    generalize zs.drop k = rest at *
    obtain ⟨hin0, hin1⟩ := hin
    rcases Int.lt_or_le n 0 with h0 | h0
    · have HN := Lib.hid (H1.out (.inl h0))
      clear H1 H2
      go_enter Try.func30, Try.ntmps30
      go_wp2_with (go_at_call 23; refine (rgetInt_any _ _ _ zs hl _ H.out).mono ?_; intro e w1 hgot; obtain ⟨A1, c1, rfl, hs1, hb1⟩ := got_yes hgot HG.out; have HB := Lib.hid hb1; have HS := Lib.hid hs1; clear hb1 hgot hs1)
      go_ret3
      exact gotin_none (got_none HN.out HB.out)
    · rcases Int.lt_or_le (rest.length : Int) n with h1 | h1
      · have HN := Lib.hid (H1.out (.inr h1))
        clear H1 H2
        go_enter Try.func30, Try.ntmps30
        go_wp2_with (go_at_call 23; refine (rgetInt_any _ _ _ zs hl _ H.out).mono ?_; intro e w1 hgot; obtain ⟨A1, c1, rfl, hs1, hb1⟩ := got_yes hgot HG.out; have HB := Lib.hid hb1; have HS := Lib.hid hs1; clear hb1 hgot hs1)
        go_ret3
        exact gotin_none (got_none HN.out HB.out)
      · have HY := Lib.hid (H2.out h0 h1)
        clear H1 H2
        obtain ⟨m, rfl⟩ := Int.eq_ofNat_of_zero_le h0
        rw [Int.toNat_natCast] at HY
        have hm9 : m ≤ 800000 := by omega
        have hmr : m ≤ rest.length := by omega
        clear h0 hin0 hin1
        go_enter Try.func30, Try.ntmps30
        go_wp2_with (go_at_call 23; refine (rgetInt_in B _ _ _ zs hl _ H.out HB0.out).mono ?_; intro e w1 hgot; obtain ⟨A1, c1, rfl, hs1, hi1, hb1⟩ := gotin_yes hgot HG.out; have HB := Lib.hid hb1; have HS := Lib.hid hs1; have HI := Lib.hid hi1; clear hb1 hgot hs1 hi1)
        have hcv := fun q => conv_sl ((HS.out.take m hmr).drewN q)
        have hcr := HS.out.le
        generalize strOfNums (rest.take m) = S at *
        by_cases hck : c1 = m
        · subst hck
          go_quiet (fail)
          go_wp2
          go_ret3
          exact gotin_empty (got_some HY.out rfl (by first | (rw [List.length_drop]; done) | (rw [List.length_drop]; omega)) (Sl.drewN (by simpa [Nat.sub_eq_zero_of_le hcr] using HS.out.last c1 (Nat.le_refl _) A1 HS.out.nl) _) (below_dn HB.out _)) (by omega)
        · go_quiet (fail)
          go_wp2
          go_ret3
          by_cases he : rest.length = m
          · exact gotin_empty (got_some HY.out rfl (by rw [List.length_drop]) ((HS.out.map m hmr hck).drewN _) (below_dn HB.out _)) (by omega)
          · exact gotin_any (got_some HY.out rfl (by rw [List.length_drop]) ((HS.out.map m hmr hck).drewN _) (below_dn HB.out _)) (in_map (HI.out (by omega)) m)
end Go.Proofs.Ytgfodleoollmmaa
