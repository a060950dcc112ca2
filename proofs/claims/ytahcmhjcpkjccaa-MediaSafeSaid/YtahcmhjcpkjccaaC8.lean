/- Media: Quarantine of the program. Bound: at most 900000 files. -/
import Derived.Test.YtahcmhjcpkjccaaC7
namespace Go.Proofs.Ytahcmhjcpkjccaa
open Go.RowKit
set_option linter.unusedVariables false
set_option linter.unusedSimpArgs false

theorem get11_lit (A : Option Addr) (n c : Nat) (zs : List Rc) (s t : ByteArray) (w : World) (h : Rcs w A n c zs) (g : Rc) (b : Bool) (hg : getR s t zs = (g, b)) : Calls Try.prog 11 #[.slice A n c, .string s, .string t] w fun e w' => e = .returned (.tuple #[.agg #[.string g.sv, .string g.nm, .int .i64 g.sz, .int .i64 g.tt, .int .i64 g.st], .bool b]) ∧ Below w.heap.size w w' :=
  (get11 A n c zs s t w h).mono fun e w' ⟨h1, h2⟩ => ⟨by rw [hg] at h1; exact h1, h2⟩
/-- The record that Quarantine puts. -/
def quarM (g : Rc) (s t : ByteArray) : Rc := { g with sv := s, nm := t, st := 2 }
def quarL (zs : List Rc) (s t : ByteArray) : List Rc := if chk zs zs.length = 0 ∧ nmOK s t = true then putQ (pS (quarM (getR s t zs).1 s t)) (pB (quarM (getR s t zs).1 s t)) (quarM (getR s t zs).1 s t) zs else zs
set_option maxRecDepth 100000 in
set_option maxHeartbeats 4000000 in
theorem quar21 (A : Option Addr) (n c : Nat) (zs : List Rc) (s t : ByteArray) (w : World) (h : Rcs w A n c zs) (hs : s.size ≤ 9223372036854775807) (ht : t.size ≤ 9223372036854775807) (hn : n ≤ 900000) : Calls Try.prog 21 #[.slice A n c, .string s, .string t] w (FilP w.heap.size w (quarL zs s t)) := by
  have H := Lib.hid h
  have hC := check13 A n c zs w h hn
  rw [show chk zs n = chk zs zs.length by rw [h.len]] at hC
  have HC := Lib.hid hC
  have HN := Lib.hid (fun u => isNamed35 s t hs u)
  obtain ⟨g, b, hg⟩ : ∃ g b, getR s t zs = (g, b) := ⟨_, _, rfl⟩
  have HG := Lib.hid (fun u (hb : Below w.heap.size w u) => get11_lit A n c zs s t u (h.below hb) g b hg)
  have HPu := Lib.hid (fun u (hb : Below w.heap.size w u) => put33 A n c zs (quarM g s t) u (h.below hb) ⟨hs, ht⟩ hn (putQ (pS (quarM g s t)) (pB (quarM g s t)) (quarM g s t) zs) rfl)
  have HCl := Lib.hid (fun u (hb : Below w.heap.size w u) => clone36 A n c (rowR zs) u (h.below hb).rws (by omega))
  have HX := Lib.hid (show quarL zs s t = if chk zs zs.length = 0 ∧ nmOK s t = true then putQ (pS (quarM g s t)) (pB (quarM g s t)) (quarM g s t) zs else zs by unfold quarL; rw [hg])
  have HLn := Lib.hid h.len
  clear h hC hg
  generalize putQ (pS (quarM g s t)) (pB (quarM g s t)) (quarM g s t) zs = pz at HX HPu
  generalize chk zs zs.length = r1 at HC HX
  generalize nmOK s t = nb at HN HX
  generalize quarL zs s t = zz at HX ⊢
  have HPl : Hid (∀ u, Below w.heap.size w u → Calls Try.prog 33 #[.slice A n c, .agg #[.string s, .string t, .int .i64 g.sz, .int .i64 g.tt, .int .i64 2]] u (FilP u.heap.size u pz)) := Lib.hid (fun u hb => HPu.out u hb)
  by_cases h1 : r1 = 0
  · subst h1
    cases nb
    · have hz : zz = zs := by rw [HX.out]; simp
      subst hz
      clear HX
      go_enter Try.func21, Try.ntmps21
      go_wp2_with (first
        | (go_at_call 13; (with_reducible refine HC.out.mono ?_); rintro e w1 ⟨rfl, hb⟩; have B1 := Lib.hid hb; clear hb)
        | (go_at_call 35; (with_reducible refine (HN.out _).mono ?_); rintro e w2 ⟨rfl, rfl⟩)
        | (go_at_call 36; (with_reducible refine (HCl.out _ B1.out).mono ?_); rintro e w3 ⟨A3, c3, rfl, hC3⟩; have C3 := Lib.hid hC3; clear hC3))
      go_ret
      have hO := C3.out.own
      rw [← HLn.out, flat_cl, HLn.out] at hO
      obtain ⟨A4, c4, hv, hT, hap⟩ := Rcs.ofOwn hO HLn.out (by omega) H.out.fit
      simp only [Value.slice.injEq, true_and] at hv
      obtain ⟨rfl, rfl⟩ := hv
      exact ⟨A3, c3, ret_slice2 HLn.out, by rw [HLn.out]; exact hT, B1.out.trans (C3.out.bel.mono B1.out.size), fun b off e => Nat.le_trans B1.out.size (hap b off e)⟩
    · have hz : zz = pz := by rw [HX.out]; simp
      subst hz
      clear HX
      go_enter Try.func21, Try.ntmps21
      go_wp2_with (first
        | (go_at_call 13; (with_reducible refine HC.out.mono ?_); rintro e w1 ⟨rfl, hb⟩; have B1 := Lib.hid hb; clear hb)
        | (go_at_call 35; (with_reducible refine (HN.out _).mono ?_); rintro e w2 ⟨rfl, rfl⟩)
        | (go_at_call 11; (with_reducible refine (HG.out _ B1.out).mono ?_); rintro e w3 ⟨rfl, hb⟩; have B3 := Lib.hid (B1.out.trans (hb.mono B1.out.size)); have B3a := Lib.hid (B3.out.alloc B3.out.size (.cells #[.string s, .string t, .int .i64 g.sz, .int .i64 g.tt, .int .i64 2] 26)); clear hb)
        | (go_at_call 33; (with_reducible refine (HPl.out _ B3a.out).mono ?_); rintro e w4 ⟨A4, c4, rfl, hT, hb, hap⟩; have T4 := Lib.hid hT; have B4 := Lib.hid (B3a.out.trans (hb.mono B3a.out.size)); have P4 := Lib.hid (fun b off e => Nat.le_trans B3a.out.size (hap b off e)); clear hT hb hap))
      go_ret
      exact ⟨A4, c4, rfl, T4.out, B4.out, P4.out⟩
  · have hz : zz = zs := by rw [HX.out, if_neg (fun h => h1 h.1)]
    subst hz
    have hrb : (r1 != 0) = true := by simpa using h1
    have hrc : (r1 == 0) = false := by simpa using h1
    clear HX h1
    go_enter Try.func21, Try.ntmps21
    go_wp2_with (first
      | (go_at_call 13; (with_reducible refine HC.out.mono ?_); rintro e w1 ⟨rfl, hb⟩; have B1 := Lib.hid hb; clear hb)
      | (go_at_call 36; (with_reducible refine (HCl.out _ B1.out).mono ?_); rintro e w3 ⟨A3, c3, rfl, hC3⟩; have C3 := Lib.hid hC3; clear hC3))
    go_ret
    have hO := C3.out.own
    rw [← HLn.out, flat_cl, HLn.out] at hO
    obtain ⟨A4, c4, hv, hT, hap⟩ := Rcs.ofOwn hO HLn.out (by omega) H.out.fit
    simp only [Value.slice.injEq, true_and] at hv
    obtain ⟨rfl, rfl⟩ := hv
    exact ⟨A3, c3, ret_slice2 HLn.out, by rw [HLn.out]; exact hT, B1.out.trans (C3.out.bel.mono B1.out.size), fun b off e => Nat.le_trans B1.out.size (hap b off e)⟩
end Go.Proofs.Ytahcmhjcpkjccaa
