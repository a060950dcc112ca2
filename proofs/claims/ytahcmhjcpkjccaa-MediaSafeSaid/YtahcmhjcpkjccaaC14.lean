/- Media: the reference's Fetch. Bound: at most 900000 files. -/
import Derived.Test.YtahcmhjcpkjccaaC13
namespace Go.Proofs.Ytahcmhjcpkjccaa
open Go.RowKit
set_option linter.unusedVariables false
set_option linter.unusedSimpArgs false

/-- The record of the reference's Fetch where there was one. -/
def rfetM (p : Rc) (size now : Int) : Rc := ⟨p.sv, p.nm, if p.st = 1 then p.sz else size, now, 1⟩
/-- The list of the reference's Fetch. -/
def rfetL (zs : List Rc) (own s t : ByteArray) (size now : Int) : List Rc := if fetE zs own s t size now = 0 then (if fidx (pF s t) zs = -1 then rputL ⟨s, t, size, now, 1⟩ zs else zs.set (fidx (pF s t) zs).toNat (rfetM (zs.getD (fidx (pF s t) zs).toNat t0) size now)) else []
set_option maxRecDepth 100000 in
set_option maxHeartbeats 8000000 in
theorem rfetch24 (A : Option Addr) (n c : Nat) (zs : List Rc) (own s t : ByteArray) (size now : Int) (w : World) (h : Rcs w A n c zs) (hs : s.size ≤ 9223372036854775807) (ht : t.size ≤ 9223372036854775807) (hn : n ≤ 900000) : Calls Try.prog 24 #[.slice A n c, .string own, .string s, .string t, .int .i64 size, .int .i64 now] w (StR w (rfetL zs own s t size now) (fetE zs own s t size now)) := by
  have H := Lib.hid h
  have hC := check14 A n c zs w h hn
  rw [show chk zs n = chk zs zs.length by rw [h.len]] at hC
  have HC := Lib.hid hC
  have HN := Lib.hid (fun u => names37 s t hs u)
  have HF := Lib.hid (fun u (hb : Below w.heap.size w u) => place28b A n c zs s t u (h.below hb))
  have HPu := Lib.hid (fun u (hb : Below w.heap.size w u) => rput34 A n c zs ⟨s, t, size, now, 1⟩ u (h.below hb) ⟨hs, ht⟩ hn (rputL ⟨s, t, size, now, 1⟩ zs) rfl)
  have HX := Lib.hid (show fetE zs own s t size now = fetE0 (chk zs zs.length) (nmOK s t) (wi size 1000000000000) (wi now 1000000000) (getR s t zs).2 (s.toList == own.toList) (getR s t zs).1 from rfl)
  have HLd := Lib.hid (show rfetL zs own s t size now = if fetE zs own s t size now = 0 then (if fidx (pF s t) zs = -1 then rputL ⟨s, t, size, now, 1⟩ zs else zs.set (fidx (pF s t) zs).toNat (rfetM (zs.getD (fidx (pF s t) zs).toNat t0) size now)) else [] from rfl)
  have HG := Lib.hid (show getR s t zs = if fidx (pF s t) zs = -1 then (t0, false) else (zs.getD (fidx (pF s t) zs).toNat t0, true) from rfl)
  generalize rfetL zs own s t size now = zz at HLd ⊢
  generalize fetE zs own s t size now = r at HX HLd ⊢
  generalize chk zs zs.length = r1 at HC HX
  generalize nmOK s t = nb at HN HX
  unfold fetE0 at HX
  clear hC
  by_cases h1 : r1 = 0
  · subst h1
    cases nb
    · rw [err_f] at HN
      have hr : r = 3 := by rw [HX.out]; rfl
      subst hr
      have hz : zz = [] := by rw [HLd.out]; rfl
      subst hz
      clear HX HLd
      go_enter Try.func24, Try.ntmps24
      go_wp2_with (first
        | (go_at_call 14; (with_reducible refine HC.out.mono ?_); rintro e w1 ⟨rfl, hb⟩; have B1 := Lib.hid hb; clear hb)
        | (go_at_call 37; (with_reducible refine (HN.out _).mono ?_); rintro e w2 ⟨rfl, rfl⟩))
      go_ret2
      exact st_nil B1.out
    · rw [err_t] at HN
      rcases (show size < 0 ∨ (0 ≤ size ∧ 1000000000000 < size) ∨ (0 ≤ size ∧ size ≤ 1000000000000) by omega) with q1 | ⟨q1, q2⟩ | ⟨q1, q2⟩
      · rw [wi_lo q1] at HX
        have hr : r = 2 := by rw [HX.out]; rfl
        subst hr
        have hz : zz = [] := by rw [HLd.out]; rfl
        subst hz
        clear HX HLd
        go_enter Try.func24, Try.ntmps24
        go_wp2_with (first
          | (go_at_call 14; (with_reducible refine HC.out.mono ?_); rintro e w1 ⟨rfl, hb⟩; have B1 := Lib.hid hb; clear hb)
          | (go_at_call 37; (with_reducible refine (HN.out _).mono ?_); rintro e w2 ⟨rfl, rfl⟩))
        go_ret2
        exact st_nil B1.out
      · rw [wi_hi q2] at HX
        have hr : r = 2 := by rw [HX.out]; rfl
        subst hr
        have hz : zz = [] := by rw [HLd.out]; rfl
        subst hz
        clear HX HLd
        go_enter Try.func24, Try.ntmps24
        go_wp2_with (first
          | (go_at_call 14; (with_reducible refine HC.out.mono ?_); rintro e w1 ⟨rfl, hb⟩; have B1 := Lib.hid hb; clear hb)
          | (go_at_call 37; (with_reducible refine (HN.out _).mono ?_); rintro e w2 ⟨rfl, rfl⟩))
        go_ret2
        exact st_nil B1.out
      · rcases (show now < 0 ∨ (0 ≤ now ∧ 1000000000 < now) ∨ (0 ≤ now ∧ now ≤ 1000000000) by omega) with q3 | ⟨q3, q4⟩ | ⟨q3, q4⟩
        · rw [wi_in q1 q2, wi_lo q3] at HX
          have hr : r = 2 := by rw [HX.out]; rfl
          subst hr
          have hz : zz = [] := by rw [HLd.out]; rfl
          subst hz
          clear HX HLd
          go_enter Try.func24, Try.ntmps24
          go_wp2_with (first
            | (go_at_call 14; (with_reducible refine HC.out.mono ?_); rintro e w1 ⟨rfl, hb⟩; have B1 := Lib.hid hb; clear hb)
            | (go_at_call 37; (with_reducible refine (HN.out _).mono ?_); rintro e w2 ⟨rfl, rfl⟩))
          go_ret2
          exact st_nil B1.out
        · rw [wi_in q1 q2, wi_hi q4] at HX
          have hr : r = 2 := by rw [HX.out]; rfl
          subst hr
          have hz : zz = [] := by rw [HLd.out]; rfl
          subst hz
          clear HX HLd
          go_enter Try.func24, Try.ntmps24
          go_wp2_with (first
            | (go_at_call 14; (with_reducible refine HC.out.mono ?_); rintro e w1 ⟨rfl, hb⟩; have B1 := Lib.hid hb; clear hb)
            | (go_at_call 37; (with_reducible refine (HN.out _).mono ?_); rintro e w2 ⟨rfl, rfl⟩))
          go_ret2
          exact st_nil B1.out
        · rw [wi_in q1 q2, wi_in q3 q4] at HX
          rcases fidx_cases (pF s t) zs with ⟨e, _⟩ | ⟨k, hk, e, _, _⟩
          · rw [e] at HF HLd HG
            rw [HG.out] at HX
            have h2 : ¬ (t0 : Rc).st = 2 := by decide
            cases hso : (s.toList == own.toList)
            · have hr : r = 0 := by rw [HX.out]; simp [hso, t0]
              subst hr
              have hz : zz = rputL ⟨s, t, size, now, 1⟩ zs := by rw [HLd.out]; rfl
              subst hz
              clear HX HLd HG e h
              generalize rputL ⟨s, t, size, now, 1⟩ zs = pz at HPu ⊢
              have HPl : Hid (∀ u, Below w.heap.size w u → Calls Try.prog 34 #[.slice A n c, .agg #[.string s, .string t, .int .i64 size, .int .i64 now, .int .i64 1]] u (FilP u.heap.size u pz)) := Lib.hid (fun u hb => HPu.out u hb)
              go_enter Try.func24, Try.ntmps24
              go_wp2_with (first
                | (go_at_call 14; (with_reducible refine HC.out.mono ?_); rintro e w1 ⟨rfl, hb⟩; have B1 := Lib.hid hb; clear hb)
                | (go_at_call 37; (with_reducible refine (HN.out _).mono ?_); rintro e w2 ⟨rfl, rfl⟩)
                | (go_at_call 28; (with_reducible refine (HF.out _ B1.out).mono ?_); rintro e w3 ⟨rfl, hb⟩; have B3 := Lib.hid (B1.out.trans (hb.mono B1.out.size)); clear hb)
                | (go_at_call 34; (with_reducible refine (HPl.out _ B3.out).mono ?_); rintro e w4 ⟨A4, c4, rfl, hT, hb, _⟩; have T4 := Lib.hid hT; have B4 := Lib.hid (B3.out.trans (hb.mono B3.out.size)); clear hT hb))
              go_ret2
              exact ⟨A4, c4, rfl, T4.out, B4.out⟩
            · have hr : r = 5 := by rw [HX.out]; simp [hso]
              subst hr
              have hz : zz = [] := by rw [HLd.out]; rfl
              subst hz
              clear HX HLd HG e h
              go_enter Try.func24, Try.ntmps24
              go_wp2_with (first
                | (go_at_call 14; (with_reducible refine HC.out.mono ?_); rintro e w1 ⟨rfl, hb⟩; have B1 := Lib.hid hb; clear hb)
                | (go_at_call 37; (with_reducible refine (HN.out _).mono ?_); rintro e w2 ⟨rfl, rfl⟩)
                | (go_at_call 28; (with_reducible refine (HF.out _ B1.out).mono ?_); rintro e w3 ⟨rfl, hb⟩; have B3 := Lib.hid (B1.out.trans (hb.mono B1.out.size)); clear hb))
              go_ret2
              exact st_nil B3.out
          · rw [e] at HF HLd HG
            have hkn : k < n := by rw [← h.len]; exact hk
            have hkz : ¬ (k : Int) < 0 := by omega
            have hk1 : (k : Int) < (n : Int) := by omega
            have hfp : fitR (zs.getD k t0) := h.fit _ (by rw [getD_at hk]; exact List.getElem_mem _)
            rw [show getR s t zs = (zs.getD k t0, true) by rw [HG.out, if_neg (by omega)]; rfl] at HX
            have HW := Lib.hid (fun u (hb : Below w.heap.size w u) => with38 A n c k zs (rfetM (zs.getD k t0) size now) u (h.below hb) hfp hn hkn _ rfl)
            have HAt := Lib.hid (fun u (hb : Below w.heap.size w u) => (H.out.below hb).at_ hkn)
            rw [if_neg (show ¬ (k : Int) = -1 by omega), show ((k : Int)).toNat = k from rfl] at HLd
            have HMd := Lib.hid (show rfetM (zs.getD k t0) size now = ⟨(zs.getD k t0).sv, (zs.getD k t0).nm, if (zs.getD k t0).st = 1 then (zs.getD k t0).sz else size, now, 1⟩ from rfl)
            clear h e hk hfp HG
            generalize zs.set k (rfetM (zs.getD k t0) size now) = pz at HW HLd
            generalize rfetM (zs.getD k t0) size now = fm at HW HMd
            generalize zs.getD k t0 = p at HAt HX HMd
            obtain ⟨b, off, rfl, _, _⟩ := HAt.out w (Below.refl _ _)
            by_cases h2 : p.st = 2
            · have hst : (p.st == 2) = true := by simpa using h2
              have hr : r = 27 := by rw [HX.out]; simp [h2]
              subst hr
              have hz : zz = [] := by rw [HLd.out]; rfl
              subst hz
              clear HX HLd
              go_enter Try.func24, Try.ntmps24
              go_wp2_with (first
                | (go_at_call 14; (with_reducible refine HC.out.mono ?_); rintro e w1 ⟨rfl, hb⟩; have B1 := Lib.hid hb; clear hb)
                | (go_at_call 37; (with_reducible refine (HN.out _).mono ?_); rintro e w2 ⟨rfl, rfl⟩)
                | (go_at_call 28; (with_reducible refine (HF.out _ B1.out).mono ?_); rintro e w3 ⟨rfl, hb⟩; have B3 := Lib.hid (B1.out.trans (hb.mono B1.out.size)); obtain ⟨b2, off2, e5, _, k0, k1, k2, k3, k4, _⟩ := HAt.out _ B3.out; simp only [Option.some.injEq, Addr.mk.injEq, and_true] at e5; obtain ⟨rfl, rfl⟩ := e5; clear hb))
              go_ret2
              exact st_nil (B3.out.alloc B3.out.size _)
            · have hst : (p.st == 2) = false := by simpa using h2
              by_cases h6 : p.st = 1
              · have hs1 : (p.st == 1) = true := by simpa using h6
                have hs2 : (p.st != 1) = false := by simpa using h6
                have HWl : Hid (∀ u, Below w.heap.size w u → Calls Try.prog 38 #[.slice (some ⟨b, off, none⟩) n c, .int .i64 (k : Int), .agg #[.string p.sv, .string p.nm, .int .i64 p.sz, .int .i64 now, .int .i64 1]] u (FilP u.heap.size u pz)) := Lib.hid (fun u hb => by have := HW.out u hb; rw [HMd.out, if_pos h6] at this; exact this)
                have hr : r = 0 := by rw [HX.out]; simp [h2]
                subst hr
                have hz : zz = pz := by rw [HLd.out]; rfl
                subst hz
                clear HX HLd
                go_enter Try.func24, Try.ntmps24
                go_wp2_with (first
                  | (go_at_call 14; (with_reducible refine HC.out.mono ?_); rintro e w1 ⟨rfl, hb⟩; have B1 := Lib.hid hb; clear hb)
                  | (go_at_call 37; (with_reducible refine (HN.out _).mono ?_); rintro e w2 ⟨rfl, rfl⟩)
                  | (go_at_call 28; (with_reducible refine (HF.out _ B1.out).mono ?_); rintro e w3 ⟨rfl, hb⟩; have B3 := Lib.hid (B1.out.trans (hb.mono B1.out.size)); obtain ⟨b2, off2, e5, _, k0, k1, k2, k3, k4, _⟩ := HAt.out _ B3.out; simp only [Option.some.injEq, Addr.mk.injEq, and_true] at e5; obtain ⟨rfl, rfl⟩ := e5; clear hb)
                  | (go_at_call 38; (with_reducible refine (HWl.out _ (B3.out.alloc B3.out.size (.cells #[.string p.sv, .string p.nm, .int .i64 p.sz, .int .i64 now, .int .i64 1] 26))).mono ?_); rintro e w4 ⟨A4, c4, rfl, hT, hb, _⟩; have T4 := Lib.hid hT; have B4 := Lib.hid ((B3.out.alloc B3.out.size (.cells #[.string p.sv, .string p.nm, .int .i64 p.sz, .int .i64 now, .int .i64 1] 26)).trans (hb.mono (B3.out.alloc B3.out.size (.cells #[.string p.sv, .string p.nm, .int .i64 p.sz, .int .i64 now, .int .i64 1] 26)).size)); clear hT hb))
                go_ret2
                exact ⟨A4, c4, rfl, T4.out, B4.out⟩
              · have hs1 : (p.st == 1) = false := by simpa using h6
                have hs2 : (p.st != 1) = true := by simpa using h6
                have HWl : Hid (∀ u, Below w.heap.size w u → Calls Try.prog 38 #[.slice (some ⟨b, off, none⟩) n c, .int .i64 (k : Int), .agg #[.string p.sv, .string p.nm, .int .i64 size, .int .i64 now, .int .i64 1]] u (FilP u.heap.size u pz)) := Lib.hid (fun u hb => by have := HW.out u hb; rw [HMd.out, if_neg h6] at this; exact this)
                have hr : r = 0 := by rw [HX.out]; simp [h2]
                subst hr
                have hz : zz = pz := by rw [HLd.out]; rfl
                subst hz
                clear HX HLd
                go_enter Try.func24, Try.ntmps24
                go_wp2_with (first
                  | (go_at_call 14; (with_reducible refine HC.out.mono ?_); rintro e w1 ⟨rfl, hb⟩; have B1 := Lib.hid hb; clear hb)
                  | (go_at_call 37; (with_reducible refine (HN.out _).mono ?_); rintro e w2 ⟨rfl, rfl⟩)
                  | (go_at_call 28; (with_reducible refine (HF.out _ B1.out).mono ?_); rintro e w3 ⟨rfl, hb⟩; have B3 := Lib.hid (B1.out.trans (hb.mono B1.out.size)); obtain ⟨b2, off2, e5, _, k0, k1, k2, k3, k4, _⟩ := HAt.out _ B3.out; simp only [Option.some.injEq, Addr.mk.injEq, and_true] at e5; obtain ⟨rfl, rfl⟩ := e5; clear hb)
                  | (go_at_call 38; (with_reducible refine (HWl.out _ (B3.out.alloc B3.out.size (.cells #[.string p.sv, .string p.nm, .int .i64 size, .int .i64 now, .int .i64 1] 26))).mono ?_); rintro e w4 ⟨A4, c4, rfl, hT, hb, _⟩; have T4 := Lib.hid hT; have B4 := Lib.hid ((B3.out.alloc B3.out.size (.cells #[.string p.sv, .string p.nm, .int .i64 size, .int .i64 now, .int .i64 1] 26)).trans (hb.mono (B3.out.alloc B3.out.size (.cells #[.string p.sv, .string p.nm, .int .i64 size, .int .i64 now, .int .i64 1] 26)).size)); clear hT hb))
                go_ret2
                exact ⟨A4, c4, rfl, T4.out, B4.out⟩
  · have hr : r = r1 := by rw [HX.out, if_neg h1]
    subst hr
    have hz : zz = [] := by rw [HLd.out, if_neg h1]
    subst hz
    have hrb : (r != 0) = true := by simpa using h1
    have hrc : (r == 0) = false := by simpa using h1
    clear HX HLd h1
    go_enter Try.func24, Try.ntmps24
    go_wp2_with (first
      | (go_at_call 14; (with_reducible refine HC.out.mono ?_); rintro e w1 ⟨rfl, hb⟩; have B1 := Lib.hid hb; clear hb))
    go_ret2
    exact st_nil B1.out
end Go.Proofs.Ytahcmhjcpkjccaa
