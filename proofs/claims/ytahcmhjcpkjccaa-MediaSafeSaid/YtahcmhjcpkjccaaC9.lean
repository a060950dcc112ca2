/- Media: Fetch of the program. Bound: at most 900000 files. -/
import Derived.Test.YtahcmhjcpkjccaaC8
namespace Go.Proofs.Ytahcmhjcpkjccaa
open Go.RowKit
set_option linter.unusedVariables false
set_option linter.unusedSimpArgs false

/-- The record that Fetch puts. -/
def fetM (g : Rc) (s t : ByteArray) (size now : Int) : Rc := ⟨s, t, if g.st = 1 then g.sz else size, now, 1⟩
def fetE0 (r1 : Int) (nb wa wb b so : Bool) (g : Rc) : Int := if r1 = 0 then (if nb = false then 3 else if (wa && wb) = false then 2 else if b = false ∧ so = true then 5 else if g.st = 2 then 27 else 0) else r1
/-- The error of Fetch. -/
def fetE (zs : List Rc) (own s t : ByteArray) (size now : Int) : Int := fetE0 (chk zs zs.length) (nmOK s t) (wi size 1000000000000) (wi now 1000000000) (getR s t zs).2 (s.toList == own.toList) (getR s t zs).1
/-- The list of Fetch. -/
def fetL (zs : List Rc) (own s t : ByteArray) (size now : Int) : List Rc := if fetE zs own s t size now = 0 then putQ (pS (fetM (getR s t zs).1 s t size now)) (pB (fetM (getR s t zs).1 s t size now)) (fetM (getR s t zs).1 s t size now) zs else []
set_option maxRecDepth 100000 in
set_option maxHeartbeats 8000000 in
theorem fetch23 (A : Option Addr) (n c : Nat) (zs : List Rc) (own s t : ByteArray) (size now : Int) (w : World) (h : Rcs w A n c zs) (hs : s.size ≤ 9223372036854775807) (ht : t.size ≤ 9223372036854775807) (hn : n ≤ 900000) : Calls Try.prog 23 #[.slice A n c, .string own, .string s, .string t, .int .i64 size, .int .i64 now] w (StR w (fetL zs own s t size now) (fetE zs own s t size now)) := by
  have H := Lib.hid h
  have hC := check13 A n c zs w h hn
  rw [show chk zs n = chk zs zs.length by rw [h.len]] at hC
  have HC := Lib.hid hC
  have HN := Lib.hid (fun u => isNamed35 s t hs u)
  have HA := Lib.hid (fun u => within39 size 1000000000000 u)
  have HBw := Lib.hid (fun u => within39 now 1000000000 u)
  obtain ⟨g, b, hg⟩ : ∃ g b, getR s t zs = (g, b) := ⟨_, _, rfl⟩
  have HG := Lib.hid (fun u (hb : Below w.heap.size w u) => get11_lit A n c zs s t u (h.below hb) g b hg)
  have HPu := Lib.hid (fun u (hb : Below w.heap.size w u) => put33 A n c zs (fetM g s t size now) u (h.below hb) ⟨hs, ht⟩ hn (putQ (pS (fetM g s t size now)) (pB (fetM g s t size now)) (fetM g s t size now) zs) rfl)
  have HX := Lib.hid (show fetE zs own s t size now = fetE0 (chk zs zs.length) (nmOK s t) (wi size 1000000000000) (wi now 1000000000) b (s.toList == own.toList) g by unfold fetE; rw [hg])
  have HLd := Lib.hid (show fetL zs own s t size now = if fetE zs own s t size now = 0 then putQ (pS (fetM g s t size now)) (pB (fetM g s t size now)) (fetM g s t size now) zs else [] by unfold fetL; rw [hg])
  have HMd := Lib.hid (show fetM g s t size now = ⟨s, t, if g.st = 1 then g.sz else size, now, 1⟩ from rfl)
  clear h hC hg
  generalize putQ (pS (fetM g s t size now)) (pB (fetM g s t size now)) (fetM g s t size now) zs = pz at HLd HPu
  generalize fetM g s t size now = fm at HPu HMd
  generalize fetL zs own s t size now = zz at HLd ⊢
  generalize fetE zs own s t size now = r at HX HLd ⊢
  generalize chk zs zs.length = r1 at HC HX
  generalize nmOK s t = nb at HN HX
  generalize wi size 1000000000000 = wa at HA HX
  generalize wi now 1000000000 = wb at HBw HX
  unfold fetE0 at HX
  by_cases h1 : r1 = 0
  · subst h1
    cases nb
    · have hr : r = 3 := by rw [HX.out]; rfl
      subst hr
      have hz : zz = [] := by rw [HLd.out]; rfl
      subst hz
      clear HX HLd
      go_enter Try.func23, Try.ntmps23
      go_wp2_with (first
        | (go_at_call 13; (with_reducible refine HC.out.mono ?_); rintro e w1 ⟨rfl, hb⟩; have B1 := Lib.hid hb; clear hb)
        | (go_at_call 35; (with_reducible refine (HN.out _).mono ?_); rintro e w2 ⟨rfl, rfl⟩)
        | (go_at_call 39; (with_reducible refine (HA.out _).mono ?_); rintro e w2 ⟨rfl, rfl⟩)
        | (go_at_call 39; (with_reducible refine (HBw.out _).mono ?_); rintro e w2 ⟨rfl, rfl⟩)
        | (go_at_call 11; (with_reducible refine (HG.out _ B1.out).mono ?_); rintro e w3 ⟨rfl, hb⟩; have B3 := Lib.hid (B1.out.trans (hb.mono B1.out.size)); clear hb))
      go_ret2
      exact st_nil B1.out
    · cases wa
      · have hr : r = 2 := by rw [HX.out]; rfl
        subst hr
        have hz : zz = [] := by rw [HLd.out]; rfl
        subst hz
        clear HX HLd
        go_enter Try.func23, Try.ntmps23
        go_wp2_with (first
          | (go_at_call 13; (with_reducible refine HC.out.mono ?_); rintro e w1 ⟨rfl, hb⟩; have B1 := Lib.hid hb; clear hb)
          | (go_at_call 35; (with_reducible refine (HN.out _).mono ?_); rintro e w2 ⟨rfl, rfl⟩)
          | (go_at_call 39; (with_reducible refine (HA.out _).mono ?_); rintro e w2 ⟨rfl, rfl⟩)
          | (go_at_call 39; (with_reducible refine (HBw.out _).mono ?_); rintro e w2 ⟨rfl, rfl⟩)
          | (go_at_call 11; (with_reducible refine (HG.out _ B1.out).mono ?_); rintro e w3 ⟨rfl, hb⟩; have B3 := Lib.hid (B1.out.trans (hb.mono B1.out.size)); clear hb))
        go_ret2
        exact st_nil B1.out
      · cases wb
        · have hr : r = 2 := by rw [HX.out]; rfl
          subst hr
          have hz : zz = [] := by rw [HLd.out]; rfl
          subst hz
          clear HX HLd
          go_enter Try.func23, Try.ntmps23
          go_wp2_with (first
            | (go_at_call 13; (with_reducible refine HC.out.mono ?_); rintro e w1 ⟨rfl, hb⟩; have B1 := Lib.hid hb; clear hb)
            | (go_at_call 35; (with_reducible refine (HN.out _).mono ?_); rintro e w2 ⟨rfl, rfl⟩)
            | (go_at_call 39; (with_reducible refine (HA.out _).mono ?_); rintro e w2 ⟨rfl, rfl⟩)
            | (go_at_call 39; (with_reducible refine (HBw.out _).mono ?_); rintro e w2 ⟨rfl, rfl⟩)
            | (go_at_call 11; (with_reducible refine (HG.out _ B1.out).mono ?_); rintro e w3 ⟨rfl, hb⟩; have B3 := Lib.hid (B1.out.trans (hb.mono B1.out.size)); clear hb))
          go_ret2
          exact st_nil B1.out
        · by_cases h5 : b = false ∧ (s.toList == own.toList) = true
          · obtain ⟨rfl, hso⟩ := h5
            have hr : r = 5 := by rw [HX.out]; simp [hso]
            subst hr
            have hz : zz = [] := by rw [HLd.out]; rfl
            subst hz
            clear HX HLd
            go_enter Try.func23, Try.ntmps23
            go_wp2_with (first
              | (go_at_call 13; (with_reducible refine HC.out.mono ?_); rintro e w1 ⟨rfl, hb⟩; have B1 := Lib.hid hb; clear hb)
              | (go_at_call 35; (with_reducible refine (HN.out _).mono ?_); rintro e w2 ⟨rfl, rfl⟩)
              | (go_at_call 39; (with_reducible refine (HA.out _).mono ?_); rintro e w2 ⟨rfl, rfl⟩)
              | (go_at_call 39; (with_reducible refine (HBw.out _).mono ?_); rintro e w2 ⟨rfl, rfl⟩)
              | (go_at_call 11; (with_reducible refine (HG.out _ B1.out).mono ?_); rintro e w3 ⟨rfl, hb⟩; have B3 := Lib.hid (B1.out.trans (hb.mono B1.out.size)); clear hb))
            go_ret2
            exact st_nil (B3.out.alloc B3.out.size _)
          · by_cases h2 : g.st = 2
            · have hst : (g.st == 2) = true := by simpa using h2
              cases b
              · have hso : (s.toList == own.toList) = false := by simpa using h5
                have hr : r = 27 := by rw [HX.out]; simp [hso, h2]
                subst hr
                have hz : zz = [] := by rw [HLd.out]; rfl
                subst hz
                clear HX HLd
                go_enter Try.func23, Try.ntmps23
                go_wp2_with (first
                  | (go_at_call 13; (with_reducible refine HC.out.mono ?_); rintro e w1 ⟨rfl, hb⟩; have B1 := Lib.hid hb; clear hb)
                  | (go_at_call 35; (with_reducible refine (HN.out _).mono ?_); rintro e w2 ⟨rfl, rfl⟩)
                  | (go_at_call 39; (with_reducible refine (HA.out _).mono ?_); rintro e w2 ⟨rfl, rfl⟩)
                  | (go_at_call 39; (with_reducible refine (HBw.out _).mono ?_); rintro e w2 ⟨rfl, rfl⟩)
                  | (go_at_call 11; (with_reducible refine (HG.out _ B1.out).mono ?_); rintro e w3 ⟨rfl, hb⟩; have B3 := Lib.hid (B1.out.trans (hb.mono B1.out.size)); clear hb))
                go_ret2
                exact st_nil (B3.out.alloc B3.out.size _)
              · clear h5
                have hr : r = 27 := by rw [HX.out]; simp [h2]
                subst hr
                have hz : zz = [] := by rw [HLd.out]; rfl
                subst hz
                clear HX HLd
                go_enter Try.func23, Try.ntmps23
                go_wp2_with (first
                  | (go_at_call 13; (with_reducible refine HC.out.mono ?_); rintro e w1 ⟨rfl, hb⟩; have B1 := Lib.hid hb; clear hb)
                  | (go_at_call 35; (with_reducible refine (HN.out _).mono ?_); rintro e w2 ⟨rfl, rfl⟩)
                  | (go_at_call 39; (with_reducible refine (HA.out _).mono ?_); rintro e w2 ⟨rfl, rfl⟩)
                  | (go_at_call 39; (with_reducible refine (HBw.out _).mono ?_); rintro e w2 ⟨rfl, rfl⟩)
                  | (go_at_call 11; (with_reducible refine (HG.out _ B1.out).mono ?_); rintro e w3 ⟨rfl, hb⟩; have B3 := Lib.hid (B1.out.trans (hb.mono B1.out.size)); clear hb))
                go_ret2
                exact st_nil (B3.out.alloc B3.out.size _)
            · have hst : (g.st == 2) = false := by simpa using h2
              by_cases h6 : g.st = 1
              · have hs1 : (g.st == 1) = true := by simpa using h6
                have hs2 : (g.st != 1) = false := by simpa using h6
                have HPl : Hid (∀ u, Below w.heap.size w u → Calls Try.prog 33 #[.slice A n c, .agg #[.string s, .string t, .int .i64 g.sz, .int .i64 now, .int .i64 1]] u (FilP u.heap.size u pz)) := Lib.hid (fun u hb => by have := HPu.out u hb; rw [HMd.out, if_pos h6] at this; exact this)
                cases b
                · have hso : (s.toList == own.toList) = false := by simpa using h5
                  have hr : r = 0 := by rw [HX.out]; simp [h2, hso]
                  subst hr
                  have hz : zz = pz := by rw [HLd.out]; rfl
                  subst hz
                  clear HX HLd
                  go_enter Try.func23, Try.ntmps23
                  go_wp2_with (first
                    | (go_at_call 13; (with_reducible refine HC.out.mono ?_); rintro e w1 ⟨rfl, hb⟩; have B1 := Lib.hid hb; clear hb)
                    | (go_at_call 35; (with_reducible refine (HN.out _).mono ?_); rintro e w2 ⟨rfl, rfl⟩)
                    | (go_at_call 39; (with_reducible refine (HA.out _).mono ?_); rintro e w2 ⟨rfl, rfl⟩)
                    | (go_at_call 39; (with_reducible refine (HBw.out _).mono ?_); rintro e w2 ⟨rfl, rfl⟩)
                    | (go_at_call 11; (with_reducible refine (HG.out _ B1.out).mono ?_); rintro e w3 ⟨rfl, hb⟩; have B3 := Lib.hid (B1.out.trans (hb.mono B1.out.size)); clear hb)
                    | (go_at_call 33; (with_reducible refine (HPl.out _ (B3.out.alloc B3.out.size (.cells #[.string s, .string t, .int .i64 g.sz, .int .i64 now, .int .i64 1] 26))).mono ?_); rintro e w4 ⟨A4, c4, rfl, hT, hb, _⟩; have T4 := Lib.hid hT; have B4 := Lib.hid ((B3.out.alloc B3.out.size (.cells #[.string s, .string t, .int .i64 g.sz, .int .i64 now, .int .i64 1] 26)).trans (hb.mono (B3.out.alloc B3.out.size (.cells #[.string s, .string t, .int .i64 g.sz, .int .i64 now, .int .i64 1] 26)).size)); clear hT hb))
                  go_ret2
                  exact ⟨A4, c4, rfl, T4.out, B4.out⟩
                · clear h5
                  have hr : r = 0 := by rw [HX.out]; simp [h2]
                  subst hr
                  have hz : zz = pz := by rw [HLd.out]; rfl
                  subst hz
                  clear HX HLd
                  go_enter Try.func23, Try.ntmps23
                  go_wp2_with (first
                    | (go_at_call 13; (with_reducible refine HC.out.mono ?_); rintro e w1 ⟨rfl, hb⟩; have B1 := Lib.hid hb; clear hb)
                    | (go_at_call 35; (with_reducible refine (HN.out _).mono ?_); rintro e w2 ⟨rfl, rfl⟩)
                    | (go_at_call 39; (with_reducible refine (HA.out _).mono ?_); rintro e w2 ⟨rfl, rfl⟩)
                    | (go_at_call 39; (with_reducible refine (HBw.out _).mono ?_); rintro e w2 ⟨rfl, rfl⟩)
                    | (go_at_call 11; (with_reducible refine (HG.out _ B1.out).mono ?_); rintro e w3 ⟨rfl, hb⟩; have B3 := Lib.hid (B1.out.trans (hb.mono B1.out.size)); clear hb)
                    | (go_at_call 33; (with_reducible refine (HPl.out _ (B3.out.alloc B3.out.size (.cells #[.string s, .string t, .int .i64 g.sz, .int .i64 now, .int .i64 1] 26))).mono ?_); rintro e w4 ⟨A4, c4, rfl, hT, hb, _⟩; have T4 := Lib.hid hT; have B4 := Lib.hid ((B3.out.alloc B3.out.size (.cells #[.string s, .string t, .int .i64 g.sz, .int .i64 now, .int .i64 1] 26)).trans (hb.mono (B3.out.alloc B3.out.size (.cells #[.string s, .string t, .int .i64 g.sz, .int .i64 now, .int .i64 1] 26)).size)); clear hT hb))
                  go_ret2
                  exact ⟨A4, c4, rfl, T4.out, B4.out⟩
              · have hs1 : (g.st == 1) = false := by simpa using h6
                have hs2 : (g.st != 1) = true := by simpa using h6
                have HPl : Hid (∀ u, Below w.heap.size w u → Calls Try.prog 33 #[.slice A n c, .agg #[.string s, .string t, .int .i64 size, .int .i64 now, .int .i64 1]] u (FilP u.heap.size u pz)) := Lib.hid (fun u hb => by have := HPu.out u hb; rw [HMd.out, if_neg h6] at this; exact this)
                cases b
                · have hso : (s.toList == own.toList) = false := by simpa using h5
                  have hr : r = 0 := by rw [HX.out]; simp [h2, hso]
                  subst hr
                  have hz : zz = pz := by rw [HLd.out]; rfl
                  subst hz
                  clear HX HLd
                  go_enter Try.func23, Try.ntmps23
                  go_wp2_with (first
                    | (go_at_call 13; (with_reducible refine HC.out.mono ?_); rintro e w1 ⟨rfl, hb⟩; have B1 := Lib.hid hb; clear hb)
                    | (go_at_call 35; (with_reducible refine (HN.out _).mono ?_); rintro e w2 ⟨rfl, rfl⟩)
                    | (go_at_call 39; (with_reducible refine (HA.out _).mono ?_); rintro e w2 ⟨rfl, rfl⟩)
                    | (go_at_call 39; (with_reducible refine (HBw.out _).mono ?_); rintro e w2 ⟨rfl, rfl⟩)
                    | (go_at_call 11; (with_reducible refine (HG.out _ B1.out).mono ?_); rintro e w3 ⟨rfl, hb⟩; have B3 := Lib.hid (B1.out.trans (hb.mono B1.out.size)); clear hb)
                    | (go_at_call 33; (with_reducible refine (HPl.out _ (B3.out.alloc B3.out.size (.cells #[.string s, .string t, .int .i64 size, .int .i64 now, .int .i64 1] 26))).mono ?_); rintro e w4 ⟨A4, c4, rfl, hT, hb, _⟩; have T4 := Lib.hid hT; have B4 := Lib.hid ((B3.out.alloc B3.out.size (.cells #[.string s, .string t, .int .i64 size, .int .i64 now, .int .i64 1] 26)).trans (hb.mono (B3.out.alloc B3.out.size (.cells #[.string s, .string t, .int .i64 size, .int .i64 now, .int .i64 1] 26)).size)); clear hT hb))
                  go_ret2
                  exact ⟨A4, c4, rfl, T4.out, B4.out⟩
                · clear h5
                  have hr : r = 0 := by rw [HX.out]; simp [h2]
                  subst hr
                  have hz : zz = pz := by rw [HLd.out]; rfl
                  subst hz
                  clear HX HLd
                  go_enter Try.func23, Try.ntmps23
                  go_wp2_with (first
                    | (go_at_call 13; (with_reducible refine HC.out.mono ?_); rintro e w1 ⟨rfl, hb⟩; have B1 := Lib.hid hb; clear hb)
                    | (go_at_call 35; (with_reducible refine (HN.out _).mono ?_); rintro e w2 ⟨rfl, rfl⟩)
                    | (go_at_call 39; (with_reducible refine (HA.out _).mono ?_); rintro e w2 ⟨rfl, rfl⟩)
                    | (go_at_call 39; (with_reducible refine (HBw.out _).mono ?_); rintro e w2 ⟨rfl, rfl⟩)
                    | (go_at_call 11; (with_reducible refine (HG.out _ B1.out).mono ?_); rintro e w3 ⟨rfl, hb⟩; have B3 := Lib.hid (B1.out.trans (hb.mono B1.out.size)); clear hb)
                    | (go_at_call 33; (with_reducible refine (HPl.out _ (B3.out.alloc B3.out.size (.cells #[.string s, .string t, .int .i64 size, .int .i64 now, .int .i64 1] 26))).mono ?_); rintro e w4 ⟨A4, c4, rfl, hT, hb, _⟩; have T4 := Lib.hid hT; have B4 := Lib.hid ((B3.out.alloc B3.out.size (.cells #[.string s, .string t, .int .i64 size, .int .i64 now, .int .i64 1] 26)).trans (hb.mono (B3.out.alloc B3.out.size (.cells #[.string s, .string t, .int .i64 size, .int .i64 now, .int .i64 1] 26)).size)); clear hT hb))
                  go_ret2
                  exact ⟨A4, c4, rfl, T4.out, B4.out⟩
  · have hr : r = r1 := by rw [HX.out, if_neg h1]
    subst hr
    have hz : zz = [] := by rw [HLd.out, if_neg h1]
    subst hz
    have hrb : (r != 0) = true := by simpa using h1
    have hrc : (r == 0) = false := by simpa using h1
    clear HX HLd h1
    go_enter Try.func23, Try.ntmps23
    go_wp2_with (first
      | (go_at_call 13; (with_reducible refine HC.out.mono ?_); rintro e w1 ⟨rfl, hb⟩; have B1 := Lib.hid hb; clear hb))
    go_ret2
    exact st_nil B1.out
end Go.Proofs.Ytahcmhjcpkjccaa
