/- Media: the reference's Quarantine. Bound: at most 900000 files. -/
import Derived.Test.YtahcmhjcpkjccaaC12
namespace Go.Proofs.Ytahcmhjcpkjccaa
open Go.RowKit
set_option linter.unusedVariables false
set_option linter.unusedSimpArgs false

def LsP (u : World) (zz : List Rc) (e : Ending) (w' : World) : Prop := ∃ A c, e = .returned (.slice A zz.length c) ∧ Rcs w' A zz.length c zz ∧ Below u.heap.size u w'
/-- The list of the reference's Quarantine. -/
def rquarL (zs : List Rc) (s t : ByteArray) : List Rc := if chk zs zs.length = 0 ∧ nmOK s t = true then (if fidx (pF s t) zs = -1 then rputL ⟨s, t, 0, 0, 2⟩ zs else zs.set (fidx (pF s t) zs).toNat { zs.getD (fidx (pF s t) zs).toNat t0 with st := 2 }) else zs
set_option maxRecDepth 100000 in
set_option maxHeartbeats 4000000 in
theorem rquar22 (A : Option Addr) (n c : Nat) (zs : List Rc) (s t : ByteArray) (w : World) (h : Rcs w A n c zs) (hs : s.size ≤ 9223372036854775807) (ht : t.size ≤ 9223372036854775807) (hn : n ≤ 900000) : Calls Try.prog 22 #[.slice A n c, .string s, .string t] w (LsP w (rquarL zs s t)) := by
  have H := Lib.hid h
  have hC := check14 A n c zs w h hn
  rw [show chk zs n = chk zs zs.length by rw [h.len]] at hC
  have HC := Lib.hid hC
  have HN := Lib.hid (fun u => names37 s t hs u)
  have HF := Lib.hid (fun u (hb : Below w.heap.size w u) => place28b A n c zs s t u (h.below hb))
  have HX := Lib.hid (show rquarL zs s t = if chk zs zs.length = 0 ∧ nmOK s t = true then (if fidx (pF s t) zs = -1 then rputL ⟨s, t, 0, 0, 2⟩ zs else zs.set (fidx (pF s t) zs).toNat { zs.getD (fidx (pF s t) zs).toNat t0 with st := 2 }) else zs from rfl)
  have HPu := Lib.hid (fun u (hb : Below w.heap.size w u) => rput34 A n c zs ⟨s, t, 0, 0, 2⟩ u (h.below hb) ⟨hs, ht⟩ hn (rputL ⟨s, t, 0, 0, 2⟩ zs) rfl)
  have HLn := Lib.hid h.len
  generalize chk zs zs.length = r1 at HC HX
  generalize nmOK s t = nb at HN HX
  by_cases h1 : r1 = 0
  · subst h1
    cases nb
    · have hz : rquarL zs s t = zs := by rw [HX.out]; simp
      rw [hz]
      rw [err_f] at HN
      clear HX hz h hC
      go_enter Try.func22, Try.ntmps22
      go_wp2_with (first
        | (go_at_call 14; (with_reducible refine HC.out.mono ?_); rintro e w1 ⟨rfl, hb⟩; have B1 := Lib.hid hb; clear hb)
        | (go_at_call 37; (with_reducible refine (HN.out _).mono ?_); rintro e w2 ⟨rfl, rfl⟩))
      go_ret
      exact ⟨A, c, ret_slice HLn.out.symm, by rw [HLn.out]; exact H.out.below B1.out, B1.out⟩
    · rw [err_t] at HN
      rcases fidx_cases (pF s t) zs with ⟨e, _⟩ | ⟨k, hk, e, _, _⟩
      · have hz : rquarL zs s t = rputL ⟨s, t, 0, 0, 2⟩ zs := by rw [HX.out, e]; simp
        rw [hz]
        rw [e] at HF
        clear HX hz h hC e
        generalize rputL ⟨s, t, 0, 0, 2⟩ zs = pz at HPu ⊢
        have HPl : Hid (∀ u, Below w.heap.size w u → Calls Try.prog 34 #[.slice A n c, .agg #[.string s, .string t, .int .i64 0, .int .i64 0, .int .i64 2]] u (FilP u.heap.size u pz)) := Lib.hid (fun u hb => HPu.out u hb)
        go_enter Try.func22, Try.ntmps22
        go_wp2_with (first
          | (go_at_call 14; (with_reducible refine HC.out.mono ?_); rintro e w1 ⟨rfl, hb⟩; have B1 := Lib.hid hb; clear hb)
          | (go_at_call 37; (with_reducible refine (HN.out _).mono ?_); rintro e w2 ⟨rfl, rfl⟩)
          | (go_at_call 28; (with_reducible refine (HF.out _ B1.out).mono ?_); rintro e w3 ⟨rfl, hb⟩; have B3 := Lib.hid (B1.out.trans (hb.mono B1.out.size)); clear hb)
          | (go_at_call 34; (with_reducible refine (HPl.out _ B3.out).mono ?_); rintro e w4 ⟨A4, c4, rfl, hT, hb, _⟩; have T4 := Lib.hid hT; have B4 := Lib.hid (B3.out.trans (hb.mono B3.out.size)); clear hT hb))
        go_ret
        exact ⟨A4, c4, rfl, T4.out, B4.out⟩
      · have hz : rquarL zs s t = zs.set k { zs.getD k t0 with st := 2 } := by
          rw [HX.out, e, if_pos ⟨rfl, rfl⟩, if_neg (by omega)]; rfl
        rw [hz]
        rw [e] at HF
        have hkn : k < n := by rw [← h.len]; exact hk
        have hkz : ¬ (k : Int) < 0 := by omega
        have hk1 : (k : Int) < (n : Int) := by omega
        have hfp : fitR (zs.getD k t0) := h.fit _ (by rw [getD_at hk]; exact List.getElem_mem _)
        have HW := Lib.hid (fun u (hb : Below w.heap.size w u) => with38 A n c k zs { zs.getD k t0 with st := 2 } u (h.below hb) hfp hn hkn _ rfl)
        have HAt := Lib.hid (fun u (hb : Below w.heap.size w u) => (H.out.below hb).at_ hkn)
        clear HX hz h hC e hk hfp
        generalize zs.set k { zs.getD k t0 with st := 2 } = pz at HW ⊢
        generalize zs.getD k t0 = p at HW HAt
        have HWl : Hid (∀ u, Below w.heap.size w u → Calls Try.prog 38 #[.slice A n c, .int .i64 (k : Int), .agg #[.string p.sv, .string p.nm, .int .i64 p.sz, .int .i64 p.tt, .int .i64 2]] u (FilP u.heap.size u pz)) := Lib.hid (fun u hb => HW.out u hb)
        obtain ⟨b, off, rfl, _, _⟩ := HAt.out w (Below.refl _ _)
        go_enter Try.func22, Try.ntmps22
        go_wp2_with (first
          | (go_at_call 14; (with_reducible refine HC.out.mono ?_); rintro e w1 ⟨rfl, hb⟩; have B1 := Lib.hid hb; clear hb)
          | (go_at_call 37; (with_reducible refine (HN.out _).mono ?_); rintro e w2 ⟨rfl, rfl⟩)
          | (go_at_call 28; (with_reducible refine (HF.out _ B1.out).mono ?_); rintro e w3 ⟨rfl, hb⟩; have B3 := Lib.hid (B1.out.trans (hb.mono B1.out.size)); obtain ⟨b2, off2, e5, _, k0, k1, k2, k3, k4, _⟩ := HAt.out _ B3.out; simp only [Option.some.injEq, Addr.mk.injEq, and_true] at e5; obtain ⟨rfl, rfl⟩ := e5; clear hb)
          | (go_at_call 38; (with_reducible refine (HWl.out _ (B3.out.alloc B3.out.size (.cells #[.string p.sv, .string p.nm, .int .i64 p.sz, .int .i64 p.tt, .int .i64 2] 26))).mono ?_); rintro e w4 ⟨A4, c4, rfl, hT, hb, _⟩; have T4 := Lib.hid hT; have B4 := Lib.hid ((B3.out.alloc B3.out.size (.cells #[.string p.sv, .string p.nm, .int .i64 p.sz, .int .i64 p.tt, .int .i64 2] 26)).trans (hb.mono (B3.out.alloc B3.out.size (.cells #[.string p.sv, .string p.nm, .int .i64 p.sz, .int .i64 p.tt, .int .i64 2] 26)).size)); clear hT hb))
        go_ret
        exact ⟨A4, c4, rfl, T4.out, B4.out⟩
  · have hz : rquarL zs s t = zs := by rw [HX.out, if_neg (fun h => h1 h.1)]
    rw [hz]
    have hrb : (r1 != 0) = true := by simpa using h1
    have hrc : (r1 == 0) = false := by simpa using h1
    clear HX hz h hC h1
    go_enter Try.func22, Try.ntmps22
    go_wp2_with (go_at_call 14; (with_reducible refine HC.out.mono ?_); rintro e w1 ⟨rfl, hb⟩; have B1 := Lib.hid hb; clear hb)
    go_ret
    exact ⟨A, c, ret_slice HLn.out.symm, by rw [HLn.out]; exact H.out.below B1.out, B1.out⟩
end Go.Proofs.Ytahcmhjcpkjccaa
