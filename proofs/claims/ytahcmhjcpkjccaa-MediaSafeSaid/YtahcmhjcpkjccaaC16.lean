/- Media: the reference's Expire. Bound: at most 900000 files. -/
import Derived.Test.YtahcmhjcpkjccaaC15
namespace Go.Proofs.Ytahcmhjcpkjccaa
open Go.RowKit
set_option linter.unusedVariables false
set_option linter.unusedSimpArgs false

set_option maxRecDepth 100000 in
set_option maxHeartbeats 8000000 in
theorem rexpire_none_neg (A : Option Addr) (c : Nat) (own : ByteArray) (now age : Int) (w : World) (h : Rcs w A 0 c []) (h0 : 0 ≤ now) (ha : age < 0) : Calls Try.prog 26 #[.slice A 0 c, .string own, .int .i64 now, .int .i64 age] w (LsP w []) := by
  have H := Lib.hid h
  have HC := Lib.hid (show Calls Try.prog 14 #[.slice A 0 c] w fun e w' => e = .returned (.int .i64 0) ∧ Below w.heap.size w w' from check14 A 0 c [] w h (by omega))
  obtain ⟨i0, hi, hz0, hz1, hz2⟩ := info_parts info44
  have HI := Lib.hid (And.intro hi (And.intro hz0 (And.intro hz1 hz2)))
  clear h hi hz0 hz1 hz2
  go_enter Try.func26, Try.ntmps26
  go_wp2_with (first
    | (go_at_call 14; (with_reducible refine HC.out.mono ?_); rintro e w1 ⟨rfl, hb⟩; have B1 := Lib.hid hb; have B2 := Lib.hid (B1.out.alloc B1.out.size (.cells #[] 26)); have O2 : Hid ((w1.alloc (.cells #[] 26)).ownsRow w.heap.size 26 5 (.slice (some ⟨w1.heap.size, 0, none⟩) 0 0) 0 []) := Lib.hid (World.ownsRow_made (base := w.heap.size) (e := 26) (size := 5) w1 #[] 0 B1.out.size (by decide) (by simp)); have S2 := Lib.hid ((H.out.below B2.out).src); clear hb)
    | (at_builtin; refine wpList_append_any _ rfl (.tmp 21) (.tmp 22) 22 rfl w.heap.size 26 i0 _ 5 56 Try.underlying22 HI.out.1 HI.out.2.1 HI.out.2.2.1 HI.out.2.2.2 rfl (by decide) (.slice (some ⟨w1.heap.size, 0, none⟩) 0 0) 0 [] rfl O2.out A 0 c (cl []) rfl S2.out (by unfold maxLen; omega) (by omega) B2.out.size ?_; intro v3 w3 hgr; have B3 := Lib.hid (hgr.below B2.out O2.out); have O3 : Hid (w3.ownsRow w.heap.size 26 5 v3 0 (cl [])) := Lib.hid hgr.own; clear hgr; obtain ⟨A1, c1, rfl, hT, _⟩ := Rcs.ofOwn O3.out rfl (by omega) (by simp); have T3 := Lib.hid hT; clear hT O3))
  go_loopg [10] 0 (fun gg s10 wr => s10 = .int .i64 0 ∧ Hid (Below w.heap.size w wr) ∧ Hid (Rcs wr A1 0 c1 []))
  case atStart => exact ⟨rfl, B3, T3⟩
  case round =>
    obtain ⟨rfl, BW, TW⟩ := hrel
    go_wp2
    go_ret
    exact ⟨A1, c1, rfl, TW.out, BW.out⟩
set_option maxRecDepth 100000 in
set_option maxHeartbeats 8000000 in
theorem rexpire_none_pos (A : Option Addr) (c : Nat) (own : ByteArray) (now age : Int) (w : World) (h : Rcs w A 0 c []) (h0 : 0 ≤ now) (ha : 0 ≤ age) : Calls Try.prog 26 #[.slice A 0 c, .string own, .int .i64 now, .int .i64 age] w (LsP w []) := by
  have H := Lib.hid h
  have HC := Lib.hid (show Calls Try.prog 14 #[.slice A 0 c] w fun e w' => e = .returned (.int .i64 0) ∧ Below w.heap.size w w' from check14 A 0 c [] w h (by omega))
  obtain ⟨i0, hi, hz0, hz1, hz2⟩ := info_parts info44
  have HI := Lib.hid (And.intro hi (And.intro hz0 (And.intro hz1 hz2)))
  clear h hi hz0 hz1 hz2
  go_enter Try.func26, Try.ntmps26
  go_wp2_with (first
    | (go_at_call 14; (with_reducible refine HC.out.mono ?_); rintro e w1 ⟨rfl, hb⟩; have B1 := Lib.hid hb; have B2 := Lib.hid (B1.out.alloc B1.out.size (.cells #[] 26)); have O2 : Hid ((w1.alloc (.cells #[] 26)).ownsRow w.heap.size 26 5 (.slice (some ⟨w1.heap.size, 0, none⟩) 0 0) 0 []) := Lib.hid (World.ownsRow_made (base := w.heap.size) (e := 26) (size := 5) w1 #[] 0 B1.out.size (by decide) (by simp)); have S2 := Lib.hid ((H.out.below B2.out).src); clear hb)
    | (at_builtin; refine wpList_append_any _ rfl (.tmp 21) (.tmp 22) 22 rfl w.heap.size 26 i0 _ 5 56 Try.underlying22 HI.out.1 HI.out.2.1 HI.out.2.2.1 HI.out.2.2.2 rfl (by decide) (.slice (some ⟨w1.heap.size, 0, none⟩) 0 0) 0 [] rfl O2.out A 0 c (cl []) rfl S2.out (by unfold maxLen; omega) (by omega) B2.out.size ?_; intro v3 w3 hgr; have B3 := Lib.hid (hgr.below B2.out O2.out); have O3 : Hid (w3.ownsRow w.heap.size 26 5 v3 0 (cl [])) := Lib.hid hgr.own; clear hgr; obtain ⟨A1, c1, rfl, hT, _⟩ := Rcs.ofOwn O3.out rfl (by omega) (by simp); have T3 := Lib.hid hT; clear hT O3))
  go_loopg [10] 0 (fun gg s10 wr => s10 = .int .i64 0 ∧ Hid (Below w.heap.size w wr) ∧ Hid (Rcs wr A1 0 c1 []))
  case atStart => exact ⟨rfl, B3, T3⟩
  case round =>
    obtain ⟨rfl, BW, TW⟩ := hrel
    go_wp2
    go_ret
    exact ⟨A1, c1, rfl, TW.out, BW.out⟩
set_option maxRecDepth 100000 in
set_option maxHeartbeats 8000000 in
theorem rexpire26 (A : Option Addr) (n c : Nat) (zs : List Rc) (own : ByteArray) (now age : Int) (w : World) (h : Rcs w A n c zs) (hn : n ≤ 900000) (h63 : now ≤ 9223372036854775807) : Calls Try.prog 26 #[.slice A n c, .string own, .int .i64 now, .int .i64 age] w (LsP w (rexpL zs own now age)) := by
  by_cases hc : chk zs zs.length = 0
  · by_cases h0 : 0 ≤ now
    · rw [show rexpL zs own now age = expL own now age zs from if_pos ⟨hc, h0⟩]
      rcases Nat.eq_zero_or_pos n with h1 | h1
      · subst h1
        obtain rfl : zs = [] := List.eq_nil_of_length_eq_zero h.len
        rw [show expL own now age [] = [] from rfl]
        rcases (show age < 0 ∨ 0 ≤ age by omega) with ha | ha
        · exact rexpire_none_neg A c own now age w h h0 ha
        · exact rexpire_none_pos A c own now age w h h0 ha
      · rcases (show age < 0 ∨ 0 ≤ age by omega) with ha | ha
        · exact rexpire_neg A n c zs own now age w h hn h1 hc h0 h63 ha
        · exact rexpire_pos A n c zs own now age w h hn h1 hc h0 h63 ha
    · rw [show rexpL zs own now age = zs from if_neg (fun h => h0 h.2)]
      have hC := check14 A n c zs w h hn
      rw [show chk zs n = 0 by rw [← h.len]; exact hc] at hC
      have HC := Lib.hid hC
      have H := Lib.hid h
      have HLn := Lib.hid h.len
      have h00 : now < 0 := by omega
      clear hC h hc h0
      go_enter Try.func26, Try.ntmps26
      go_wp2_with (go_at_call 14; (with_reducible refine HC.out.mono ?_); rintro e w1 ⟨rfl, hb⟩; have B1 := Lib.hid hb; clear hb)
      go_ret
      exact ⟨A, c, ret_slice HLn.out.symm, by rw [HLn.out]; exact H.out.below B1.out, B1.out⟩
  · rw [show rexpL zs own now age = zs from if_neg (fun h => hc h.1)]
    have hC := check14 A n c zs w h hn
    rw [show chk zs n = chk zs zs.length by rw [h.len]] at hC
    have HC := Lib.hid hC
    have H := Lib.hid h
    have HLn := Lib.hid h.len
    generalize chk zs zs.length = r1 at HC hc
    have hrb : (r1 != 0) = true := by simpa using hc
    have hrc : (r1 == 0) = false := by simpa using hc
    clear hC h hc
    go_enter Try.func26, Try.ntmps26
    go_wp2_with (go_at_call 14; (with_reducible refine HC.out.mono ?_); rintro e w1 ⟨rfl, hb⟩; have B1 := Lib.hid hb; clear hb)
    go_ret
    exact ⟨A, c, ret_slice HLn.out.symm, by rw [HLn.out]; exact H.out.below B1.out, B1.out⟩
end Go.Proofs.Ytahcmhjcpkjccaa
