/- Media: the program's Expire, whatever the list. Bound: at most 900000 files. -/
import Derived.Test.YtahcmhjcpkjccaaD1
import Derived.Test.YtahcmhjcpkjccaaM3
namespace Go.Proofs.Ytahcmhjcpkjccaa
open Go.RowKit
set_option linter.unusedVariables false
set_option linter.unusedSimpArgs false

set_option maxRecDepth 100000 in
set_option maxHeartbeats 8000000 in
theorem expire_bad (A : Option Addr) (n c : Nat) (zs : List Rc) (own : ByteArray) (now age : Int) (w : World) (h : Rcs w A n c zs) (hn : n ≤ 900000) (hc : chk zs zs.length ≠ 0) : Calls Try.prog 25 #[.slice A n c, .string own, .int .i64 now, .int .i64 age] w (LsP w zs) := by
  have H := Lib.hid h
  have HL := Lib.hid h.len
  have HF := Lib.hid h.fit
  obtain ⟨r, hr⟩ : ∃ r, r = chk zs n := ⟨_, rfl⟩
  have hr0 : (r != 0) = true := by rw [hr, ← h.len]; simpa using hc
  have HC : Hid (∀ u, Below w.heap.size w u → Calls Try.prog 13 #[.slice A n c] u fun e w' => e = .returned (.int .i64 r) ∧ Below u.heap.size u w') := Lib.hid (fun u hb => by
    rw [hr]; exact check13 A n c zs u (h.below hb) hn)
  clear h hc hr
  go_enter Try.func25, Try.ntmps25
  go_wp2_with (first
    | (go_at_call 36; (with_reducible refine (clone36 A n c (rowR zs) _ H.out.rws (by omega)).mono ?_); rintro e w1 ⟨A1, c1, rfl, hT⟩; have hT2 := hT.own; rw [show flat n (rowR zs) = cl zs by rw [← HL.out, flat_cl]] at hT2; obtain ⟨A2, c2, hv1, hR, _⟩ := Rcs.ofOwn hT2 HL.out (by omega) HF.out; simp only [Value.slice.injEq, true_and] at hv1; obtain ⟨rfl, rfl⟩ := hv1; have B1 := Lib.hid hT.bel; have R1 := Lib.hid hR; clear hT hT2 hR)
    | (go_at_call 13; (with_reducible refine (HC.out _ B1.out).mono ?_); rintro e w2 ⟨rfl, hb⟩; have B2 := Lib.hid (B1.out.trans (hb.mono B1.out.size)); have R2 := Lib.hid (R1.out.below hb); clear hb))
  go_ret
  exact ⟨A1, c1, ret_slice HL.out.symm, by rw [HL.out]; exact R2.out, B2.out⟩
set_option maxRecDepth 100000 in
set_option maxHeartbeats 8000000 in
theorem expire_none (A : Option Addr) (c : Nat) (own : ByteArray) (now age : Int) (w : World) (h : Rcs w A 0 c []) : Calls Try.prog 25 #[.slice A 0 c, .string own, .int .i64 now, .int .i64 age] w (LsP w []) := by
  have H := Lib.hid h
  have HC : Hid (∀ u, Below w.heap.size w u → Calls Try.prog 13 #[.slice A 0 c] u fun e w' => e = .returned (.int .i64 0) ∧ Below u.heap.size u w') := Lib.hid (fun u hb => check13 A 0 c [] u (h.below hb) (by omega))
  have hmm := @run_makeMap Try.prog
  clear h
  go_enter Try.func25, Try.ntmps25
  go_wp2_with (first
    | (go_at_call 36; (with_reducible refine (clone36 A 0 c (rowR []) _ H.out.rws (by omega)).mono ?_); rintro e w1 ⟨A1, c1, rfl, hT⟩; have hT2 : w1.ownsRow w.heap.size 26 5 (.slice A1 0 c1) 0 (cl []) := hT.own; obtain ⟨A2, c2, hv1, hR, _⟩ := Rcs.ofOwn hT2 rfl (by omega) (by simp); simp only [Value.slice.injEq, true_and] at hv1; obtain ⟨rfl, rfl⟩ := hv1; have B1 := Lib.hid hT.bel; have R1 := Lib.hid hR; clear hT hT2 hR)
    | (go_at_call 13; (with_reducible refine (HC.out _ B1.out).mono ?_); rintro e w2 ⟨rfl, hb⟩; have B2 := Lib.hid ((B1.out.trans (hb.mono B1.out.size)).alloc (B1.out.trans (hb.mono B1.out.size)).size (.map #[] 0)); have R2 := Lib.hid ((R1.out.below hb).below ((Below.refl _ w2).alloc (Nat.le_refl _) (.map #[] 0))); clear hb))
  clear hmm
  go_loopg [11, 12, 26] 0 (fun gg _ _ s26 wr => s26 = .int .i64 0 ∧ Hid (Below w.heap.size w wr) ∧ Hid (Rcs wr A1 0 c1 []))
  case atStart => exact ⟨rfl, B2, R2⟩
  case round =>
    obtain ⟨rfl, BW, TW⟩ := hrel
    go_wp2
    go_loopg [13, 14, 39] 0 (fun gg _ _ s39 wr => s39 = .int .i64 0 ∧ Hid (Below w.heap.size w wr) ∧ Hid (Rcs wr A1 0 c1 []))
    case atStart => exact ⟨rfl, BW, TW⟩
    case round =>
      obtain ⟨rfl, BW, TW⟩ := hrel
      go_wp2
      go_loopg [15, 16, 68] 0 (fun gg _ _ s68 wr => s68 = .int .i64 0 ∧ Hid (Below w.heap.size w wr) ∧ Hid (Rcs wr A1 0 c1 []))
      case atStart => exact ⟨rfl, BW, TW⟩
      case round =>
        obtain ⟨rfl, BW, TW⟩ := hrel
        go_wp2
        go_ret
        exact ⟨A1, c1, rfl, TW.out, BW.out⟩
/-- What Expire gives. -/
def pexpL (zs : List Rc) (own : ByteArray) (now age : Int) : List Rc := if chk zs zs.length = 0 then expL own now age zs else zs
theorem expire25 (A : Option Addr) (n c : Nat) (zs : List Rc) (own : ByteArray) (now age : Int) (w : World) (h : Rcs w A n c zs) (hn : n ≤ 900000) (h63 : now ≤ 9223372036854775807) : Calls Try.prog 25 #[.slice A n c, .string own, .int .i64 now, .int .i64 age] w (LsP w (pexpL zs own now age)) := by
  by_cases hc : chk zs zs.length = 0
  · rw [show pexpL zs own now age = expL own now age zs from if_pos hc]
    rcases Nat.eq_zero_or_pos n with h1 | h1
    · subst h1
      obtain rfl : zs = [] := List.eq_nil_of_length_eq_zero h.len
      exact expire_none A c own now age w h
    · exact expire_some A n c zs own now age w h hn h1 hc h63
  · rw [show pexpL zs own now age = zs from if_neg hc]
    exact expire_bad A n c zs own now age w h hn hc
/-- Both say the same. -/
theorem pexp_eq (zs : List Rc) (own : ByteArray) (now age : Int) : pexpL zs own now age = rexpL zs own now age := by
  unfold pexpL rexpL
  by_cases hc : chk zs zs.length = 0
  · by_cases h0 : 0 ≤ now
    · rw [if_pos hc, if_pos ⟨hc, h0⟩]
    · rw [if_pos hc, if_neg (fun h => h0 h.2)]
      unfold expL
      have hr := right_of_chk hc
      have : ∀ p ∈ zs, exp1 own now age p = p := by
        intro p hp
        obtain ⟨_, ⟨a, _⟩, _⟩ := rg_bounds (fileE_zero (hr.ok p hp)).2
        unfold exp1 expC
        rw [decide_eq_false (by omega : ¬ max age 0 < now - p.tt), Bool.and_false, Bool.and_false]; rfl
      exact (List.map_congr_left (g := id) this).trans (List.map_id zs)
  · rw [if_neg hc, if_neg (fun h => hc h.1)]
end Go.Proofs.Ytahcmhjcpkjccaa
