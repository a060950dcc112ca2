/- The walk of Names' closure, at every length. Bounds: at most 1000000 texts. -/
import Derived.Test.YtbkchcpfnoclhaaGreatIW10
import Derived.StillTailTactics
namespace Go.Proofs.YtbkchcpfnoclhaaGreat
open Go.RowKit Go.Maps Go.Proofs
set_option linter.unusedVariables false
set_option maxRecDepth 100000

theorem size30 (w : World) : (sizeOf (Tryz.prog.elem 56)).run Tryz.prog w = .ok 1 w := by kernel_rfl
theorem under30 : Tryz.prog.underlying 56 = some (.slice (Tryz.prog.elem 56)) := by kernel_rfl
theorem run_from {A : Option Addr} {n c : Nat} {k : Nat} (hk : k ≤ n) (hc : n ≤ c) (w : World) :
    (Instr.sliceAt 56 (.slice A n c) (some (.int .i64 (k : Int))) none none).run Tryz.prog w = .ok (.slice (if c = k then A else A.map (·.add (k * 1))) (n - k) (c - k)) w := by
  have hrun := run_slice_l (P := Tryz.prog) w 56 A n c under30 .i64 (k : Int) (by omega) (by omega)
  rw [size30] at hrun
  rw [run_sliceAt_slice w 56 _ _ _ _ under30, hrun]
  rfl
theorem run_to {A : Option Addr} {n c : Nat} {k : Nat} (hk : k ≤ n) (hc : n ≤ c) (w : World) :
    (Instr.sliceAt 56 (.slice A n c) none (some (.int .i64 (k : Int))) none).run Tryz.prog w = .ok (.slice A k c) w := by
  have hrun := run_slice_h (P := Tryz.prog) w 56 A n c under30 .i64 (k : Int) (by omega) (by omega)
  rw [size30] at hrun
  rw [run_sliceAt_slice w 56 _ _ _ _ under30, hrun]
  show Result.ok (sliced A 0 k c 1) w = _
  congr 1
  cases A <;> simp [sliced, Addr.add]
theorem coll_trans {B C S G M : Nat} {w w1 : World} {acc acc1 : List I.Txt} {e : Ending} {w' : World} (hb : Below B w w1) (h : Coll B C S G M w1 acc1 e w') (he : acc1 = acc) : Coll B C S G M w acc e w' := by
  subst he
  obtain ⟨h1, v, h2, h3⟩ := h
  exact ⟨h1, v, h2, hb.trans h3⟩
theorem St.drewN {B C S G M : Nat} {w : World} {v : Value} {acc : List I.Txt} (h : St B C S G M w v acc) (n : Nat) : St B C S G M (w.drewN n) v acc := ⟨h.hc, h.hs, h.hg, h.hm, h.hr, h.bC, h.bS, h.bG, h.bM⟩

set_option maxRecDepth 100000 in
set_option maxHeartbeats 1600000 in
theorem collect_any (B C S G M : Nat) : ∀ (N : Nat) (a : Option Addr) (len cap : Nat) (ls : List ByteArray) (w : World) (v : Value) (acc : List I.Txt), len ≤ N → len ≤ cap → StrsB B w a len ls → B ≤ w.heap.size → acc.length + len ≤ 1000000 → St B C S G M w v acc →
    Calls Tryz.prog 59 #[.slice a len cap, .pointer (some ⟨C, 0, none⟩), .pointer (some ⟨S, 0, none⟩), .pointer (some ⟨G, 0, none⟩)] w (Coll B C S G M w (I.ddp acc (tx ls))) := by
  intro N
  induction N with
  | zero => intro a len cap ls w v acc hN hc h hB hacc hst; exact collect_small B C S G M a len cap ls w v acc (by omega) h hB hacc hst
  | succ N ih =>
    intro a len cap ls w v acc hN hc h hB hacc hst
    by_cases h2 : len < 2
    · exact collect_small B C S G M a len cap ls w v acc h2 h hB hacc hst
    · have IH := Lib.hid ih
      obtain ⟨k, hk⟩ : ∃ k, k = len / 2 := ⟨_, rfl⟩
      have d1 : (len : Int) / 2 = (k : Int) := by omega
      have k1 : 0 < k := by omega
      have k2 : k ≤ len := by omega
      have k3 : k ≤ N := by omega
      have k4 : len - k ≤ N := by omega
      have HT := Lib.hid (h.take k k2)
      have HD := Lib.hid (h.drop hc k k2)
      have HS := Lib.hid hst
      have hm := h.2.1
      have r1 := run_to (A := a) k2 hc
      have r2 := run_from (A := a) k2 hc
      have HX := Lib.hid (show I.ddp (I.ddp acc (tx (ls.take k))) (tx (ls.drop k)) = I.ddp acc (tx ls) by
        rw [← I.ddp_append]; unfold tx; rw [← List.map_append, List.take_append_drop])
      have HN := Lib.hid (show (I.ddp acc (tx (ls.take k))).length + (len - k) ≤ 1000000 by
        have := I.length_ddp (tx (ls.take k)) acc; rw [tx_len, List.length_take] at this; omega)
      have HK := Lib.hid hk
      generalize (if cap = k then a else Option.map (fun x => x.add (k * 1)) a) = A2 at *
      obtain ⟨f1, f2, f3⟩ := hst.frees
      clear ih h hst hk f2 f3
      go_enter Tryz.func59, Tryz.ntmps59
      go_wp2
      go_still_tail 4, (by kernel_rfl)
      go_wp2_with (go_at_call 59; refine (IH.out _ _ _ _ _ _ _ k3 (by omega) (HT.out.below (below_dn (Below.refl w.heap.size w) _) (by omega)) (by simpa using hB) (by omega) (HS.out.drewN _)).mono ?_; rintro e w1 ⟨rfl, v1, hs1, hb1⟩)
      have HB1 := Lib.hid ((below_dn (Below.refl B w) _).trans hb1)
      have HS1 := Lib.hid hs1
      obtain ⟨f1, f2, f3⟩ := hs1.frees
      clear hs1 hb1 f2 f3
      go_wp2
      go_still_tail 4, (by kernel_rfl)
      go_wp2_with (go_at_call 59; refine (IH.out _ _ _ _ _ _ _ k4 (by omega) ((HD.out.below HB1.out (by omega)).below (below_dn (Below.refl w1.heap.size w1) _) (by have := HB1.out.size; omega)) (by have := HB1.out.size; simp; omega) HN.out (HS1.out.drewN _)).mono ?_; rintro e w2 ⟨rfl, v2, hs2, hb2⟩; have HB2 := Lib.hid (HB1.out.trans ((below_dn (Below.refl B w1) _).trans hb2)); have HS2 := Lib.hid hs2; clear hs2 hb2)
      go_end0
      exact ⟨rfl, v2, HX.out ▸ HS2.out, HB2.out⟩
end Go.Proofs.YtbkchcpfnoclhaaGreat
