/- Who types: the reference's Start. Bound: at most 900000 records. -/
import Derived.Test.YtjifohepbmaebaaT12
namespace Go.Proofs.Ytjifohepbmaebaa
open Go.RowKit Go.Maps Go.Proofs
set_option linter.unusedVariables false
set_option linter.unusedSimpArgs false

theorem Tps.takeSrc {w : World} {A : Option Addr} {n c k : Nat} {zs : List Tp} (h : Tps w A n c zs) (hk : k ≤ n) : Src w A k c 2 (cl (zs.take k)) := by
  refine ⟨by rw [cl_len, List.length_take, h.len]; omega, fun e => ?_, ?_, cl_one _⟩
  · obtain ⟨h1, h2⟩ := h.src.nil e
    exact ⟨by omega, h2⟩
  · rcases h.src.cell with h1 | ⟨b, off, e, hb, hc⟩
    · exact .inl (by omega)
    · refine .inr ⟨b, off, e, hb, fun j u hu => hc j u ?_⟩
      have hj : j < k * 2 := by
        have := (List.getElem?_eq_some_iff.1 hu).1
        rw [cl_len, List.length_take] at this
        omega
      rw [← cl_take, List.getElem?_take_of_lt hj] at hu
      exact hu
theorem cl_drop (zs : List Tp) (k : Nat) : (cl zs).drop (k * 2) = cl (zs.drop k) := by
  rcases Nat.lt_or_ge k zs.length with h | h
  · have h1 : cl zs = cl (zs.take k) ++ cl (zs.drop k) := by rw [← cl_append, List.take_append_drop]
    rw [h1, List.drop_append, List.drop_of_length_le (by rw [cl_len, List.length_take]; omega), cl_len, List.length_take, List.nil_append, Nat.min_eq_left (by omega), Nat.sub_self, List.drop_zero]
  · rw [List.drop_of_length_le (by rw [cl_len]; omega), List.drop_of_length_le h]; rfl
theorem Tps.dropSrc {w : World} {A : Option Addr} {n c k : Nat} {zs : List Tp} (h : Tps w A n c zs) (hk : k ≤ n) : Src w (if c = k then A else A.map (·.add (k * 2))) (n - k) (c - k) 2 (cl (zs.drop k)) := by
  have hcap := h.cap
  refine ⟨by rw [cl_len, List.length_drop, h.len], fun e => ?_, ?_, cl_one _⟩
  · have e' : A = none := by
      cases A with
      | none => rfl
      | some a => split at e <;> cases e
    obtain ⟨h1, h2⟩ := h.src.nil e'
    exact ⟨by omega, by omega⟩
  · rcases Nat.lt_or_ge k n with hlt | hge
    · rcases h.src.cell with h1 | ⟨b, off, e, hb, hc⟩
      · exact .inl (by omega)
      · refine .inr ⟨b, off + k * 2, by rw [if_neg (by omega), e]; simp [Addr.add], hb, fun j u hu => ?_⟩
        rw [← cl_drop, List.getElem?_drop] at hu
        rw [Nat.add_assoc]
        exact hc _ u hu
    · exact .inl (by omega)
theorem run_fromA {A : Option Addr} {n c k : Nat} (hk : k ≤ n) (w : World) : (Instr.sliceAt 22 (.slice A n c) (some (.int .i64 (k : Int))) none none).run Try.prog w = .ok (.slice (if c = k then A else A.map (·.add (k * 2))) (n - k) (c - k)) w := by
  have hrun := run_slice_l (P := Try.prog) w 22 A n c under22 .i64 (k : Int) (by omega) (by omega)
  rw [size22e] at hrun
  rw [run_sliceAt_slice w 22 _ _ _ _ under22, hrun]
  rfl
theorem run_topA {A : Option Addr} {n c k : Nat} (hk : k ≤ c) (w : World) : (Instr.sliceAt 22 (.slice A n c) none (some (.int .i64 (k : Int))) none).run Try.prog w = .ok (.slice A k c) w := by
  have hrun := run_slice_h (P := Try.prog) w 22 A n c under22 .i64 (k : Int) (by omega) (by omega)
  rw [size22e] at hrun
  rw [run_sliceAt_slice w 22 _ _ _ _ under22, hrun]
  show Result.ok (sliced A 0 k c 2) w = _
  congr 1
  cases A <;> simp [sliced, Addr.add]
set_option maxRecDepth 100000 in
set_option maxHeartbeats 4000000 in
theorem rstart14_at (A : Option Addr) (n c : Nat) (zs : List Tp) (s : ByteArray) (now span : Int) (w : World) (h : Tps w A n c zs) (hs : s.size ≤ 9223372036854775807) (hu : I.mkd 64 (bys s) = true) (hn : n ≤ 900000) (r0 : 0 ≤ now) (r1 : now ≤ 1000000000) (r2 : 1 ≤ span) (r3 : span ≤ 30000) (k : Nat) (hk : k < n) (hf : fidx (pu s) zs = (k : Int)) (zz : List Tp) (hz : zz = zs.set k (s, now + span)) (m : Nat) (hm : zz.length = m) : Calls Try.prog 14 #[.slice A n c, .string s, .int .i64 now, .int .i64 span] w (StP w zz m) := by
  have HZ := Lib.hid hz
  have HM := Lib.hid hm
  have H := Lib.hid h
  have HL := Lib.hid h.len
  have HU := Lib.hid (fun u => ruser_any s hs u)
  rw [hu, err_t] at HU
  obtain ⟨i0, hi, hz0, hz1, hz2⟩ := info_parts info44
  have HI := Lib.hid (And.intro hi (And.intro hz0 (And.intro hz1 hz2)))
  have B1 := Lib.hid ((Below.refl w.heap.size w).alloc (Nat.le_refl _) (.cells #[.string s, .int .i64 (now + span)] 44))
  have B2 := Lib.hid (B1.out.alloc B1.out.size (.cells #[] 44))
  have X2 := Lib.hid ((blk_new w [.string s, .int .i64 (now + span)] 44).alloc (.cells #[] 44))
  have O2 : Hid (((w.alloc (.cells #[.string s, .int .i64 (now + span)] 44)).alloc (.cells #[] 44)).ownsRow w.heap.size 44 2 (.slice (some ⟨w.heap.size + 1, 0, none⟩) 0 0) 0 []) := Lib.hid (by
    have := World.ownsRow_made (base := w.heap.size) (e := 44) (size := 2) (w.alloc (.cells #[.string s, .int .i64 (now + span)] 44)) #[] 0 B1.out.size (by decide) (by simp)
    rw [show (w.alloc (.cells #[.string s, .int .i64 (now + span)] 44)).heap.size = w.heap.size + 1 by simp] at this
    exact this)
  have S2 := Lib.hid ((H.out.below B2.out).src)
  have HP : Hid (∀ j, j ≤ k → pu s (zs.getD j t0) = decide (j = k)) := Lib.hid (by
    rcases fidx_cases (pu s) zs with ⟨e, _⟩ | ⟨k', hk', e, hq, hno⟩
    · omega
    · obtain rfl : k' = k := by omega
      intro j hj
      by_cases e1 : j = k'
      · subst e1; rw [hq]; simp
      · rw [hno _ (by rw [List.getD_eq_getElem?_getD, List.getElem?_eq_getElem (by omega)]; exact List.mem_take_iff_getElem.2 ⟨j, by omega, by simp⟩)]
        simp [e1])
  have HK := Lib.hid hk
  have HFit := Lib.hid (show ∀ p ∈ zz, p.1.size ≤ 9223372036854775807 by rw [hz]; exact set_fit h.fit hs)
  clear h hi hz0 hz1 hz2 hz hm hu hs hf
  go_enter Try.func14, Try.ntmps14
  go_wp2_with (first
    | (go_at_call 26; (with_reducible refine (HU.out _).mono ?_); rintro e w1 ⟨rfl, rfl⟩)
    | (at_builtin; refine wpList_append_any _ rfl (.tmp 36) (.tmp 37) 22 rfl w.heap.size 44 i0 _ 2 24 Try.underlying22 HI.out.1 HI.out.2.1 HI.out.2.2.1 HI.out.2.2.2 rfl (by decide) (.slice (some ⟨w.heap.size + 1, 0, none⟩) 0 0) 0 [] rfl O2.out A n c (cl zs) rfl S2.out (by unfold maxLen; omega) (by omega) B2.out.size ?_; intro v3 w3 hgr; have B3 := Lib.hid (hgr.below B2.out O2.out); have X3 : Hid (Blk w3 w.heap.size [.string s, .int .i64 (now + span)] 44) := Lib.hid ⟨(hgr.grow.block w.heap.size X2.out.lt (by simp [Value.ownBlock])).trans X2.out.heap⟩; have O3 := Lib.hid hgr.own; clear hgr; rw [Nat.zero_add, List.nil_append] at O3))
  obtain ⟨g1, c1, cur, rfl, hB1, hX1, hnc, hcl, htk⟩ := own_pos O3.out (by omega)
  have T3 := Lib.hid (Tps.ofBlk hX1 htk HL.out hnc (by omega) H.out.fit)
  have Y3 := Lib.hid hX1
  have L3 := Lib.hid hcl
  have N3 := Lib.hid hnc
  have G3 := Lib.hid hB1
  have TK := Lib.hid htk
  clear hB1 hX1 hnc hcl htk O3
  go_loopg [8, 9, 12] n (fun gg _ _ s12 wr => ∃ kk : Nat, kk ≤ k ∧ n - kk ≤ gg ∧ s12 = .int .i64 kk ∧ w3 = wr)
  case atStart => exact ⟨0, Nat.zero_le _, by omega, rfl, rfl⟩
  case round =>
    obtain ⟨kk, hkk, hg, rfl, rfl⟩ := hrel
    have hlt : kk < n := by omega
    have hltz : (kk : Int) < (n : Int) := by omega
    obtain ⟨b, off, eA, hbl, k0, k1, _⟩ := T3.out.get hlt
    simp only [Option.some.injEq, Addr.mk.injEq, and_true] at eA
    obtain ⟨rfl, rfl⟩ := eA
    rw [Nat.zero_add] at k0 k1
    have hp := HP.out kk hkk
    generalize zs.getD kk t0 = p at k0 k1 hp
    by_cases e : kk = k
    · have hs : (p.1.toList == s.toList) = true := by
        rw [decide_eq_true e] at hp; exact hp
      subst e
      have a0 := X3.out.cell (i := 0) rfl
      have a1 := X3.out.cell (i := 1) rfl
      have HTh := Lib.hid (Y3.out.thereAt (kk * 2) 2 (by have := L3.out; have := N3.out; omega))
      clear hp
      go_wp2_with (refine store_mid_as rfl 44 _ _ rfl g1 (kk * 2) #[.string s, .int .i64 (now + span)] rfl rfl HTh.out size44 (two_one (s, now + span)) ?_; intro w4 e4; have Y4 : Hid (Blk w4 g1 ((cur.set (kk * 2) (.string s)).set (kk * 2 + 1) (.int .i64 (now + span))) 44) := Lib.hid (by rw [e4]; exact (Y3.out.set (kk * 2) (.string s)).set (kk * 2 + 1) (.int .i64 (now + span))); have B4 : Hid (Below w.heap.size w w4) := Lib.hid (by rw [e4]; exact below_setAll G3.out _ _ _ B3.out); clear e4 a0 a1)
      go_ret2
      have hl : zz.length = n := by rw [HZ.out, List.length_set]; exact HL.out
      have hmn : m = n := by rw [← HM.out]; exact hl
      subst hmn
      exact ⟨some ⟨g1, 0, none⟩, c1, rfl, Tps.ofBlk Y4.out (by rw [HZ.out]; exact take_set2 (s, now + span) TK.out HL.out HK.out) hl N3.out (by omega) HFit.out, B4.out⟩
    · have hs : (p.1.toList == s.toList) = false := by
        rw [decide_eq_false e] at hp; exact hp
      clear hp
      go_wp2
      go_roundg (n - (kk + 1))
      case measure => omega
      case rel => exact ⟨kk + 1, by omega, by omega, by go_num, rfl⟩
end Go.Proofs.Ytjifohepbmaebaa
