/- The keys of events: Keys; the reference's put, Keys, Is. Bound: a million entries. -/
import Derived.Test.YtbedibiodlgegaaK5
import Derived.Test.YtbedibiodlgegaaQL7
import Derived.Deep.QuietTactic
namespace Go.Proofs.Ytbedibiodlgegaa
open Go Go.RowKit
set_option linter.unusedVariables false
set_option linter.unusedSimpArgs false

/-- A key as an entry. -/
def toE (p : Ky.Rc) : En.Rc := ⟨p.k, p.key, p.id⟩
def clK (l : List Ky.Rc) : List Value := En.cl (l.map toE)
theorem clK_append (a b : List Ky.Rc) : clK (a ++ b) = clK a ++ clK b := by unfold clK; rw [List.map_append, En.cl_append]
theorem clK_one (p : Ky.Rc) : En.enc (toE p) = clK [p] := En.cl_one1 _
/-- The slice at A has these entries. -/
abbrev EnR (w : World) (A : Option Addr) (n c : Nat) (l : List Ky.Rc) : Prop := En.Rcs w A n c (l.map toE)
theorem toE_at {l : List Ky.Rc} {k : Nat} (h : k < l.length) : (l.map toE).getD k En.t0 = toE (l.getD k Ky.t0) := by
  rw [En.getD_at (by rw [List.length_map]; exact h), Ky.getD_at h, List.getElem_map]
def EnsP (w : World) (l : List Ky.Rc) (e : Ending) (w' : World) : Prop := ∃ A c, e = .returned (.slice A l.length c) ∧ EnR w' A l.length c l ∧ Below w.heap.size w w'
theorem ensP_own {w w' : World} {v : Value} {n : Nat} {l : List Ky.Rc} (h : w'.ownsRow w.heap.size 56 3 v n (clK l)) (hl : l.length = n) (hn : n ≤ 1000000) (hf : ∀ p ∈ l, Ky.fitR p) (hb : Below w.heap.size w w') : EnsP w l (.returned v) w' := by
  subst hl
  obtain ⟨A, c, rfl, hr, _⟩ := En.Rcs.ofOwn (zs := l.map toE) h (by rw [List.length_map]) hn (fun p hp => by obtain ⟨q, hq, rfl⟩ := List.mem_map.1 hp; exact hf q hq)
  exact ⟨A, c, rfl, hr, hb⟩
theorem info56 : (Try.prog.info? 56).map (fun i => (i.zero, i.size, i.bytes)) = some (some (.agg #[.int .i64 0, .string ⟨#[]⟩, .int .i64 0]), 3, 32) := by kernel_rfl
theorem size56 : (Try.prog.info? 56).map (·.size) = some 3 := by kernel_rfl
theorem under37 : Try.prog.underlying 37 = some (.slice (Try.prog.elem 37)) := by kernel_rfl
theorem size37e (w : World) : (sizeOf (Try.prog.elem 37)).run Try.prog w = .ok 3 w := by kernel_rfl
set_option maxRecDepth 100000 in
theorem run_fromE {A : Option Addr} {n c : Nat} {k : Nat} (hk : k ≤ n) (hc : n ≤ c) (w : World) :
    (Instr.sliceAt 37 (.slice A n c) (some (.int .i64 (k : Int))) none none).run Try.prog w = .ok (.slice (if c = k then A else A.map (·.add (k * 3))) (n - k) (c - k)) w := by
  have hrun := run_slice_l (P := Try.prog) w 37 A n c under37 .i64 (k : Int) (by omega) (by omega)
  rw [size37e] at hrun
  rw [run_sliceAt_slice w 37 _ _ _ _ under37, hrun]
  rfl
set_option maxRecDepth 100000 in
theorem run_toE {A : Option Addr} {n c : Nat} {k : Nat} (hk : k ≤ n) (hc : n ≤ c) (w : World) :
    (Instr.sliceAt 37 (.slice A n c) none (some (.int .i64 (k : Int))) none).run Try.prog w = .ok (.slice A k c) w := by
  have hrun := run_slice_h (P := Try.prog) w 37 A n c under37 .i64 (k : Int) (by omega) (by omega)
  rw [size37e] at hrun
  rw [run_sliceAt_slice w 37 _ _ _ _ under37, hrun]
  show Result.ok (sliced A 0 k c 3) w = _
  congr 1
  cases A <;> simp [sliced, Addr.add]
namespace Ky
theorem putK_at {p : Rc} : ∀ {l : List Rc} {k : Nat}, k ≤ l.length → (∀ j, j < k → ltK (l.getD j t0) p) → (k < l.length → ¬ ltK (l.getD k t0) p ∧ ¬ sd (l.getD k t0) p) → putK p l = l.take k ++ p :: l.drop k
  | [], k, h, _, _ => by
    have : k = 0 := by simpa using h
    subst this; rfl
  | q :: r, 0, _, _, h2 => by
    obtain ⟨h3, h4⟩ : ¬ ltK q p ∧ ¬ sd q p := h2 (by simp)
    unfold putK
    rw [if_neg h3, if_neg h4]; rfl
  | q :: r, k + 1, h, h1, h2 => by
    have h3 : ltK q p := h1 0 (by omega)
    unfold putK
    rw [if_pos h3, putK_at (l := r) (k := k) (by simpa using h) (fun j hj => h1 (j + 1) (by omega)) (fun hk => h2 (by simpa using hk))]; rfl
theorem putK_same {p : Rc} : ∀ {l : List Rc} {k : Nat}, k < l.length → (∀ j, j < k → ltK (l.getD j t0) p) → sd (l.getD k t0) p → putK p l = l
  | [], k, h, _, _ => by simp at h
  | q :: r, 0, _, _, h2 => by
    have h3 : sd q p := h2
    have h4 : ¬ ltK q p := fun h => ltK_irrefl q (lt_sd h (sd_symm h3))
    unfold putK
    rw [if_neg h4, if_pos h3]
  | q :: r, k + 1, h, h1, h2 => by
    have h3 : ltK q p := h1 0 (by omega)
    unfold putK
    rw [if_pos h3, putK_same (l := r) (k := k) (by simpa using h) (fun j hj => h1 (j + 1) (by omega)) h2]
theorem putK_len (p : Rc) : ∀ l : List Rc, (putK p l).length ≤ l.length + 1
  | [] => by simp [putK]
  | q :: r => by
    have := putK_len p r
    unfold putK
    split
    · simp only [List.length_cons]; omega
    · split <;> simp
theorem putK_fit {p : Rc} (hp : fitR p) : ∀ {l : List Rc}, (∀ q ∈ l, fitR q) → ∀ q ∈ putK p l, fitR q
  | [], _, q, hq => by simp [putK] at hq; rw [hq]; exact hp
  | q :: r, h, x, hx => by
    unfold putK at hx
    split at hx
    · rcases List.mem_cons.1 hx with rfl | hx
      · exact h x List.mem_cons_self
      · exact putK_fit hp (fun y hy => h y (List.mem_cons_of_mem _ hy)) x hx
    · split at hx
      · exact h x hx
      · rcases List.mem_cons.1 hx with rfl | hx
        · exact hp
        · exact h x hx
end Ky
theorem one56 (w : World) (k : Int) (s : ByteArray) : Src (w.alloc (.cells #[.int .i64 k, .string s, .int .i64 0] 56)) (some ⟨w.heap.size, 0, none⟩) 1 1 3 (En.enc ⟨k, s, 0⟩) := En.blk_src (p := ⟨k, s, 0⟩) (blk_new w (En.enc ⟨k, s, 0⟩) 56)
set_option maxRecDepth 100000 in
set_option maxHeartbeats 16000000 in
theorem put30 (A : Option Addr) (n c : Nat) (l : List Ky.Rc) (k : Int) (ks : ByteArray) (w : World) (h : EnR w A n c l) (hn : n < 1000000) (hs : ks.size ≤ 9223372036854775807) : Calls Try.prog 30 #[.slice A n c, .int .i64 k, .string ks] w (EnsP w (Ky.putK ⟨k, ks, 0⟩ l)) := by
  have H := Lib.hid h
  have hc := h.cap
  have hl : l.length = n := by have := h.len; rwa [List.length_map] at this
  have HL := Lib.hid hl
  have HFt := Lib.hid (show ∀ p ∈ l, Ky.fitR p from fun p hp => h.fit (toE p) (List.mem_map.2 ⟨p, hp, rfl⟩))
  have HF2 := Lib.hid (Ky.putK_fit (p := ⟨k, ks, 0⟩) hs HFt.out)
  have HPl := Lib.hid (Ky.putK_len ⟨k, ks, 0⟩ l)
  obtain ⟨i0, hi, hz0, hz1, hz2⟩ := info_parts info56
  have HI := Lib.hid (And.intro hi (And.intro hz0 (And.intro hz1 hz2)))
  clear h hi hz0 hz1 hz2 hl
  go_enter Try.func30, Try.ntmps30
  go_wp2
  go_loopg [7] n (fun gg s7 wr => ∃ kk : Nat, kk ≤ n ∧ n - kk ≤ gg ∧ s7 = .int .i64 (kk : Int) ∧ Hid (∀ j, j < kk → Ky.ltK (l.getD j Ky.t0) ⟨k, ks, 0⟩) ∧ wr = w)
  case atStart => exact ⟨0, Nat.zero_le _, by omega, rfl, Lib.hid (fun j hj => absurd hj (Nat.not_lt_zero _)), rfl⟩
  case round =>
    obtain ⟨kk, hkk, hg, rfl, HJ, rfl⟩ := hrel
    by_cases hlt : kk < n
    · have hltz : (kk : Int) < (n : Int) := by omega
      have hk0 : (0 : Int) ≤ (kk : Int) := by omega
      obtain ⟨b, off, eA, hbl, hr, _⟩ := H.out.get hlt
      rw [toE_at (by rw [HL.out]; exact hlt)] at hr
      have q0 : wr.cell? ⟨b, off + kk * 3, none⟩ = some (.int .i64 (l.getD kk Ky.t0).k) := hr 0 _ rfl
      have q1 : wr.cell? ⟨b, off + kk * 3 + 1, none⟩ = some (.string (l.getD kk Ky.t0).key) := hr 1 _ rfl
      have HJ2 : Hid (Ky.ltK (l.getD kk Ky.t0) ⟨k, ks, 0⟩ → ∀ j, j < kk + 1 → Ky.ltK (l.getD j Ky.t0) ⟨k, ks, 0⟩) := Lib.hid (fun h j hj => by
        by_cases e : j = kk
        · subst e; exact h
        · exact HJ.out j (by omega))
      have HSd : Hid (Ky.sd (l.getD kk Ky.t0) ⟨k, ks, 0⟩ → Ky.putK ⟨k, ks, 0⟩ l = l) := Lib.hid (fun h => Ky.putK_same (by rw [HL.out]; exact hlt) HJ.out h)
      have HIn : Hid (¬ Ky.ltK (l.getD kk Ky.t0) ⟨k, ks, 0⟩ → ¬ Ky.sd (l.getD kk Ky.t0) ⟨k, ks, 0⟩ → Ky.putK ⟨k, ks, 0⟩ l = l.take kk ++ ⟨k, ks, 0⟩ :: l.drop kk) := Lib.hid (fun h1 h2 => Ky.putK_at (by rw [HL.out]; exact hkk) HJ.out (fun _ => ⟨h1, h2⟩))
      clear hr
      generalize l.getD kk Ky.t0 = q at q0 q1 HJ2 HSd HIn
      rcases Int.lt_trichotomy q.k k with hq | hq | hq
      · have HJ3 := Lib.hid (HJ2.out (.inl hq))
        generalize q.k = x at q0 hq
        clear HJ2 HSd HIn
        subst eA
        go_wp2
        go_roundg (n - (kk + 1))
        case measure => omega
        case rel => exact ⟨kk + 1, by omega, by omega, by go_num, HJ3, rfl⟩
      · have z1 : ¬ q.k < k := by omega
        have z2 : (q.k == k) = true := beq_iff_eq.2 hq
        by_cases hy : q.key.toList < ks.toList
        · have HJ3 := Lib.hid (HJ2.out (.inr ⟨hq, hy⟩))
          have z3 : Op.bytesLess q.key.toList ks.toList = true := by rw [bytesLess_eq]; exact decide_eq_true hy
          generalize q.k = x at q0 z1 z2
          generalize q.key = y at q1 z3
          clear HJ2 HSd HIn hq hy
          subst eA
          go_wp2
          go_roundg (n - (kk + 1))
          case measure => omega
          case rel => exact ⟨kk + 1, by omega, by omega, by go_num, HJ3, rfl⟩
        · have z3 : Op.bytesLess q.key.toList ks.toList = false := by rw [bytesLess_eq]; exact decide_eq_false hy
          by_cases hyq : q.key.toList = ks.toList
          · have HE := Lib.hid (HSd.out ⟨hq, hyq⟩)
            have z4 : (q.key.toList == ks.toList) = true := beq_iff_eq.2 hyq
            generalize q.k = x at q0 z1 z2
            generalize q.key = y at q1 z3 z4
            clear HJ2 HSd HIn hq hy hyq
            subst eA
            go_wp2
            go_ret
            rw [HE.out]
            exact ⟨_, c, (by rw [HL.out]; rfl), (by rw [HL.out]; exact H.out), Below.refl _ _⟩
          · have HE := Lib.hid (HIn.out (by rintro (h | ⟨_, h⟩); exact z1 h; exact hy h) (fun h => hyq h.2))
            have z4 : (q.key.toList == ks.toList) = false := beq_eq_false_iff_ne.2 hyq
            generalize q.k = x at q0 z1 z2
            generalize q.key = y at q1 z3 z4
            clear HJ2 HSd HIn hq hy hyq
            subst eA
            have r1 := run_toE (A := (some ⟨b, off, none⟩ : Option Addr)) (n := n) (c := c) (k := kk) hkk hc
            have r2 := run_fromE (A := (some ⟨b, off, none⟩ : Option Addr)) (n := n) (c := c) (k := kk) hkk hc
            have S1 := Lib.hid (H.out.takeSrc (k := kk) hkk)
            have S2 := Lib.hid (H.out.dropSrc (k := kk) hkk)
            generalize (if c = kk then (some ⟨b, off, none⟩ : Option Addr) else Option.map (fun x => x.add (kk * 3)) (some ⟨b, off, none⟩ : Option Addr)) = A2 at r2 S2
            have OM := Lib.hid (World.ownsRow_made (base := wr.heap.size) (e := 56) (size := 3) wr #[] 0 (Nat.le_refl _) (by decide) (by simp))
            have BA := Lib.hid ((Below.refl wr.heap.size wr).alloc (Nat.le_refl _) (.cells #[] 56))
            have S1a := Lib.hid (S1.out.below BA.out)
            have hll := HL.out
            clear HJ
            go_wp2_with (first
              | (at_builtin; (refine wpList_append_any _ rfl _ _ 37 rfl wr.heap.size 56 i0 _ 3 32 Try.underlying37 HI.out.1 HI.out.2.1 HI.out.2.2.1 HI.out.2.2.2 rfl (by decide) _ (kk + 1) (clK (l.take kk) ++ En.enc ⟨k, ks, 0⟩) rfl O3.out A2 (n - kk) (c - kk) (En.cl ((l.map toE).drop kk)) rfl (S2.out.below B3.out) (by unfold maxLen; omega) (by omega) B3.out.size ?_); intro v4 w4 hgr; have B4 := Lib.hid (hgr.below B3.out O3.out); have O4 := Lib.hid (show w4.ownsRow wr.heap.size 56 3 v4 (n + 1) (clK (Ky.putK ⟨k, ks, 0⟩ l)) by have := hgr.own; rw [HE.out, clK_append, show (⟨k, ks, 0⟩ : Ky.Rc) :: l.drop kk = [⟨k, ks, 0⟩] ++ l.drop kk from rfl, clK_append, ← clK_one, ← List.append_assoc]; rw [show kk + 1 + (n - kk) = n + 1 by omega, ← List.map_drop] at this; exact this); clear hgr)
              | (at_builtin; refine wpList_append_any _ rfl _ _ 37 rfl wr.heap.size 56 i0 _ 3 32 Try.underlying37 HI.out.1 HI.out.2.1 HI.out.2.2.1 HI.out.2.2.2 rfl (by decide) _ kk (clK (l.take kk)) rfl (O2.out.alloc _) _ 1 1 (En.enc ⟨k, ks, 0⟩) rfl (one56 _ k ks) (by unfold maxLen; omega) (by omega) (B2.out.alloc B2.out.size _).size ?_; intro v3 w3 hgr; have B3 := Lib.hid (hgr.below (B2.out.alloc B2.out.size _) (O2.out.alloc _)); have O3 := Lib.hid hgr.own; clear hgr)
              | (at_builtin; refine wpList_append_any _ rfl _ _ 37 rfl wr.heap.size 56 i0 _ 3 32 Try.underlying37 HI.out.1 HI.out.2.1 HI.out.2.2.1 HI.out.2.2.2 rfl (by decide) _ 0 [] rfl OM.out (some ⟨b, off, none⟩ : Option Addr) kk c (En.cl ((l.map toE).take kk)) rfl S1a.out (by unfold maxLen; omega) (by omega) BA.out.size ?_; intro v2 w2 hgr; have B2 := Lib.hid (hgr.below BA.out OM.out); have O2 := Lib.hid (show w2.ownsRow wr.heap.size 56 3 v2 kk (clK (l.take kk)) by have := hgr.own; rw [Nat.zero_add, List.nil_append, ← List.map_take] at this; exact this); clear hgr)
              | go_in)
            have hpl : (Ky.putK ⟨k, ks, 0⟩ l).length = n + 1 := by rw [HE.out]; simp; omega
            obtain ⟨A4, c4, hv4, _⟩ := Q.own_slice O4.out
            subst hv4
            go_ret
            exact ensP_own O4.out hpl (by omega) HF2.out B4.out
      · have HE := Lib.hid (HIn.out (by rintro (h | ⟨h, _⟩) <;> simp only [] at h <;> omega) (fun h => by have := h.1; simp only [] at this; omega))
        have z1 : ¬ q.k < k := by omega
        have z2 : (q.k == k) = false := beq_eq_false_iff_ne.2 (by omega)
        generalize q.k = x at q0 z1 z2 hq
        clear HJ2 HSd HIn
        subst eA
        have r1 := run_toE (A := (some ⟨b, off, none⟩ : Option Addr)) (n := n) (c := c) (k := kk) hkk hc
        have r2 := run_fromE (A := (some ⟨b, off, none⟩ : Option Addr)) (n := n) (c := c) (k := kk) hkk hc
        have S1 := Lib.hid (H.out.takeSrc (k := kk) hkk)
        have S2 := Lib.hid (H.out.dropSrc (k := kk) hkk)
        generalize (if c = kk then (some ⟨b, off, none⟩ : Option Addr) else Option.map (fun x => x.add (kk * 3)) (some ⟨b, off, none⟩ : Option Addr)) = A2 at r2 S2
        have OM := Lib.hid (World.ownsRow_made (base := wr.heap.size) (e := 56) (size := 3) wr #[] 0 (Nat.le_refl _) (by decide) (by simp))
        have BA := Lib.hid ((Below.refl wr.heap.size wr).alloc (Nat.le_refl _) (.cells #[] 56))
        have S1a := Lib.hid (S1.out.below BA.out)
        have hll := HL.out
        clear HJ
        go_wp2_with (first
          | (at_builtin; (refine wpList_append_any _ rfl _ _ 37 rfl wr.heap.size 56 i0 _ 3 32 Try.underlying37 HI.out.1 HI.out.2.1 HI.out.2.2.1 HI.out.2.2.2 rfl (by decide) _ (kk + 1) (clK (l.take kk) ++ En.enc ⟨k, ks, 0⟩) rfl O3.out A2 (n - kk) (c - kk) (En.cl ((l.map toE).drop kk)) rfl (S2.out.below B3.out) (by unfold maxLen; omega) (by omega) B3.out.size ?_); intro v4 w4 hgr; have B4 := Lib.hid (hgr.below B3.out O3.out); have O4 := Lib.hid (show w4.ownsRow wr.heap.size 56 3 v4 (n + 1) (clK (Ky.putK ⟨k, ks, 0⟩ l)) by have := hgr.own; rw [HE.out, clK_append, show (⟨k, ks, 0⟩ : Ky.Rc) :: l.drop kk = [⟨k, ks, 0⟩] ++ l.drop kk from rfl, clK_append, ← clK_one, ← List.append_assoc]; rw [show kk + 1 + (n - kk) = n + 1 by omega, ← List.map_drop] at this; exact this); clear hgr)
          | (at_builtin; refine wpList_append_any _ rfl _ _ 37 rfl wr.heap.size 56 i0 _ 3 32 Try.underlying37 HI.out.1 HI.out.2.1 HI.out.2.2.1 HI.out.2.2.2 rfl (by decide) _ kk (clK (l.take kk)) rfl (O2.out.alloc _) _ 1 1 (En.enc ⟨k, ks, 0⟩) rfl (one56 _ k ks) (by unfold maxLen; omega) (by omega) (B2.out.alloc B2.out.size _).size ?_; intro v3 w3 hgr; have B3 := Lib.hid (hgr.below (B2.out.alloc B2.out.size _) (O2.out.alloc _)); have O3 := Lib.hid hgr.own; clear hgr)
          | (at_builtin; refine wpList_append_any _ rfl _ _ 37 rfl wr.heap.size 56 i0 _ 3 32 Try.underlying37 HI.out.1 HI.out.2.1 HI.out.2.2.1 HI.out.2.2.2 rfl (by decide) _ 0 [] rfl OM.out (some ⟨b, off, none⟩ : Option Addr) kk c (En.cl ((l.map toE).take kk)) rfl S1a.out (by unfold maxLen; omega) (by omega) BA.out.size ?_; intro v2 w2 hgr; have B2 := Lib.hid (hgr.below BA.out OM.out); have O2 := Lib.hid (show w2.ownsRow wr.heap.size 56 3 v2 kk (clK (l.take kk)) by have := hgr.own; rw [Nat.zero_add, List.nil_append, ← List.map_take] at this; exact this); clear hgr)
          | go_in)
        have hpl : (Ky.putK ⟨k, ks, 0⟩ l).length = n + 1 := by rw [HE.out]; simp; omega
        obtain ⟨A4, c4, hv4, _⟩ := Q.own_slice O4.out
        subst hv4
        go_ret
        exact ensP_own O4.out hpl (by omega) HF2.out B4.out
    · have hltz : ¬ (kk : Int) < (n : Int) := by omega
      have HE := Lib.hid (Ky.putK_at (p := ⟨k, ks, 0⟩) (l := l) (k := kk) (by rw [HL.out]; exact hkk) HJ.out (fun h => absurd h (by rw [HL.out]; omega)))
      have eA : A = A := rfl
      clear eA
      have r1 := run_toE (A := A) (n := n) (c := c) (k := kk) hkk hc
      have r2 := run_fromE (A := A) (n := n) (c := c) (k := kk) hkk hc
      have S1 := Lib.hid (H.out.takeSrc (k := kk) hkk)
      have S2 := Lib.hid (H.out.dropSrc (k := kk) hkk)
      generalize (if c = kk then A else Option.map (fun x => x.add (kk * 3)) A) = A2 at r2 S2
      have OM := Lib.hid (World.ownsRow_made (base := wr.heap.size) (e := 56) (size := 3) wr #[] 0 (Nat.le_refl _) (by decide) (by simp))
      have BA := Lib.hid ((Below.refl wr.heap.size wr).alloc (Nat.le_refl _) (.cells #[] 56))
      have S1a := Lib.hid (S1.out.below BA.out)
      have hll := HL.out
      clear HJ
      go_wp2_with (first
        | (at_builtin; (refine wpList_append_any _ rfl _ _ 37 rfl wr.heap.size 56 i0 _ 3 32 Try.underlying37 HI.out.1 HI.out.2.1 HI.out.2.2.1 HI.out.2.2.2 rfl (by decide) _ (kk + 1) (clK (l.take kk) ++ En.enc ⟨k, ks, 0⟩) rfl O3.out A2 (n - kk) (c - kk) (En.cl ((l.map toE).drop kk)) rfl (S2.out.below B3.out) (by unfold maxLen; omega) (by omega) B3.out.size ?_); intro v4 w4 hgr; have B4 := Lib.hid (hgr.below B3.out O3.out); have O4 := Lib.hid (show w4.ownsRow wr.heap.size 56 3 v4 (n + 1) (clK (Ky.putK ⟨k, ks, 0⟩ l)) by have := hgr.own; rw [HE.out, clK_append, show (⟨k, ks, 0⟩ : Ky.Rc) :: l.drop kk = [⟨k, ks, 0⟩] ++ l.drop kk from rfl, clK_append, ← clK_one, ← List.append_assoc]; rw [show kk + 1 + (n - kk) = n + 1 by omega, ← List.map_drop] at this; exact this); clear hgr)
        | (at_builtin; refine wpList_append_any _ rfl _ _ 37 rfl wr.heap.size 56 i0 _ 3 32 Try.underlying37 HI.out.1 HI.out.2.1 HI.out.2.2.1 HI.out.2.2.2 rfl (by decide) _ kk (clK (l.take kk)) rfl (O2.out.alloc _) _ 1 1 (En.enc ⟨k, ks, 0⟩) rfl (one56 _ k ks) (by unfold maxLen; omega) (by omega) (B2.out.alloc B2.out.size _).size ?_; intro v3 w3 hgr; have B3 := Lib.hid (hgr.below (B2.out.alloc B2.out.size _) (O2.out.alloc _)); have O3 := Lib.hid hgr.own; clear hgr)
        | (at_builtin; refine wpList_append_any _ rfl _ _ 37 rfl wr.heap.size 56 i0 _ 3 32 Try.underlying37 HI.out.1 HI.out.2.1 HI.out.2.2.1 HI.out.2.2.2 rfl (by decide) _ 0 [] rfl OM.out A kk c (En.cl ((l.map toE).take kk)) rfl S1a.out (by unfold maxLen; omega) (by omega) BA.out.size ?_; intro v2 w2 hgr; have B2 := Lib.hid (hgr.below BA.out OM.out); have O2 := Lib.hid (show w2.ownsRow wr.heap.size 56 3 v2 kk (clK (l.take kk)) by have := hgr.own; rw [Nat.zero_add, List.nil_append, ← List.map_take] at this; exact this); clear hgr)
        | go_in)
      have hpl : (Ky.putK ⟨k, ks, 0⟩ l).length = n + 1 := by rw [HE.out]; simp; omega
      obtain ⟨A4, c4, hv4, _⟩ := Q.own_slice O4.out
      subst hv4
      go_ret
      exact ensP_own O4.out hpl (by omega) HF2.out B4.out
end Go.Proofs.Ytbedibiodlgegaa
