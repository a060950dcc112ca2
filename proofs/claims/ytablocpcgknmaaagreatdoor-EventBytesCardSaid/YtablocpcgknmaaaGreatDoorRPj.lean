/- Lists of numbers and events as data. No condition. -/
import Derived.Test.YtablocpcgknmaaaGreatDoorRK14
namespace Go.Proofs.YtablocpcgknmaaaGreatDoor
open Go Go.RowKit
set_option linter.unusedVariables false
set_option linter.unusedSimpArgs false
set_option maxRecDepth 100000

def rowI (l : List Int) (j : Nat) : List Value := [.int .i64 (l.getD j 0)]
/-- A list of numbers in memory. -/
structure Ins (w : World) (A : Option Addr) (n c : Nat) (l : List Int) : Prop where
 rws : Rws w A n c 1 (rowI l)
 len : l.length = n
 cap : n ≤ c
 fit : ∀ z ∈ l, i64B z
theorem Ins.below {w w1 : World} {A : Option Addr} {n c : Nat} {l : List Int} (h : Ins w A n c l) (hb : Below w.heap.size w w1) : Ins w1 A n c l := ⟨h.rws.below hb, h.len, h.cap, h.fit⟩
theorem Ins.other {w : World} {A : Option Addr} {n c : Nat} {l : List Int} (h : Ins w A n c l) (a : Addr) (v : Value) (hne : 0 < n → ∀ b off, A = some ⟨b, off, none⟩ → b ≠ a.block) : Ins (w.setCell a v) A n c l := ⟨h.rws.other a v hne, h.len, h.cap, h.fit⟩
theorem Ins.otherAll {w : World} {A : Option Addr} {n c : Nat} {l : List Int} (h : Ins w A n c l) (g o : Nat) (vs : List Value) (hne : 0 < n → ∀ b off, A = some ⟨b, off, none⟩ → b ≠ g) : Ins (w.setCells g o vs) A n c l := ⟨h.rws.otherAll g o vs hne, h.len, h.cap, h.fit⟩
theorem Ins.nil (w : World) : Ins w none 0 0 [] := ⟨Rws.zero _ _ _ _ _ (fun _ => rfl), rfl, Nat.le_refl _, by simp⟩
theorem Ins.get {w : World} {A : Option Addr} {n c : Nat} {l : List Int} (h : Ins w A n c l) {k : Nat} (hk : k < n) : ∃ b off, A = some ⟨b, off, none⟩ ∧ b < w.heap.size ∧ w.cell? ⟨b, off + k, none⟩ = some (.int .i64 (l.getD k 0)) := by
 obtain ⟨b, off, e, hb, hc⟩ := h.rws.get hk
 refine ⟨b, off, e, hb, ?_⟩
 have := hc 0 _ rfl
 rwa [Nat.mul_one, Nat.add_zero] at this
/-- An event. -/
structure Ew where
 id : Int
 rm : ByteArray
 sd : ByteArray
 kd : Int
 st : Bool
 ky : ByteArray
 tm : Int
 dp : Int
 pv : List Int
 au : List Int
 c : Cn
 hs : Int
 sv : ByteArray
 sm : Int
/-- Where its lists lie. -/
structure Aw where
 pA : Option Addr
 pC : Nat
 qA : Option Addr
 qC : Nat
 c : Ads
abbrev ecs (E : Ew) (a : Aw) : List Value := [.int .i64 E.id, .string E.rm, .string E.sd, .int .i64 E.kd, .bool E.st, .string E.ky, .int .i64 E.tm, .int .i64 E.dp, .slice a.pA E.pv.length a.pC, .slice a.qA E.au.length a.qC, .string E.c.tx, .int .i64 E.c.n, .int .i64 E.c.tg, .bool E.c.th, .string E.c.via, .slice a.c.aA E.c.al.length a.c.aC, .slice a.c.dA E.c.dn.length a.c.dC, .slice a.c.uA E.c.us.length a.c.uC, .slice a.c.kA E.c.ks.length a.c.kC, .int .i64 E.c.d, .int .i64 E.c.x3, .int .i64 E.c.x4, .int .i64 E.c.x5, .int .i64 E.c.x6, .int .i64 E.c.x7, .int .i64 E.c.x8, .int .i64 E.hs, .string E.sv, .int .i64 E.sm]
abbrev z29 : List Value := [.int .i64 0, .string ⟨#[]⟩, .string ⟨#[]⟩, .int .i64 0, .bool false, .string ⟨#[]⟩, .int .i64 0, .int .i64 0, .slice none 0 0, .slice none 0 0, .string ⟨#[]⟩, .int .i64 0, .int .i64 0, .bool false, .string ⟨#[]⟩, .slice none 0 0, .slice none 0 0, .slice none 0 0, .slice none 0 0, .int .i64 0, .int .i64 0, .int .i64 0, .int .i64 0, .int .i64 0, .int .i64 0, .int .i64 0, .int .i64 0, .string ⟨#[]⟩, .int .i64 0]
structure IsE (w : World) (E : Ew) (a : Aw) : Prop where
 pv : Ins w a.pA E.pv.length a.pC E.pv
 au : Ins w a.qA E.au.length a.qC E.au
 c : IsC w E.c a.c
 rm : E.rm.size ≤ 9223372036854775807
 sd : E.sd.size ≤ 9223372036854775807
 ky : E.ky.size ≤ 9223372036854775807
 sv : E.sv.size ≤ 9223372036854775807
 id : i64B E.id
 kd : i64B E.kd
 tm : i64B E.tm
 dp : i64B E.dp
 hs : i64B E.hs
 sm : i64B E.sm
theorem IsE.below {w w1 : World} {E : Ew} {a : Aw} (h : IsE w E a) (hb : Below w.heap.size w w1) : IsE w1 E a := { h with pv := h.pv.below hb, au := h.au.below hb, c := h.c.below hb }
theorem size34 : (Tryz.prog.info? 34).map (·.size) = some 29 := by kernel_rfl
theorem size32 : (Tryz.prog.info? 32).map (·.size) = some 2 := by kernel_rfl
theorem ecs_one (E : Ew) (a : Aw) : (ecs E a).toArray.all (·.oneCell') = true := by simp [Value.oneCell']
/-- The event with another content. -/
def Ew.wc (E : Ew) (C : Cn) : Ew := { E with c := C }
def Aw.wc (a : Aw) (x : Ads) : Aw := { a with c := x }
def e0 : Ew := ⟨0, ⟨#[]⟩, ⟨#[]⟩, 0, false, ⟨#[]⟩, 0, 0, [], [], c0, 0, ⟨#[]⟩, 0⟩
def aw0 : Aw := ⟨none, 0, none, 0, ad0⟩
theorem e0_is (w : World) : IsE w e0 aw0 := ⟨Ins.nil w, Ins.nil w, c0_is w, by decide, by decide, by decide, by decide, by unfold i64B; decide, by unfold i64B; decide, by unfold i64B; decide, by unfold i64B; decide, by unfold i64B; decide, by unfold i64B; decide⟩
end Go.Proofs.YtablocpcgknmaaaGreatDoor
namespace Go.Proofs.YtablocpcgknmaaaGreatDoor
open Go.Lib (hid)
open Go Go.RowKit
set_option linter.unusedVariables false
set_option linter.unusedSimpArgs false
set_option maxRecDepth 100000

theorem ints_ext {l1 l2 : List Int} (hl : l1.length = l2.length) (h : ∀ j, j < l1.length → l1.getD j 0 = l2.getD j 0) : l1 = l2 := by
 refine List.ext_getElem hl (fun j h1 h2 => ?_)
 have := h j h1
 rwa [List.getD_eq_getElem?_getD, List.getD_eq_getElem?_getD, List.getElem?_eq_getElem h1, List.getElem?_eq_getElem h2] at this
set_option maxHeartbeats 4000000 in
theorem equal83 (A1 : Option Addr) (n1 c1 : Nat) (l1 : List Int) (A2 : Option Addr) (n2 c2 : Nat) (l2 : List Int) (w : World) (h1 : Ins w A1 n1 c1 l1) (h2 : Ins w A2 n2 c2 l2) (q : Bool) (hq : decide (l1 = l2) = q) :
  Calls Tryz.prog 83 #[.slice A1 n1 c1, .slice A2 n2 c2] w fun e w' => e = .returned (.bool q) ∧ Below w.heap.size w w' := by
 have H1 := hid h1
 have H2 := hid h2
 have hm1 := h1.rws.big
 have hm2 := h2.rws.big
 unfold maxLen at hm1 hm2
 have HL1 := hid h1.len
 have HL2 := hid h2.len
 have HQ := hid hq
 clear h1 h2 hq
 by_cases hn : n1 = n2
 ·subst hn
  go_enter Tryz.func83, Tryz.ntmps83
  go_wp2
  go_loopw [13] (fun i wr => ∃ k : Nat, k ≤ n1 ∧ i = .int .i64 k ∧ Hid (∀ j, j < k → l1.getD j 0 = l2.getD j 0) ∧ Hid (Below w.heap.size w wr)) (fun i _ => n1 - (intOf i).toNat)
  case atStart => exact ⟨0, Nat.zero_le _, rfl, hid (fun j hj => by omega), hid (Below.refl _ _)⟩
  case round =>
   obtain ⟨k, hk, rfl, HO, BW⟩ := hrel
   by_cases hlt : k < n1
   ·have hltz : (k : Int) < (n1 : Int) := by omega
    obtain ⟨b1, o1, rfl, hb1, hc1⟩ := (H1.out.below BW.out).get hlt
    obtain ⟨b2, o2, rfl, hb2, hc2⟩ := (H2.out.below BW.out).get hlt
    by_cases he : l1.getD k 0 = l2.getD k 0
    ·have HN := hid (show ∀ j, j < k + 1 → l1.getD j 0 = l2.getD j 0 from fun j hj => by
      rcases Nat.lt_or_ge j k with h | h
      ·exact HO.out j h
      ·obtain rfl : j = k := by omega
       exact he)
     rw [← he] at hc2
     generalize l1.getD k 0 = x at hc1 hc2
     clear he
     go_wp2
     go_quiet (fail)
     go_wp2
     go_roundw
     case rel => exact ⟨k + 1, by omega, by go_num, HN, hid (below_drewN BW.out _)⟩
     case measure => simp [intOf]; omega
    ·have HF := hid (show q = false by rw [← HQ.out]; exact decide_eq_false (fun e => he (by rw [e])))
     generalize l1.getD k 0 = x at he hc1
     generalize l2.getD k 0 = y at he hc2
     have hx : (x == y) = false := beq_eq_false_iff_ne.2 he
     have hx2 : (x != y) = true := by simp [bne, hx]
     clear he
     go_wp2
     go_quiet (fail)
     go_wp2
     go_ret
     rw [HF.out]
     exact ⟨rfl, below_drewN BW.out _⟩
   ·have hltz : ¬ (k : Int) < (n1 : Int) := by omega
    have HT := hid (show q = true by
     rw [← HQ.out]
     exact decide_eq_true (ints_ext (by rw [HL1.out, HL2.out]) (fun j hj => HO.out j (by rw [HL1.out] at hj; omega))))
    go_wp2
    go_ret
    rw [HT.out]
    exact ⟨rfl, BW.out⟩
 ·have HF := hid (show q = false by rw [← HQ.out]; exact decide_eq_false (fun e => hn (by rw [← HL1.out, ← HL2.out, e])))
  have hx : ((n1 : Int) == (n2 : Int)) = false := beq_eq_false_iff_ne.2 (by omega)
  go_enter Tryz.func83, Tryz.ntmps83
  go_wp2
  go_ret
  rw [HF.out]
  exact ⟨rfl, Below.refl _ _⟩
set_option maxHeartbeats 4000000 in
theorem same55 (A1 : Option Addr) (n1 c1 : Nat) (l1 : List Int) (A2 : Option Addr) (n2 c2 : Nat) (l2 : List Int) (w : World) (h1 : Ins w A1 n1 c1 l1) (h2 : Ins w A2 n2 c2 l2) (q : Bool) (hq : decide (l1 = l2) = q) :
  Calls Tryz.prog 55 #[.slice A1 n1 c1, .slice A2 n2 c2] w fun e w' => e = .returned (.bool q) ∧ Below w.heap.size w w' := by
 have H1 := hid h1
 have H2 := hid h2
 have hm1 := h1.rws.big
 have hm2 := h2.rws.big
 unfold maxLen at hm1 hm2
 have HL1 := hid h1.len
 have HL2 := hid h2.len
 have HQ := hid hq
 clear h1 h2 hq
 by_cases hn : n1 = n2
 ·subst hn
  go_enter Tryz.func55, Tryz.ntmps55
  go_wp2
  go_loopw [5] (fun i wr => ∃ k : Nat, k ≤ n1 ∧ i = .int .i64 k ∧ Hid (∀ j, j < k → l1.getD j 0 = l2.getD j 0) ∧ Hid (Below w.heap.size w wr)) (fun i _ => n1 - (intOf i).toNat)
  case atStart => exact ⟨0, Nat.zero_le _, rfl, hid (fun j hj => by omega), hid (Below.refl _ _)⟩
  case round =>
   obtain ⟨k, hk, rfl, HO, BW⟩ := hrel
   by_cases hlt : k < n1
   ·have hltz : (k : Int) < (n1 : Int) := by omega
    obtain ⟨b1, o1, rfl, hb1, hc1⟩ := (H1.out.below BW.out).get hlt
    obtain ⟨b2, o2, rfl, hb2, hc2⟩ := (H2.out.below BW.out).get hlt
    by_cases he : l1.getD k 0 = l2.getD k 0
    ·have HN := hid (show ∀ j, j < k + 1 → l1.getD j 0 = l2.getD j 0 from fun j hj => by
      rcases Nat.lt_or_ge j k with h | h
      ·exact HO.out j h
      ·obtain rfl : j = k := by omega
       exact he)
     rw [← he] at hc2
     generalize l1.getD k 0 = x at hc1 hc2
     clear he
     go_wp2
     go_quiet (fail)
     go_wp2
     go_roundw
     case rel => exact ⟨k + 1, by omega, by go_num, HN, hid (below_drewN BW.out _)⟩
     case measure => simp [intOf]; omega
    ·have HF := hid (show q = false by rw [← HQ.out]; exact decide_eq_false (fun e => he (by rw [e])))
     generalize l1.getD k 0 = x at he hc1
     generalize l2.getD k 0 = y at he hc2
     have hx : (x == y) = false := beq_eq_false_iff_ne.2 he
     have hx2 : (x != y) = true := by simp [bne, hx]
     clear he
     go_wp2
     go_quiet (fail)
     go_wp2
     go_ret
     rw [HF.out]
     exact ⟨rfl, below_drewN BW.out _⟩
   ·have hltz : ¬ (k : Int) < (n1 : Int) := by omega
    have HT := hid (show q = true by
     rw [← HQ.out]
     exact decide_eq_true (ints_ext (by rw [HL1.out, HL2.out]) (fun j hj => HO.out j (by rw [HL1.out] at hj; omega))))
    go_wp2
    go_ret
    rw [HT.out]
    exact ⟨rfl, BW.out⟩
 ·have HF := hid (show q = false by rw [← HQ.out]; exact decide_eq_false (fun e => hn (by rw [← HL1.out, ← HL2.out, e])))
  have hx : ((n1 : Int) == (n2 : Int)) = false := beq_eq_false_iff_ne.2 (by omega)
  go_enter Tryz.func55, Tryz.ntmps55
  go_wp2
  go_ret
  rw [HF.out]
  exact ⟨rfl, Below.refl _ _⟩
/-- Whether numbers increase from more than the first on. -/
def ris : Int → List Int → Bool
 | _, [] => true
 | x, y :: r => if y ≤ x then false else ris y r
def lastI (l : List Int) (k : Nat) : Int := if k = 0 then -1 else l.getD (k - 1) 0
theorem lastI_succ (l : List Int) (k : Nat) : lastI l (k + 1) = l.getD k 0 := rfl
theorem drop_i {l : List Int} {k : Nat} (hk : k < l.length) : l.drop k = l.getD k 0 :: l.drop (k + 1) := by
 rw [List.drop_eq_getElem_cons hk, List.getD_eq_getElem?_getD, List.getElem?_eq_getElem hk]; rfl
theorem ris_no {l : List Int} {k : Nat} (hk : k < l.length) (h : l.getD k 0 ≤ lastI l k) : ris (lastI l k) (l.drop k) = false := by
 rw [drop_i hk]; unfold ris; exact if_pos h
theorem ris_on {l : List Int} {k : Nat} (hk : k < l.length) (h : ¬ l.getD k 0 ≤ lastI l k) : ris (lastI l k) (l.drop k) = ris (lastI l (k + 1)) (l.drop (k + 1)) := by
 rw [drop_i hk]; conv => lhs; unfold ris
 rw [if_neg h]; rfl
theorem ris_end {l : List Int} {k : Nat} (hk : l.length ≤ k) : ris (lastI l k) (l.drop k) = true := by
 rw [List.drop_eq_nil_of_le hk]; rfl
set_option maxHeartbeats 4000000 in
theorem rise93 (A : Option Addr) (n c : Nat) (l : List Int) (w : World) (h : Ins w A n c l) : Calls Tryz.prog 93 #[.slice A n c] w fun e w' => e = .returned (.bool (ris (-1) l)) ∧ w = w' := by
 have H := hid h
 have hm := h.rws.big
 unfold maxLen at hm
 have HL := hid h.len
 obtain ⟨q, hq⟩ : ∃ q, ris (-1) l = q := ⟨_, rfl⟩
 have HQ := hid hq
 rw [hq]
 clear h hq
 go_enter Tryz.func93, Tryz.ntmps93
 go_wp2
 go_loopw [3, 8] (fun x i wr => ∃ (k : Nat) (z : Int), k ≤ n ∧ i = .int .i64 k ∧ x = .int .i64 z ∧ Hid (z = lastI l k) ∧ Hid (ris (lastI l k) (l.drop k) = q) ∧ w = wr) (fun _ i _ => n - (intOf i).toNat)
 case atStart => exact ⟨0, -1, Nat.zero_le _, rfl, rfl, hid rfl, HQ, rfl⟩
 case round =>
  obtain ⟨k, z, hk, rfl, rfl, HZ, HR, rfl⟩ := hrel
  by_cases hlt : k < n
  ·have hltz : (k : Int) < (n : Int) := by omega
   obtain ⟨b, o, rfl, hb, hc⟩ := H.out.get hlt
   by_cases hx : l.getD k 0 ≤ z
   ·have HF := hid (show q = false by rw [← HR.out]; exact ris_no (by rw [HL.out]; exact hlt) (by rw [← HZ.out]; exact hx))
    generalize l.getD k 0 = y at hc hx
    go_wp2
    go_ret
    rw [HF.out]
    exact ⟨rfl, rfl⟩
   ·have HN := hid (show ris (lastI l (k + 1)) (l.drop (k + 1)) = q by rw [← HR.out]; exact (ris_on (by rw [HL.out]; exact hlt) (by rw [← HZ.out]; exact hx)).symm)
    obtain ⟨y, hy⟩ : ∃ y, l.getD k 0 = y := ⟨_, rfl⟩
    have HY := hid hy
    rw [hy] at hc hx
    clear hy
    go_wp2
    go_roundw
    case rel => exact ⟨k + 1, y, by omega, by go_num, rfl, hid (by rw [lastI_succ]; exact HY.out.symm), HN, by first | rfl | trivial⟩
    case measure => simp [intOf]; omega
  ·have hltz : ¬ (k : Int) < (n : Int) := by omega
   have HT := hid (show q = true by rw [← HR.out]; exact ris_end (by rw [HL.out]; omega))
   go_wp2
   go_ret
   rw [HT.out]
   exact ⟨rfl, rfl⟩
end Go.Proofs.YtablocpcgknmaaaGreatDoor
