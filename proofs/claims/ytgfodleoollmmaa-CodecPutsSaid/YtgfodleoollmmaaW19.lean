/- The value of the codec's statements (six fields) and the walk of `great`. No condition but that the strings' sizes are ints. -/
import Derived.Test.YtgfodleoollmmaaW18
import Derived.Test.YtgfodleoollmmaaV1
namespace Go.Proofs.Ytgfodleoollmmaa
open Go.RowKit
set_option linter.unusedVariables false

/-- The slice of strings at `a` has `len` elements, which are `ss`, of whatever sizes. -/
structure Tw (w : World) (a : Option Addr) (len cap : Nat) (ss : List ByteArray) : Prop where
  sz : ss.length = len
  bd : ∀ z ∈ ss, z.size ≤ 9223372036854775807
  le : len ≤ cap
  nl : a = none → cap = 0
  cell : 0 < len → ∃ b off, a = some ⟨b, off, none⟩ ∧ b < w.heap.size ∧ ∀ i, i < len → w.cell? ⟨b, off + i, none⟩ = some (.string (ss.getD i ⟨#[]⟩))
theorem Tw.text {w : World} {a : Option Addr} {len cap : Nat} {zs : List ByteArray} (h : Tw w a len cap zs) {k : Nat} (hk : k < len) :
    ∃ b off, a = some ⟨b, off, none⟩ ∧ ∃ z : ByteArray, zs.getD k ⟨#[]⟩ = z ∧ z.size ≤ 9223372036854775807 ∧ b < w.heap.size ∧ w.cell? ⟨b, off + k, none⟩ = some (.string z) := by
  obtain ⟨hl, hb, _, _, hc⟩ := h
  obtain ⟨b, off, ha, hlt, hc⟩ := hc (by omega)
  have hm : zs.getD k ⟨#[]⟩ ∈ zs := by
    rw [List.getD_eq_getElem?_getD, List.getElem?_eq_getElem (by omega)]; simp
  exact ⟨b, off, ha, _, rfl, hb _ hm, hlt, hc k hk⟩
theorem Tw.small {w : World} {a : Option Addr} {len cap : Nat} {zs : List ByteArray} (h : Tw w a len cap zs) (hs : ∀ z ∈ zs, z.size ≤ 2000) : Ts w a len cap zs :=
  ⟨h.sz, fun z hz => by have := hs z hz; unfold Small; omega, h.le, h.nl, h.cell⟩
/-- A value, its fields written out. -/
abbrev vl (aB : Option Addr) (lB cB : Nat) (N : Int) (S : ByteArray) (aL : Option Addr) (lL cL : Nat) (aT : Option Addr) (lT cT : Nat) (b : Bool) : Value :=
  .agg #[.slice aB lB cB, .int .i64 N, .string S, .slice aL lL cL, .slice aT lT cT, .bool b]
abbrev bx (aB : Option Addr) (lB cB : Nat) (N : Int) (S : ByteArray) (aL : Option Addr) (lL cL : Nat) (aT : Option Addr) (lT cT : Nat) (b : Bool) : Obj :=
  .cells #[.slice aB lB cB, .int .i64 N, .string S, .slice aL lL cL, .slice aT lT cT, .bool b] 26
/-- A block of six cells. -/
structure Held6 (w : World) (b : Nat) (x0 x1 x2 x3 x4 x5 : Value) : Prop where
  c0 : w.cell? ⟨b, 0, none⟩ = some x0
  c1 : w.cell? ⟨b, 1, none⟩ = some x1
  c2 : w.cell? ⟨b, 2, none⟩ = some x2
  c3 : w.cell? ⟨b, 3, none⟩ = some x3
  c4 : w.cell? ⟨b, 4, none⟩ = some x4
  c5 : w.cell? ⟨b, 5, none⟩ = some x5
  lt : b < w.heap.size
theorem Held6.below {w w1 : World} {b : Nat} {x0 x1 x2 x3 x4 x5 : Value} (h : Held6 w b x0 x1 x2 x3 x4 x5) (hb : Below w.heap.size w w1) : Held6 w1 b x0 x1 x2 x3 x4 x5 :=
  ⟨(hb.cell (p := ⟨b, 0, none⟩) h.lt).trans h.c0, (hb.cell (p := ⟨b, 1, none⟩) h.lt).trans h.c1, (hb.cell (p := ⟨b, 2, none⟩) h.lt).trans h.c2, (hb.cell (p := ⟨b, 3, none⟩) h.lt).trans h.c3,
   (hb.cell (p := ⟨b, 4, none⟩) h.lt).trans h.c4, (hb.cell (p := ⟨b, 5, none⟩) h.lt).trans h.c5, Nat.lt_of_lt_of_le h.lt hb.size⟩
theorem held6_new (w : World) (x0 x1 x2 x3 x4 x5 : Value) : Held6 (w.alloc (.cells #[x0, x1, x2, x3, x4, x5] 26)) w.heap.size x0 x1 x2 x3 x4 x5 :=
  ⟨new_cell w _ 26 (0, 0) 0, new_cell w _ 26 (0, 0) 1, new_cell w _ 26 (0, 0) 2, new_cell w _ 26 (0, 0) 3, new_cell w _ 26 (0, 0) 4, new_cell w _ 26 (0, 0) 5, by simp⟩

def tot (ss : List ByteArray) : Nat := (ss.map ByteArray.size).sum
theorem tot_snoc (ss : List ByteArray) (s : ByteArray) : tot (ss ++ [s]) = tot ss + s.size := by simp [tot]
theorem ents_len (ss : List ByteArray) (h : ∀ s ∈ ss, Small s) : (ents ss).length ≤ 11 * ss.length + tot ss := by
  induction ss with
  | nil => simp [ents]
  | cons s ss ih =>
    have i := ih (fun t ht => h t (by simp [ht]))
    have hs := h s (by simp)
    have h2 := (ent_bd hs).2
    unfold Small at hs
    have h3 := (C.enc_bd (C.zig_lt (in_len s.size hs))).2.2
    have e : tot (s :: ss) = s.size + tot ss := by simp [tot]
    rw [ents_cons, List.length_append, List.length_cons, e]
    omega
/-- What is not too great. -/
structure Fits (lB : Nat) (S : ByteArray) (lL lT : Nat) (ss : List ByteArray) : Prop where
  b : lB ≤ 2000
  s : S.size ≤ 2000
  l : lL ≤ 2000
  t : lT ≤ 2000
  e : ∀ z ∈ ss, z.size ≤ 2000
  n : tot ss ≤ 2000

/-- It reports whether it does not fit. -/
def GreatPost (P : Prop) (e : Ending) : Prop := ∃ g, e = .returned (.bool g) ∧ (g = false ↔ P)
theorem great_yes {P : Prop} (h : ¬ P) : GreatPost P (.returned (.bool true)) := ⟨true, rfl, (fun h => by cases h), fun q => absurd q h⟩
theorem great_no {P : Prop} (h : P) : GreatPost P (.returned (.bool false)) := ⟨false, rfl, fun _ => h, fun _ => rfl⟩
theorem great_true {P : Prop} {e : Ending} (h : GreatPost P e) (hp : ¬ P) : e = .returned (.bool true) := by
  obtain ⟨g, he, hg⟩ := h
  cases g
  · exact absurd (hg.1 rfl) hp
  · exact he
theorem great_false {P : Prop} {e : Ending} (h : GreatPost P e) (hp : P) : e = .returned (.bool false) := by
  obtain ⟨g, he, hg⟩ := h
  rw [hg.2 hp] at he
  exact he
set_option maxRecDepth 100000 in
set_option maxHeartbeats 3200000 in
theorem great_any (aB : Option Addr) (lB cB : Nat) (N : Int) (S : ByteArray) (aL : Option Addr) (lL cL : Nat) (aT : Option Addr) (lT cT : Nat) (b : Bool) (ss : List ByteArray) (w : World) (hT : Tw w aT lT cT ss) :
    Calls Try.prog 9 #[vl aB lB cB N S aL lL cL aT lT cT b] w fun e w' => GreatPost (Fits lB S lL lT ss) e ∧ Below w.heap.size w w' := by
  have HT := Lib.hid hT
  have HLen := Lib.hid hT.sz
  have HBx := Lib.hid (held6_new w (.slice aB lB cB) (.int .i64 N) (.string S) (.slice aL lL cL) (.slice aT lT cT) (.bool b))
  obtain ⟨k0, k1, k2, k3, k4, k5, kl⟩ := HBx.out
  have HW := Lib.hid (Below.alloc (Below.refl w.heap.size w) (Nat.le_refl _) (bx aB lB cB N S aL lL cL aT lT cT b))
  clear hT
  by_cases hB : 2000 < lB
  · have d : decide ((2000 : Int) < (lB : Int)) = true := by simp; omega
    have HN := Lib.hid (show ¬ Fits lB S lL lT ss from fun h => by have := h.b; omega)
    clear hB
    go_enter Try.func9, Try.ntmps9
    go_wp2
    go_ret
    exact ⟨great_yes HN.out, HW.out⟩
  have d1 : decide ((2000 : Int) < (lB : Int)) = false := by simp; omega
  by_cases hS : 2000 < S.size
  · have d : decide ((2000 : Int) < (S.size : Int)) = true := by simp; omega
    have HN := Lib.hid (show ¬ Fits lB S lL lT ss from fun h => by have := h.s; omega)
    clear hB hS
    go_enter Try.func9, Try.ntmps9
    go_wp2
    go_ret
    exact ⟨great_yes HN.out, HW.out⟩
  have d2 : decide ((2000 : Int) < (S.size : Int)) = false := by simp; omega
  by_cases hL : 2000 < lL
  · have d : decide ((2000 : Int) < (lL : Int)) = true := by simp; omega
    have HN := Lib.hid (show ¬ Fits lB S lL lT ss from fun h => by have := h.l; omega)
    clear hB hS hL
    go_enter Try.func9, Try.ntmps9
    go_wp2
    go_ret
    exact ⟨great_yes HN.out, HW.out⟩
  have d3 : decide ((2000 : Int) < (lL : Int)) = false := by simp; omega
  by_cases hTl : 2000 < lT
  · have d : decide ((2000 : Int) < (lT : Int)) = true := by simp; omega
    have HN := Lib.hid (show ¬ Fits lB S lL lT ss from fun h => by have := h.t; omega)
    clear hB hS hL hTl
    go_enter Try.func9, Try.ntmps9
    go_wp2
    go_ret
    exact ⟨great_yes HN.out, HW.out⟩
  have d4 : decide ((2000 : Int) < (lT : Int)) = false := by simp; omega
  have HF := Lib.hid (show (∀ z ∈ ss, z.size ≤ 2000) → tot ss ≤ 2000 → Fits lB S lL lT ss from fun h1 h2 => ⟨by omega, by omega, by omega, by omega, h1, h2⟩)
  have hlt2 : lT ≤ 2000 := by omega
  clear hB hS hL hTl
  go_enter Try.func9, Try.ntmps9
  go_wp2
  go_loop [3, 4] (fun n i => ∃ k m : Nat, k ≤ lT ∧ m ≤ 2000 * k ∧ n = .int .i64 m ∧ i = .int .i64 k ∧ Hid (m = tot (ss.take k)) ∧ Hid (∀ z ∈ ss.take k, z.size ≤ 2000)) (fun _ i => lT - (intOf i).toNat)
  case atStart => exact ⟨0, 0, Nat.zero_le _, by omega, rfl, rfl, Lib.hid (by simp [tot]), Lib.hid (by simp)⟩
  case round =>
    obtain ⟨k, m, hk, hm, rfl, rfl, HM, HA⟩ := hrel
    by_cases hlt : k < lT
    · obtain ⟨bb, o, rfl, z, hzk, hz63, hbl, hcell0⟩ := HT.out.text hlt
      have hcell := (HW.out.cell (p := ⟨bb, o + k, none⟩) hbl).trans hcell0
      have htk := take_snocT (by rw [HLen.out]; exact hlt) hzk
      have hzm : z ∈ ss := by
        have : z ∈ ss.take (k + 1) := by rw [htk]; simp
        exact List.mem_of_mem_take this
      have HTK := Lib.hid htk
      have HZM := Lib.hid hzm
      clear hcell0 hzk htk hzm
      by_cases hz : 2000 < z.size
      · have e1 : decide ((2000 : Int) < (z.size : Int)) = true := by simp; omega
        have HN := Lib.hid (show ¬ Fits lB S lL lT ss from fun h => by have := h.e z HZM.out; omega)
        clear hz
        go_wp2
        go_ret
        exact ⟨great_yes HN.out, HW.out⟩
      · have e1 : decide ((2000 : Int) < (z.size : Int)) = false := by simp; omega
        have HM2 := Lib.hid (show m + z.size = tot (ss.take (k + 1)) by rw [HTK.out, tot_snoc, HM.out])
        have HA2 := Lib.hid (show ∀ x ∈ ss.take (k + 1), x.size ≤ 2000 by rw [HTK.out]; exact all_snoc HA.out (by omega))
        have hz2 : z.size ≤ 2000 := by omega
        clear hz
        go_wp2
        go_round
        case rel => exact ⟨k + 1, m + z.size, by omega, by omega, by go_num, by go_num, HM2, HA2⟩
        case measure => simp [intOf]; omega
    · obtain rfl : k = lT := by omega
      have htk : ss.take k = ss := List.take_of_length_le (by rw [HLen.out]; exact Nat.le_refl _)
      rw [htk] at HM HA
      by_cases hmm : 2000 < m
      · have e1 : decide ((2000 : Int) < (m : Int)) = true := by simp; omega
        have HN := Lib.hid (show ¬ Fits lB S lL k ss from fun h => by have := h.n; have := HM.out; omega)
        clear hmm htk
        go_wp2
        go_ret
        exact ⟨great_yes HN.out, HW.out⟩
      · have e1 : decide ((2000 : Int) < (m : Int)) = false := by simp; omega
        have HY := Lib.hid (HF.out HA.out (by have := HM.out; omega))
        clear hmm htk
        go_wp2
        go_ret
        exact ⟨great_no HY.out, HW.out⟩
end Go.Proofs.Ytgfodleoollmmaa
