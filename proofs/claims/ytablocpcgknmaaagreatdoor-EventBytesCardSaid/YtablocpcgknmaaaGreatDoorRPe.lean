/- Encoding of levels. Bounds: at most 200 of each, names of at most 1000 bytes. No condition. -/
import Derived.Test.YtablocpcgknmaaaGreatDoorRTc
import Derived.Test.YtablocpcgknmaaaGreatDoorRK16
namespace Go.Proofs.YtablocpcgknmaaaGreatDoor
open Go Go.RowKit
set_option linter.unusedVariables false
set_option linter.unusedSimpArgs false
set_option maxRecDepth 100000

def eI (n : Int) : List Int := Cd.C.enc (Cd.C.zig n)
def encU (l : List (ByteArray × Int)) : List Int := (l.map fun p => Cd.ent p.1 ++ eI p.2).flatten
def encK (l : List (Int × Int)) : List Int := (l.map fun p => eI p.1 ++ eI p.2).flatten
def encN (l : List Int) : List Int := (l.map eI).flatten
def encL (us : List (ByteArray × Int)) (ks : List (Int × Int)) (ns : List Int) : List Int := ((eI us.length ++ encU us) ++ (eI ks.length ++ encK ks)) ++ encN ns
theorem eI_bd {n : Int} (h : i64B n) : (∀ z ∈ eI n, 0 ≤ z ∧ z ≤ 255) ∧ (eI n).length ≤ 11 := by
 have := Cd.C.enc_bd (Cd.C.zig_lt ((Cd.C.in64_iff n).2 h))
 exact ⟨this.1, this.2.2⟩
theorem len64 {n : Nat} (h : n ≤ 1000000) : i64B (n : Int) := by unfold i64B; omega
theorem ent_bd2 {s : ByteArray} (h : s.size ≤ 1000) : (∀ z ∈ Cd.ent s, 0 ≤ z ∧ z ≤ 255) ∧ (Cd.ent s).length ≤ 1011 := by
 have h1 := Cd.ent_bd (show Cd.Small s by unfold Cd.Small; omega)
 have h2 := (eI_bd (len64 (show s.size ≤ 1000000 by omega))).2
 unfold eI at h2
 exact ⟨h1.1, by rw [h1.2]; omega⟩
theorem encU_succ {us : List (ByteArray × Int)} {k : Nat} (h : k < us.length) : encU (us.take (k + 1)) = (encU (us.take k) ++ Cd.ent (fU us k).1) ++ eI (fU us k).2 := by
 rw [fU_at h, List.take_succ_eq_append_getElem h]
 unfold encU
 rw [List.map_append, List.flatten_append]
 simp
theorem encK_succ {us : List (Int × Int)} {k : Nat} (h : k < us.length) : encK (us.take (k + 1)) = (encK (us.take k) ++ eI (fK us k).1) ++ eI (fK us k).2 := by
 rw [fK_at h, List.take_succ_eq_append_getElem h]
 unfold encK
 rw [List.map_append, List.flatten_append]
 simp
theorem encN_succ {us : List Int} {k : Nat} (h : k < us.length) : encN (us.take (k + 1)) = encN (us.take k) ++ eI (us.getD k 0) := by
 rw [List.take_succ_eq_append_getElem h, List.getD_eq_getElem?_getD, List.getElem?_eq_getElem h]
 unfold encN
 rw [List.map_append, List.flatten_append]
 simp
theorem own_sl {w : World} {B : Nat} {A : Option Addr} {n c : Nat} {zs : List Int} (h : Cd.Own w B (.slice A n c) zs) (hz : ∀ z ∈ zs, 0 ≤ z ∧ z ≤ 255) (hn : n = zs.length) : Cd.Sl w A zs.length c zs := by
 obtain ⟨A', c', e, hs⟩ := h.sl hz
 injection e with e1 e2 e3
 subst e1 e3
 exact hs
/-- A function gave these bytes, in memory of its own. -/
def SlP (w : World) (zs : List Int) (e : Ending) (w' : World) : Prop := ∃ A c, e = .returned (.slice A zs.length c) ∧ Cd.Sl w' A zs.length c zs ∧ Cd.Own w' w.heap.size (.slice A zs.length c) zs ∧ Below w.heap.size w w'
theorem pI (n : Int) (hn : i64B n) (w : World) : Calls Tryz.prog 115 #[.slice none 0 0, .int .i64 n] w (SlP w (eI n)) := by
 refine (Cd.putInt_any none 0 0 [] n ((Cd.C.in64_iff n).2 hn) (by decide) w (Cd.Sl.empty w none 0 (fun _ => rfl))).mono ?_
 rintro e w' ⟨A, c, rfl, ho, hb⟩
 exact ⟨A, c, rfl, own_sl ho (eI_bd hn).1 rfl, ho, hb⟩
theorem pT (s : ByteArray) (hs : s.size ≤ 1000) (w : World) : Calls Tryz.prog 114 #[.slice none 0 0, .string s] w (SlP w (Cd.ent s)) := by
 refine (Cd.putText_any none 0 0 [] s (show Cd.Small s by unfold Cd.Small; omega) (by omega) w (Cd.Sl.empty w none 0 (fun _ => rfl))).mono ?_
 rintro e w' ⟨A, c, rfl, ho, hb⟩
 exact ⟨A, c, rfl, own_sl ho (ent_bd2 hs).1 rfl, ho, hb⟩
theorem pB (b : Bool) (w : World) : Calls Tryz.prog 116 #[.slice none 0 0, .bool b] w (SlP w [if b then (1 : Int) else 0]) := by
 refine (Cd.putBool_any none 0 0 [] b (by decide) w (Cd.Sl.empty w none 0 (fun _ => rfl))).mono ?_
 rintro e w' ⟨A, c, rfl, ho, hb⟩
 exact ⟨A, c, rfl, own_sl ho (by cases b <;> simp) rfl, ho, hb⟩
/-- Small levels. -/
structure SmL (us : List (ByteArray × Int)) (ks : List (Int × Int)) : Prop where
 lu : us.length ≤ 200
 lk : ks.length ≤ 200
 nm : ∀ p ∈ us, p.1.size ≤ 1000
theorem encU_len {us : List (ByteArray × Int)} (h : ∀ p ∈ us, p.1.size ≤ 1000 ∧ i64B p.2) : (∀ z ∈ encU us, 0 ≤ z ∧ z ≤ 255) ∧ (encU us).length ≤ 1022 * us.length := by
 induction us with
 | nil => exact ⟨by simp [encU], by simp [encU]⟩
 | cons p r ih =>
  have h1 := ih (fun q hq => h q (List.mem_cons_of_mem _ hq))
  have h2 := h p List.mem_cons_self
  have h3 := ent_bd2 h2.1
  have h4 := eI_bd h2.2
  have e : encU (p :: r) = (Cd.ent p.1 ++ eI p.2) ++ encU r := rfl
  rw [e]
  refine ⟨fun z hz => ?_, by simp only [List.length_append, List.length_cons]; omega⟩
  rcases List.mem_append.1 hz with hz | hz
  ·rcases List.mem_append.1 hz with hz | hz
   ·exact h3.1 z hz
   ·exact h4.1 z hz
  ·exact h1.1 z hz
theorem encK_len {us : List (Int × Int)} (h : ∀ p ∈ us, i64B p.1 ∧ i64B p.2) : (∀ z ∈ encK us, 0 ≤ z ∧ z ≤ 255) ∧ (encK us).length ≤ 22 * us.length := by
 induction us with
 | nil => exact ⟨by simp [encK], by simp [encK]⟩
 | cons p r ih =>
  have h1 := ih (fun q hq => h q (List.mem_cons_of_mem _ hq))
  have h2 := h p List.mem_cons_self
  have h3 := eI_bd h2.1
  have h4 := eI_bd h2.2
  have e : encK (p :: r) = (eI p.1 ++ eI p.2) ++ encK r := rfl
  rw [e]
  refine ⟨fun z hz => ?_, by simp only [List.length_append, List.length_cons]; omega⟩
  rcases List.mem_append.1 hz with hz | hz
  ·rcases List.mem_append.1 hz with hz | hz
   ·exact h3.1 z hz
   ·exact h4.1 z hz
  ·exact h1.1 z hz
theorem encN_len {us : List Int} (h : ∀ p ∈ us, i64B p) : (∀ z ∈ encN us, 0 ≤ z ∧ z ≤ 255) ∧ (encN us).length ≤ 11 * us.length := by
 induction us with
 | nil => exact ⟨by simp [encN], by simp [encN]⟩
 | cons p r ih =>
  have h1 := ih (fun q hq => h q (List.mem_cons_of_mem _ hq))
  have h3 := eI_bd (h p List.mem_cons_self)
  have e : encN (p :: r) = eI p ++ encN r := rfl
  rw [e]
  refine ⟨fun z hz => ?_, by simp only [List.length_append, List.length_cons]; omega⟩
  rcases List.mem_append.1 hz with hz | hz
  ·exact h3.1 z hz
  ·exact h1.1 z hz
def X1 (us : List (ByteArray × Int)) (k : Nat) : List Int := eI us.length ++ encU (us.take k)
def X2 (xs : List Int) (ks : List (Int × Int)) (k : Nat) : List Int := (xs ++ eI ks.length) ++ encK (ks.take k)
def X3 (xs : List Int) (ns : List Int) (k : Nat) : List Int := xs ++ encN (ns.take k)
theorem X1_len {us : List (ByteArray × Int)} (h : ∀ p ∈ us, p.1.size ≤ 1000 ∧ i64B p.2) (hl : us.length ≤ 200) (k : Nat) : (X1 us k).length ≤ 204500 := by
 unfold X1
 have h1 := (encU_len (us := us.take k) (fun p hp => h p (List.mem_of_mem_take hp))).2
 have h2 := (eI_bd (len64 (show us.length ≤ 1000000 by omega))).2
 have h3 : (us.take k).length ≤ us.length := List.length_take_le' k us
 simp only [List.length_append]; omega
theorem X2_len {xs : List Int} {ks : List (Int × Int)} (hx : xs.length ≤ 204500) (h : ∀ p ∈ ks, i64B p.1 ∧ i64B p.2) (hl : ks.length ≤ 200) (k : Nat) : (X2 xs ks k).length ≤ 209000 := by
 unfold X2
 have h1 := (encK_len (us := ks.take k) (fun p hp => h p (List.mem_of_mem_take hp))).2
 have h2 := (eI_bd (len64 (show ks.length ≤ 1000000 by omega))).2
 have h3 : (ks.take k).length ≤ ks.length := List.length_take_le' k ks
 simp only [List.length_append]; omega
theorem X3_len {xs : List Int} {ns : List Int} (hx : xs.length ≤ 209000) (h : ∀ p ∈ ns, i64B p) (hl : ns.length = 7) (k : Nat) : (X3 xs ns k).length ≤ 209100 := by
 unfold X3
 have h1 := (encN_len (us := ns.take k) (fun p hp => h p (List.mem_of_mem_take hp))).2
 have h3 : (ns.take k).length ≤ ns.length := List.length_take_le' k ns
 simp only [List.length_append]; omega
theorem X1_succ {us : List (ByteArray × Int)} {k : Nat} (h : k < us.length) : X1 us (k + 1) = (X1 us k ++ Cd.ent (fU us k).1) ++ eI (fU us k).2 := by
 unfold X1; rw [encU_succ h]; simp only [List.append_assoc]
theorem X2_succ {xs : List Int} {us : List (Int × Int)} {k : Nat} (h : k < us.length) : X2 xs us (k + 1) = (X2 xs us k ++ eI (fK us k).1) ++ eI (fK us k).2 := by
 unfold X2; rw [encK_succ h]; simp only [List.append_assoc]
theorem X3_succ {xs : List Int} {us : List Int} {k : Nat} (h : k < us.length) : X3 xs us (k + 1) = X3 xs us k ++ eI (us.getD k 0) := by
 unfold X3; rw [encN_succ h]; simp only [List.append_assoc]
theorem X_all (us : List (ByteArray × Int)) (ks : List (Int × Int)) (ns : List Int) (h : ns.length = 7) : X3 (X2 (X1 us us.length) ks ks.length) ns 7 = encL us ks ns := by
 unfold X3 X2 X1 encL
 rw [← h, List.take_length, List.take_length, List.take_length]
 simp only [List.append_assoc]
theorem encL_bd {us : List (ByteArray × Int)} {ks : List (Int × Int)} {ns : List Int} (hu : ∀ p ∈ us, p.1.size ≤ 1000 ∧ i64B p.2) (hk : ∀ p ∈ ks, i64B p.1 ∧ i64B p.2) (hn : ∀ p ∈ ns, i64B p) (lu : us.length ≤ 200) (lk : ks.length ≤ 200) : ∀ z ∈ encL us ks ns, 0 ≤ z ∧ z ≤ 255 := by
 intro z hz
 unfold encL at hz
 rcases List.mem_append.1 hz with hz | hz
 ·rcases List.mem_append.1 hz with hz | hz
  ·rcases List.mem_append.1 hz with hz | hz
   ·exact (eI_bd (len64 (show us.length ≤ 1000000 by omega))).1 z hz
   ·exact (encU_len hu).1 z hz
  ·rcases List.mem_append.1 hz with hz | hz
   ·exact (eI_bd (len64 (show ks.length ≤ 1000000 by omega))).1 z hz
   ·exact (encK_len hk).1 z hz
 ·exact (encN_len hn).1 z hz
end Go.Proofs.YtablocpcgknmaaaGreatDoor
