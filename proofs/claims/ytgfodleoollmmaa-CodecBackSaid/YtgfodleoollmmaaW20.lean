/- What is written is read back. No condition but that the numbers are ints and the strings are small. -/
import Derived.Test.YtgfodleoollmmaaW17
namespace Go.Proofs.Ytgfodleoollmmaa
open Go.RowKit
set_option linter.unusedVariables false

theorem di_enc {n : Int} (h : C.in64 n) (r : List Int) : di (C.enc (C.zig n) ++ r) = some (n, r) := by
  unfold di
  rw [C.dec_enc (C.zig_lt h) r, Option.map_some, C.zag_zig, List.drop_left]
theorem cnt_enc {n : Nat} (hn : n ≤ 1000000) (r : List Int) (h : n ≤ r.length) : cnt (C.enc (C.zig (n : Int)) ++ r) = some (n, r) := by
  unfold cnt
  rw [C.dec_enc (C.zig_lt (in_len n hn)) r]
  simp only [C.zag_zig, List.drop_left]
  rw [if_pos ⟨by omega, by omega⟩, Int.toNat_natCast]
theorem str_byt (s : ByteArray) : strOfNums (byt s) = s := by
  unfold strOfNums byt
  rw [List.map_map]
  have e : (List.map ((fun n : Int => UInt8.ofNat n.toNat) ∘ fun b : UInt8 => (b.toNat : Int)) s.data.toList) = s.data.toList := by
    conv => rhs; rw [← List.map_id s.data.toList]
    refine List.map_congr_left fun b _ => ?_
    simp
  rw [e]
theorem dt_enc {s : ByteArray} (h : Small s) (r : List Int) : dt (ent s ++ r) = some (s, r) := by
  unfold Small at h
  unfold dt ent
  rw [List.append_assoc, cnt_enc h _ (by rw [List.length_append, byt_len]; omega), Option.map_some]
  simp only
  rw [← byt_len s, List.take_left, List.drop_left, str_byt]
theorem lst_enc {α : Type} {one : List Int → Option (α × List Int)} {f : α → List Int} (P : α → Prop) (h1 : ∀ x r, P x → one (f x ++ r) = some (x, r)) : ∀ (xs : List α) (r : List Int), (∀ x ∈ xs, P x) → lst one xs.length ((xs.map f).flatten ++ r) = some (xs, r) := by
  intro xs
  induction xs with
  | nil => intro r _; rfl
  | cons x xs ih =>
    intro r h
    rw [List.length_cons, List.map_cons, List.flatten_cons, List.append_assoc]
    simp only [lst]
    rw [h1 x _ (h x (by simp)), Option.bind_some, ih r (fun y hy => h y (by simp [hy])), Option.map_some]
theorem encs_ge (ns : List Int) (h : ∀ z ∈ ns, C.in64 z) : ns.length ≤ (encs ns).length := by
  induction ns with
  | nil => simp
  | cons n ns ih =>
    have i := ih (fun z hz => h z (by simp [hz]))
    have hb := (C.enc_bd (C.zig_lt (h n (by simp)))).2.1
    have e : encs (n :: ns) = C.enc (C.zig n) ++ encs ns := rfl
    rw [e, List.length_append, List.length_cons]
    omega
theorem ents_ge (ss : List ByteArray) (h : ∀ s ∈ ss, Small s) : ss.length ≤ (ents ss).length := by
  induction ss with
  | nil => simp
  | cons s ss ih =>
    have i := ih (fun z hz => h z (by simp [hz]))
    have hs := h s (by simp)
    have h2 := (ent_bd hs).2
    unfold Small at hs
    have hb := (C.enc_bd (C.zig_lt (in_len s.size hs))).2.1
    rw [ents_cons, List.length_append, List.length_cons]
    omega
theorem gis_enc {ns : List Int} (h : ∀ z ∈ ns, C.in64 z) (hl : ns.length ≤ 1000000) (r : List Int) : gis (C.enc (C.zig (ns.length : Int)) ++ encs ns ++ r) = some (ns, r) := by
  have hg := encs_ge ns h
  unfold gis
  rw [List.append_assoc, cnt_enc hl _ (by rw [List.length_append]; omega), Option.bind_some]
  exact lst_enc (f := fun n => C.enc (C.zig n)) C.in64 (fun x r hx => di_enc hx r) ns r h
theorem gts_enc {ss : List ByteArray} (h : ∀ s ∈ ss, Small s) (hl : ss.length ≤ 1000000) (r : List Int) : gts (C.enc (C.zig (ss.length : Int)) ++ ents ss ++ r) = some (ss, r) := by
  have hg := ents_ge ss h
  unfold gts
  rw [List.append_assoc, cnt_enc hl _ (by rw [List.length_append]; omega), Option.bind_some]
  exact lst_enc (f := ent) Small (fun x r hx => dt_enc hx r) ss r h
theorem gt_enc {s : ByteArray} (h : Small s) (r : List Int) : gt (ent s ++ r) = some (.string s, r) := by
  rw [gt_dt, dt_enc h r]; rfl
theorem gb_enc (b : Bool) (r : List Int) : gb ([if b then (1 : Int) else 0] ++ r) = some (.bool b, r) := by
  cases b <;> rfl
end Go.Proofs.Ytgfodleoollmmaa
