/- What is read, written again, is what was read. No condition but that the bytes are bytes. -/
import Derived.Test.YtgfodleoollmmaaW16
import Derived.Test.YtgfodleoollmmaaV2
import Derived.Test.YtgfodleoollmmaaV3
namespace Go.Proofs.Ytgfodleoollmmaa
open Go.RowKit
set_option linter.unusedVariables false

theorem can_dec {zs : List Int} {u k : Nat} (hb : ∀ z ∈ zs, 0 ≤ z ∧ z ≤ 255) (h : C.dec zs = some (u, k)) : C.enc (C.zig (C.zag u)) ++ zs.drop k = zs := by
  rw [C.zig_zag, ← (C.enc_dec hb h).1, List.take_append_drop]
theorem can_cnt {zs : List Int} {n : Nat} {r : List Int} (hb : ∀ z ∈ zs, 0 ≤ z ∧ z ≤ 255) (h : cnt zs = some (n, r)) : C.enc (C.zig (n : Int)) ++ r = zs := by
  obtain ⟨_, _, u, k, hd, hn, rfl⟩ := cnt_rest h
  rw [← hn]
  exact can_dec hb hd
theorem can_di {zs : List Int} {x : Int} {r : List Int} (hb : ∀ z ∈ zs, 0 ≤ z ∧ z ≤ 255) (h : di zs = some (x, r)) : C.enc (C.zig x) ++ r = zs := by
  unfold di at h
  cases hd : C.dec zs with
  | none => rw [hd] at h; cases h
  | some p =>
    obtain ⟨u, k⟩ := p
    rw [hd] at h
    simp only [Option.map_some, Option.some.injEq, Prod.mk.injEq] at h
    rw [← h.1, ← h.2]
    exact can_dec hb hd
theorem can_dt {zs : List Int} {x : ByteArray} {r : List Int} (hb : ∀ z ∈ zs, 0 ≤ z ∧ z ≤ 255) (h : dt zs = some (x, r)) : ent x ++ r = zs := by
  unfold dt at h
  cases hc : cnt zs with
  | none => rw [hc] at h; cases h
  | some p =>
    obtain ⟨n, rest⟩ := p
    rw [hc] at h
    simp only [Option.map_some, Option.some.injEq, Prod.mk.injEq] at h
    have hcan := can_cnt hb hc
    have hbr : ∀ z ∈ rest.take n, 0 ≤ z ∧ z ≤ 255 := fun z hz => hb z (by rw [← hcan]; exact List.mem_append.2 (.inr (List.mem_of_mem_take hz)))
    have hnr := (cnt_rest hc).1
    rw [← h.1, ← h.2]
    unfold ent
    rw [byt_str hbr, str_size, List.length_take, Nat.min_eq_left hnr, List.append_assoc, List.take_append_drop]
    exact hcan
theorem lst_can {α : Type} {one : List Int → Option (α × List Int)} {f : α → List Int} (h1 : ∀ zs x r, (∀ z ∈ zs, 0 ≤ z ∧ z ≤ 255) → one zs = some (x, r) → f x ++ r = zs) :
    ∀ (n : Nat) (zs : List Int) (xs : List α) (r : List Int), (∀ z ∈ zs, 0 ≤ z ∧ z ≤ 255) → lst one n zs = some (xs, r) → (xs.map f).flatten ++ r = zs := by
  intro n
  induction n with
  | zero =>
    intro zs xs r _ h
    simp only [lst, Option.some.injEq, Prod.mk.injEq] at h
    obtain ⟨rfl, rfl⟩ := h
    rfl
  | succ n ih =>
    intro zs xs r hb h
    cases hd : one zs with
    | none => simp [lst, hd] at h
    | some p =>
      obtain ⟨x, r1⟩ := p
      cases hl : lst one n r1 with
      | none => simp [lst, hd, hl] at h
      | some q =>
        obtain ⟨ys, r2⟩ := q
        simp only [lst, hd, hl, Option.bind_some, Option.map_some, Option.some.injEq, Prod.mk.injEq] at h
        obtain ⟨rfl, rfl⟩ := h
        have h2 := h1 _ _ _ hb hd
        have i := ih r1 ys r2 (fun z hz => hb z (by rw [← h2]; exact List.mem_append.2 (.inr hz))) hl
        rw [List.map_cons, List.flatten_cons, List.append_assoc, i, h2]

theorem canT_int (zs : List Int) (hb : ∀ z ∈ zs, 0 ≤ z ∧ z ≤ 255) : ∃ (n : Int) (rest : List Int) (b : Bool), (b = true → C.in64 n ∧ C.enc (C.zig n) ++ rest = zs) ∧ (b = false → n = 0 ∧ rest = []) ∧ ∀ w e w', Got (.int .i64 0) (gi zs) w e w' →
    ∃ A c, e = .returned (.tuple #[.int .i64 n, .slice A rest.length c, .bool b]) ∧ Sl w' A rest.length c rest ∧ Below w.heap.size w w' := by
  rw [gi_di]
  cases h : di zs with
  | none => exact ⟨0, [], false, (fun h => by cases h), fun _ => ⟨rfl, rfl⟩, fun w e w' hg => by
      obtain ⟨he, hb⟩ := got_no hg rfl
      exact ⟨none, 0, he, sl_nil _, hb⟩⟩
  | some p =>
    obtain ⟨x, rest⟩ := p
    exact ⟨x, rest, true, fun _ => ⟨di_ok hb h, can_di hb h⟩, (fun h => by cases h), fun w e w' hg => got_yes hg rfl⟩
theorem canT_text (zs : List Int) (hb : ∀ z ∈ zs, 0 ≤ z ∧ z ≤ 255) (hl : zs.length ≤ 1000000) : ∃ (s : ByteArray) (rest : List Int) (b : Bool), (b = true → Small s ∧ ent s ++ rest = zs) ∧ (b = false → s = ⟨#[]⟩ ∧ rest = []) ∧ ∀ w e w', Got (.string ⟨#[]⟩) (gt zs) w e w' →
    ∃ A c, e = .returned (.tuple #[.string s, .slice A rest.length c, .bool b]) ∧ Sl w' A rest.length c rest ∧ Below w.heap.size w w' := by
  rw [gt_dt]
  cases h : dt zs with
  | none => exact ⟨⟨#[]⟩, [], false, (fun h => by cases h), fun _ => ⟨rfl, rfl⟩, fun w e w' hg => by
      obtain ⟨he, hb⟩ := got_no hg rfl
      exact ⟨none, 0, he, sl_nil _, hb⟩⟩
  | some p =>
    obtain ⟨x, rest⟩ := p
    exact ⟨x, rest, true, fun _ => ⟨dt_ok hb hl h, can_dt hb h⟩, (fun h => by cases h), fun w e w' hg => got_yes hg rfl⟩
theorem gis_can {zs xs rest : List Int} (hb : ∀ z ∈ zs, 0 ≤ z ∧ z ≤ 255) (h : gis zs = some (xs, rest)) : C.enc (C.zig (xs.length : Int)) ++ encs xs ++ rest = zs := by
  unfold gis at h
  cases hc : cnt zs with
  | none => rw [hc] at h; cases h
  | some p =>
    obtain ⟨n, r⟩ := p
    rw [hc] at h
    have hcan := can_cnt hb hc
    have hn := (lst_rest (fun _ _ _ h => di_len h) n r xs rest h).2
    have h2 := lst_can (f := fun n => C.enc (C.zig n)) (fun _ _ _ hb h => can_di hb h) n r xs rest (fun z hz => hb z (by rw [← hcan]; exact List.mem_append.2 (.inr hz))) h
    unfold encs
    rw [List.append_assoc, h2, hn]
    exact hcan
theorem gts_can {zs : List Int} {xs : List ByteArray} {rest : List Int} (hb : ∀ z ∈ zs, 0 ≤ z ∧ z ≤ 255) (h : gts zs = some (xs, rest)) : C.enc (C.zig (xs.length : Int)) ++ ents xs ++ rest = zs := by
  unfold gts at h
  cases hc : cnt zs with
  | none => rw [hc] at h; cases h
  | some p =>
    obtain ⟨n, r⟩ := p
    rw [hc] at h
    have hcan := can_cnt hb hc
    have hn := (lst_rest (fun _ _ _ h => dt_len h) n r xs rest h).2
    have h2 := lst_can (f := ent) (fun _ _ _ hb h => can_dt hb h) n r xs rest (fun z hz => hb z (by rw [← hcan]; exact List.mem_append.2 (.inr hz))) h
    unfold ents
    rw [List.append_assoc, h2, hn]
    exact hcan
theorem canT_ints (zs : List Int) (hb : ∀ z ∈ zs, 0 ≤ z ∧ z ≤ 255) : ∃ (ns rest : List Int) (b : Bool), ns.length ≤ zs.length ∧ (b = true → C.enc (C.zig (ns.length : Int)) ++ encs ns ++ rest = zs) ∧ (b = false → ns = [] ∧ rest = []) ∧ ∀ w e w', GotL Is (gis zs) w e w' →
    ∃ A c A2 c2, e = .returned (.tuple #[.slice A ns.length c, .slice A2 rest.length c2, .bool b]) ∧ Is w' A ns.length c ns ∧ Sl w' A2 rest.length c2 rest ∧ Below w.heap.size w w' := by
  cases h : gis zs with
  | none => exact ⟨[], [], false, Nat.zero_le _, (fun h => by cases h), fun _ => ⟨rfl, rfl⟩, fun w e w' hg => by
      obtain ⟨he, hb⟩ := gotl_no hg rfl
      exact ⟨none, 0, none, 0, he, is_nil _, sl_nil _, hb⟩⟩
  | some p =>
    obtain ⟨xs, rest⟩ := p
    exact ⟨xs, rest, true, gis_size h, fun _ => gis_can hb h, (fun h => by cases h), fun w e w' hg => gotl_yes hg rfl⟩
theorem canT_texts (zs : List Int) (hb : ∀ z ∈ zs, 0 ≤ z ∧ z ≤ 255) : ∃ (ns : List ByteArray) (rest : List Int) (b : Bool), ns.length ≤ zs.length ∧ (b = true → C.enc (C.zig (ns.length : Int)) ++ ents ns ++ rest = zs) ∧ (b = false → ns = [] ∧ rest = []) ∧ ∀ w e w', GotL Ts (gts zs) w e w' →
    ∃ A c A2 c2, e = .returned (.tuple #[.slice A ns.length c, .slice A2 rest.length c2, .bool b]) ∧ Ts w' A ns.length c ns ∧ Sl w' A2 rest.length c2 rest ∧ Below w.heap.size w w' := by
  cases h : gts zs with
  | none => exact ⟨[], [], false, Nat.zero_le _, (fun h => by cases h), fun _ => ⟨rfl, rfl⟩, fun w e w' hg => by
      obtain ⟨he, hb⟩ := gotl_no hg rfl
      exact ⟨none, 0, none, 0, he, ts_nil _, sl_nil _, hb⟩⟩
  | some p =>
    obtain ⟨xs, rest⟩ := p
    exact ⟨xs, rest, true, gts_size h, fun _ => gts_can hb h, (fun h => by cases h), fun w e w' hg => gotl_yes hg rfl⟩
end Go.Proofs.Ytgfodleoollmmaa
