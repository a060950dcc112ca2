/- The mainline: the way from an id, as a list. No program. -/
import Derived.Test.YtoljlpddcpdoiaaW3
namespace Go.Proofs.Ytoljlpddcpdoiaa
set_option linter.unusedVariables false
set_option linter.unusedSimpArgs false

theorem nodup_le : ∀ (n : Nat) (l : List Nat), l.Nodup → (∀ x ∈ l, x < n) → l.length ≤ n
  | 0, l, _, h => by
    cases l with
    | nil => exact Nat.le_refl _
    | cons a r => exact absurd (h a (by simp)) (Nat.not_lt_zero _)
  | n + 1, l, hd, h => by
    have h1 := nodup_le n (l.erase n) (hd.erase n) (fun x hx => by
      have h2 := (List.Nodup.mem_erase_iff hd).1 hx
      have := h x h2.2
      have := h2.1
      omega)
    have h3 : l.length ≤ (l.erase n).length + 1 := by
      rw [List.length_erase]
      split <;> omega
    omega
/-- The next id on the way. -/
def nxt (E : Nat → Me) (n : Nat) (id : Int) : Option Int := match plc E n id with
  | some i => pow E n i.toNat
  | none => none
def known (E : Nat → Me) (n : Nat) (id : Int) : Bool := (plc E n id).isSome
/-- The way from an id, those of seen being passed. -/
def wayF (E : Nat → Me) (n : Nat) : Nat → List Int → Option Int → List Int
  | 0, _, _ => []
  | _ + 1, _, none => []
  | f + 1, seen, some id => if known E n id = true ∧ id ∉ seen then id :: wayF E n f (seen ++ [id]) (nxt E n id) else []
def wayL (E : Nat → Me) (n : Nat) (id : Int) : List Int := wayF E n (n + 1) [] (some id)
/-- How far the way has come: pre is behind, cur comes next. -/
structure On (E : Nat → Me) (n : Nat) (id : Int) (pre : List Int) (cur : Option Int) : Prop where
  eq : wayL E n id = pre ++ wayF E n (n + 1 - pre.length) pre cur
  nd : pre.Nodup
  kn : ∀ x ∈ pre, known E n x = true
theorem plc_inj {E : Nat → Me} {n : Nat} {a b x : Int} (h1 : plc E n a = some x) (h2 : plc E n b = some x) : a = b := by
  obtain ⟨j, e, _, h3⟩ := plc_lt h1
  obtain ⟨k, e2, _, h4⟩ := plc_lt h2
  obtain rfl : j = k := by omega
  exact h3.symm.trans h4
theorem On.len {E : Nat → Me} {n : Nat} {id : Int} {pre : List Int} {cur : Option Int} (h : On E n id pre cur) : pre.length ≤ n := by
  have := nodup_le n (pre.map (fun x => ((plc E n x).getD 0).toNat)) ?_ ?_
  · rwa [List.length_map] at this
  · rw [List.nodup_iff_pairwise_ne, List.pairwise_map]
    refine List.Pairwise.imp_of_mem ?_ (List.nodup_iff_pairwise_ne.1 h.nd)
    intro a b ha hb hab e
    have k1 := h.kn a ha
    have k2 := h.kn b hb
    unfold known at k1 k2
    obtain ⟨x, hx⟩ := Option.isSome_iff_exists.1 k1
    obtain ⟨y, hy⟩ := Option.isSome_iff_exists.1 k2
    rw [hx, hy] at e
    obtain ⟨j, ej, _⟩ := plc_lt hx
    obtain ⟨k, ek, _⟩ := plc_lt hy
    simp only [Option.getD_some] at e
    exact hab (plc_inj hx (by rw [hy]; congr 1; omega))
  · intro y hy
    obtain ⟨x, hx, rfl⟩ := List.mem_map.1 hy
    have k1 := h.kn x hx
    unfold known at k1
    obtain ⟨z, hz⟩ := Option.isSome_iff_exists.1 k1
    obtain ⟨j, ej, hj, _⟩ := plc_lt hz
    rw [hz, ej]
    simpa using hj
theorem On.start (E : Nat → Me) (n : Nat) (id : Int) : On E n id [] (some id) := ⟨rfl, List.nodup_nil, fun x hx => by simp at hx⟩
theorem On.step {E : Nat → Me} {n : Nat} {id cur : Int} {pre : List Int} (h : On E n id pre (some cur)) (hk : known E n cur = true) (hs : cur ∉ pre) : On E n id (pre ++ [cur]) (nxt E n cur) := by
  have hl := h.len
  refine ⟨?_, ?_, fun x hx => ?_⟩
  · rw [h.eq, List.append_assoc, List.length_append, List.length_singleton]
    obtain ⟨f, hf⟩ : ∃ f, n + 1 - pre.length = f + 1 := ⟨n - pre.length, by omega⟩
    rw [hf, wayF, if_pos ⟨hk, hs⟩, show n + 1 - (pre.length + 1) = f by omega]
    rfl
  · rw [List.nodup_append]
    exact ⟨h.nd, by simp, fun a ha b hb e => hs (by rw [List.mem_singleton.1 hb] at e; rw [← e]; exact ha)⟩
  · rcases List.mem_append.1 hx with hx | hx
    · exact h.kn x hx
    · rw [List.mem_singleton.1 hx]; exact hk
theorem On.stop {E : Nat → Me} {n : Nat} {id : Int} {pre : List Int} {cur : Option Int} (h : On E n id pre cur) (hc : ∀ c, cur = some c → known E n c = false ∨ c ∈ pre) : wayL E n id = pre := by
  have hl := h.len
  rw [h.eq]
  obtain ⟨f, hf⟩ : ∃ f, n + 1 - pre.length = f + 1 := ⟨n - pre.length, by omega⟩
  rw [hf]
  cases cur with
  | none => rw [wayF, List.append_nil]
  | some c =>
    rw [wayF, if_neg, List.append_nil]
    rintro ⟨h1, h2⟩
    rcases hc c rfl with h3 | h3
    · rw [h3] at h1; cases h1
    · exact h2 h3
theorem On.pre {E : Nat → Me} {n : Nat} {id : Int} {pre : List Int} {cur : Option Int} (h : On E n id pre cur) : pre <+: wayL E n id := by
  rw [h.eq]
  exact List.prefix_append _ _
/-- What the next id is, is known. -/
theorem pow_known {E : Nat → Me} {n j : Nat} {x : Int} (h : pow E n j = some x) : known E n x = true := by
  unfold pow at h
  have h1 := List.find?_some h
  unfold powq at h1
  unfold known
  cases hp : plc E n x with
  | none => rw [hp] at h1; cases h1
  | some i => rfl
end Go.Proofs.Ytoljlpddcpdoiaa
