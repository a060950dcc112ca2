/- Relations: reactions, the first part. -/
import Derived.Test.YtefajhfahnhcgaaV17
import Derived.Test.YtefajhfahnhcgaaV13
namespace Go.Proofs.Ytefajhfahnhcgaa
open Go Go.RowKit
open Go.Maps (Keyed)
set_option linter.unusedVariables false
set_option linter.unusedSimpArgs false

abbrev rkC (a b : ByteArray) : List Value := [.string a, .string b]
theorem size81 : (Try.prog.info? 81).map (·.size) = some 2 := by kernel_rfl
theorem alloc81 (w : World) : (Instr.alloc 81 true (.tuple #[])).run Try.prog w = .ok (.pointer (some ⟨w.heap.size, 0, none⟩)) (w.alloc (.cells (rkC ⟨#[]⟩ ⟨#[]⟩).toArray 81)) := by kernel_rfl
/-- The map of pairs holds these. -/
def SeenI (ds : List (ByteArray × ByteArray)) (zs : List ((ByteArray × ByteArray) × Bool)) : Prop := ∀ p, MK.lookA false zs p = ds.any (fun q => decide (q = p))
theorem SeenI.nil : SeenI [] [] := fun p => rfl
theorem SeenI.put {ds : List (ByteArray × ByteArray)} {zs : List ((ByteArray × ByteArray) × Bool)} (h : SeenI ds zs) (p : ByteArray × ByteArray) : SeenI (ds ++ [p]) (MK.putA zs p true) := fun c => by
  rw [MK.look_putA, List.any_append, h c]
  by_cases e : c = p
  · subst e; simp
  · rw [if_neg e, List.any_cons, List.any_nil, decide_eq_false (show ¬ p = c from fun h => e h.symm)]; simp
/-- The map of texts holds their numbers. -/
structure CntI (ds : List (ByteArray × ByteArray)) (zs : List (ByteArray × Int)) : Prop where
  look : ∀ t, MK.lookA 0 zs t = cntT ds t
  mem : ∀ q : ByteArray × Int, q ∈ zs ↔ (q.2 = cntT ds q.1 ∧ 0 < q.2)
theorem CntI.nil : CntI [] [] := ⟨fun t => rfl, fun q => ⟨fun h => by simp at h, fun ⟨h1, h2⟩ => by have : cntT [] q.1 = 0 := rfl; omega⟩⟩
theorem CntI.put {ds : List (ByteArray × ByteArray)} {zs : List (ByteArray × Int)} (h : CntI ds zs) (p : ByteArray × ByteArray) : CntI (ds ++ [p]) (MK.putA zs p.1 (cntT ds p.1 + 1)) := by
  have hs := cntT_snoc ds p
  have hn := cntT_nn ds p.1
  refine ⟨fun t => ?_, fun q => ?_⟩
  · rw [MK.look_putA, hs, h.look]
  · rw [MK.mem_putA, hs]
    show _ ↔ (q.2 = (if q.1 = p.1 then cntT ds p.1 + 1 else cntT ds q.1) ∧ 0 < q.2)
    by_cases e : q.1 = p.1
    · rw [if_pos e]
      constructor
      · rintro (⟨_, h2⟩ | h2)
        · exact absurd e h2
        · subst h2; exact ⟨rfl, by show 0 < cntT ds p.1 + 1; omega⟩
      · rintro ⟨h2, _⟩
        exact .inr (Prod.ext e h2)
    · rw [if_neg e]
      constructor
      · rintro (⟨h1, _⟩ | h2)
        · exact (h.mem q).1 h1
        · subst h2; exact absurd rfl e
      · intro h1
        exact .inl ⟨(h.mem q).2 h1, e⟩
/-- The different pairs among the first events. -/
def dsK (E : Nat → Me) (is : List Nat) (z : Int) (k : Nat) : List (ByteArray × ByteArray) := dst (prs E ((is.take k).filter (isR E 4 z)))
theorem dsK_no {E : Nat → Me} {is : List Nat} {z : Int} {k : Nat} (hk : k < is.length) (h : isR E 4 z (is.getD k 0) = false) : dsK E is z (k + 1) = dsK E is z k := by unfold dsK; rw [filt_no hk h]
theorem dsK_yes {E : Nat → Me} {is : List Nat} {z : Int} {k : Nat} (hk : k < is.length) (h : isR E 4 z (is.getD k 0) = true) : dsK E is z (k + 1) = dstS (dsK E is z k) ((E (is.getD k 0)).tx, (E (is.getD k 0)).sd) := by
  unfold dsK; rw [filt_yes hk h]; unfold prs; rw [List.map_append]; exact dst_snoc _ _
theorem dsK_len (E : Nat → Me) (is : List Nat) (z : Int) (k : Nat) : (dsK E is z k).length ≤ k := by
  have h1 := dst_len (prs E ((is.take k).filter (isR E 4 z)))
  have h2 := filt_len is k (isR E 4 z)
  unfold prs at h1
  rw [List.length_map] at h1
  unfold dsK prs
  omega
end Go.Proofs.Ytefajhfahnhcgaa
