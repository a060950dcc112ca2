/- The writer's put, over its values. No condition. -/
import Derived.Test.YtablocpcgknmaaaGreatDoorPV9
namespace Go.Proofs.YtablocpcgknmaaaGreatDoor
open Go Go.RowKit
set_option linter.unusedVariables false
set_option linter.unusedSimpArgs false
set_option maxRecDepth 100000

/-- Encodings one behind the other. -/
def encA {α : Type} (one : α → List Int) (l : List α) : List Int := (l.map one).flatten
theorem encA_succ {α : Type} {one : α → List Int} {l : List α} {k : Nat} {x : α} (h : l[k]? = some x) : encA one (l.take (k + 1)) = encA one (l.take k) ++ one x := by
  obtain ⟨hk, e⟩ := List.getElem?_eq_some_iff.1 h
  unfold encA
  rw [List.take_succ_eq_append_getElem hk, List.map_append, List.flatten_append, e]
  simp
theorem encA_le {α : Type} (one : α → List Int) (l : List α) (k : Nat) : (encA one (l.take k)).length ≤ (encA one l).length := by
  conv => rhs; rw [← List.take_append_drop k l]
  unfold encA
  rw [List.map_append, List.flatten_append, List.length_append]
  omega
theorem encA_all {α : Type} (one : α → List Int) {l : List α} {k : Nat} (h : l.length ≤ k) : encA one (l.take k) = encA one l := by rw [List.take_of_length_le h]
set_option maxHeartbeats 4000000 in
theorem putN (wb g : Nat) (A : Option Addr) (c : Nat) (zs : List Int) (vals : List Int) (w : World) (h : Wr wb A c zs w) (hv : Blk w g (vals.map (Value.int .i64)) 3) (hg : wb < g) (hn : vals.length ≤ 2) (hb : ∀ z ∈ vals, i64B z) (hl : zs.length + (encA eI vals).length ≤ 650000) :
    Calls Tryz.prog 61 #[.func (.func 62) #[.pointer (some ⟨wb, 0, none⟩)] #[], .slice (some ⟨g, 0, none⟩) vals.length vals.length] w (WrP wb (zs ++ encA eI vals) w) := by
  obtain ⟨n, hnn⟩ : ∃ n, vals.length = n := ⟨_, rfl⟩
  have HNN := Lib.hid hnn
  rw [hnn]
  have hn2 : n ≤ 2 := by omega
  have HW := Lib.hid h
  have HV := Lib.hid hv
  have HLL := Lib.hid hl
  have HB := Lib.hid hb
  clear hb
  clear h hv hn hnn hl
  unfold WrP
  go_enter Tryz.func61, Tryz.ntmps61
  go_wp2
  go_loopw [8] (fun i wr => ∃ (k : Nat) (A' : Option Addr) (c' : Nat), k ≤ n ∧ i = .int .i64 k ∧ Hid (Wr wb A' c' (zs ++ encA eI (vals.take k)) wr) ∧ Hid (Below wb w wr) ∧ Hid (KT wb w wr)) (fun i _ => n - (intOf i).toNat)
  case atStart => exact ⟨0, A, c, Nat.zero_le _, rfl, Lib.hid (by rw [show encA eI (vals.take 0) = [] from rfl, List.append_nil]; exact HW.out), Lib.hid (Below.refl _ _), Lib.hid (KT.refl _ _)⟩
  case round =>
    obtain ⟨k, A', c', hk, rfl, HR, BW, KW⟩ := hrel
    by_cases hlt : k < n
    · have hltz : (k : Int) < (n : Int) := by omega
      have hk0 : (0 : Int) ≤ (k : Int) := by omega
      obtain ⟨x, hx⟩ : ∃ x, vals[k]? = some x := ⟨_, List.getElem?_eq_getElem (by rw [HNN.out]; exact hlt)⟩
      have V1 := KW.out g _ _ (by decide) (by omega) HV.out
      have yk := V1.cell (i := k) (v := (Value.int .i64) x) (by rw [List.getElem?_map, hx]; rfl)
      have HM := Lib.hid (wnum wb A' c' (zs ++ encA eI (vals.take k)) x wr HR.out (by have h1 := encA_le eI vals k; have h2 := HLL.out; rw [List.length_append]; omega) (HB.out x (List.mem_of_getElem? hx)))
      have HX := Lib.hid (encA_succ (one := eI) hx)
      clear V1 hx
      unfold WrP at HM
      go_wp2_with (first
        | (go_at_call 62; (with_reducible refine HM.out.mono ?_); rintro e w2 ⟨rfl, ⟨A2, c2, hw⟩, hb, hk2⟩; have R2 := Lib.hid hw; have B2 := Lib.hid (BW.out.trans hb); have K2 := Lib.hid (KW.out.trans hk2); clear hw hb hk2)
        | fail)
      go_roundw
      case rel => exact ⟨k + 1, A2, c2, by omega, by go_num, Lib.hid (by rw [HX.out, ← List.append_assoc]; exact R2.out), B2, K2⟩
      case measure => simp [intOf]; omega
    · have hltz : ¬ (k : Int) < (n : Int) := by omega
      have HE := Lib.hid (encA_all eI (show vals.length ≤ k by rw [HNN.out]; omega))
      go_wp2
      go_end0
      refine ⟨rfl, ⟨A', c', ?_⟩, BW.out, KW.out⟩
      have := HR.out
      rw [HE.out] at this
      exact this
set_option maxHeartbeats 4000000 in
theorem putT (wb g : Nat) (A : Option Addr) (c : Nat) (zs : List Int) (vals : List ByteArray) (w : World) (h : Wr wb A c zs w) (hv : Blk w g (vals.map Value.string) 9) (hg : wb < g) (hn : vals.length ≤ 2) (hb : ∀ z ∈ vals, z.size ≤ 640000) (hl : zs.length + (encA Cd.ent vals).length ≤ 650000) :
    Calls Tryz.prog 63 #[.func (.func 64) #[.pointer (some ⟨wb, 0, none⟩)] #[], .slice (some ⟨g, 0, none⟩) vals.length vals.length] w (WrP wb (zs ++ encA Cd.ent vals) w) := by
  obtain ⟨n, hnn⟩ : ∃ n, vals.length = n := ⟨_, rfl⟩
  have HNN := Lib.hid hnn
  rw [hnn]
  have hn2 : n ≤ 2 := by omega
  have HW := Lib.hid h
  have HV := Lib.hid hv
  have HLL := Lib.hid hl
  have HB := Lib.hid hb
  clear hb
  clear h hv hn hnn hl
  unfold WrP
  go_enter Tryz.func63, Tryz.ntmps63
  go_wp2
  go_loopw [8] (fun i wr => ∃ (k : Nat) (A' : Option Addr) (c' : Nat), k ≤ n ∧ i = .int .i64 k ∧ Hid (Wr wb A' c' (zs ++ encA Cd.ent (vals.take k)) wr) ∧ Hid (Below wb w wr) ∧ Hid (KT wb w wr)) (fun i _ => n - (intOf i).toNat)
  case atStart => exact ⟨0, A, c, Nat.zero_le _, rfl, Lib.hid (by rw [show encA Cd.ent (vals.take 0) = [] from rfl, List.append_nil]; exact HW.out), Lib.hid (Below.refl _ _), Lib.hid (KT.refl _ _)⟩
  case round =>
    obtain ⟨k, A', c', hk, rfl, HR, BW, KW⟩ := hrel
    by_cases hlt : k < n
    · have hltz : (k : Int) < (n : Int) := by omega
      have hk0 : (0 : Int) ≤ (k : Int) := by omega
      obtain ⟨x, hx⟩ : ∃ x, vals[k]? = some x := ⟨_, List.getElem?_eq_getElem (by rw [HNN.out]; exact hlt)⟩
      have V1 := KW.out g _ _ (by decide) (by omega) HV.out
      have yk := V1.cell (i := k) (v := Value.string x) (by rw [List.getElem?_map, hx]; rfl)
      have HM := Lib.hid (wtext wb A' c' (zs ++ encA Cd.ent (vals.take k)) x wr HR.out (by have h1 := encA_le Cd.ent vals k; have h2 := HLL.out; rw [List.length_append]; omega) (HB.out x (List.mem_of_getElem? hx)))
      have HX := Lib.hid (encA_succ (one := Cd.ent) hx)
      clear V1 hx
      unfold WrP at HM
      go_wp2_with (first
        | (go_at_call 64; (with_reducible refine HM.out.mono ?_); rintro e w2 ⟨rfl, ⟨A2, c2, hw⟩, hb, hk2⟩; have R2 := Lib.hid hw; have B2 := Lib.hid (BW.out.trans hb); have K2 := Lib.hid (KW.out.trans hk2); clear hw hb hk2)
        | fail)
      go_roundw
      case rel => exact ⟨k + 1, A2, c2, by omega, by go_num, Lib.hid (by rw [HX.out, ← List.append_assoc]; exact R2.out), B2, K2⟩
      case measure => simp [intOf]; omega
    · have hltz : ¬ (k : Int) < (n : Int) := by omega
      have HE := Lib.hid (encA_all Cd.ent (show vals.length ≤ k by rw [HNN.out]; omega))
      go_wp2
      go_end0
      refine ⟨rfl, ⟨A', c', ?_⟩, BW.out, KW.out⟩
      have := HR.out
      rw [HE.out] at this
      exact this
set_option maxHeartbeats 4000000 in
theorem putB (wb g : Nat) (A : Option Addr) (c : Nat) (zs : List Int) (vals : List Bool) (w : World) (h : Wr wb A c zs w) (hv : Blk w g (vals.map Value.bool) 4) (hg : wb < g) (hn : vals.length ≤ 2)  (hl : zs.length + (encA (fun b : Bool => [if b then (1 : Int) else 0]) vals).length ≤ 650000) :
    Calls Tryz.prog 65 #[.func (.func 66) #[.pointer (some ⟨wb, 0, none⟩)] #[], .slice (some ⟨g, 0, none⟩) vals.length vals.length] w (WrP wb (zs ++ encA (fun b : Bool => [if b then (1 : Int) else 0]) vals) w) := by
  obtain ⟨n, hnn⟩ : ∃ n, vals.length = n := ⟨_, rfl⟩
  have HNN := Lib.hid hnn
  rw [hnn]
  have hn2 : n ≤ 2 := by omega
  have HW := Lib.hid h
  have HV := Lib.hid hv
  have HLL := Lib.hid hl
  have HB := 0
  clear HB
  clear h hv hn hnn hl
  unfold WrP
  go_enter Tryz.func65, Tryz.ntmps65
  go_wp2
  go_loopw [8] (fun i wr => ∃ (k : Nat) (A' : Option Addr) (c' : Nat), k ≤ n ∧ i = .int .i64 k ∧ Hid (Wr wb A' c' (zs ++ encA (fun b : Bool => [if b then (1 : Int) else 0]) (vals.take k)) wr) ∧ Hid (Below wb w wr) ∧ Hid (KT wb w wr)) (fun i _ => n - (intOf i).toNat)
  case atStart => exact ⟨0, A, c, Nat.zero_le _, rfl, Lib.hid (by rw [show encA (fun b : Bool => [if b then (1 : Int) else 0]) (vals.take 0) = [] from rfl, List.append_nil]; exact HW.out), Lib.hid (Below.refl _ _), Lib.hid (KT.refl _ _)⟩
  case round =>
    obtain ⟨k, A', c', hk, rfl, HR, BW, KW⟩ := hrel
    by_cases hlt : k < n
    · have hltz : (k : Int) < (n : Int) := by omega
      have hk0 : (0 : Int) ≤ (k : Int) := by omega
      obtain ⟨x, hx⟩ : ∃ x, vals[k]? = some x := ⟨_, List.getElem?_eq_getElem (by rw [HNN.out]; exact hlt)⟩
      have V1 := KW.out g _ _ (by decide) (by omega) HV.out
      have yk := V1.cell (i := k) (v := Value.bool x) (by rw [List.getElem?_map, hx]; rfl)
      have HM := Lib.hid (wflag wb A' c' (zs ++ encA (fun b : Bool => [if b then (1 : Int) else 0]) (vals.take k)) x wr HR.out (by have h1 := encA_le (fun b : Bool => [if b then (1 : Int) else 0]) vals k; have h2 := HLL.out; rw [List.length_append]; omega) )
      have HX := Lib.hid (encA_succ (one := (fun b : Bool => [if b then (1 : Int) else 0])) hx)
      clear V1 hx
      unfold WrP at HM
      go_wp2_with (first
        | (go_at_call 66; (with_reducible refine HM.out.mono ?_); rintro e w2 ⟨rfl, ⟨A2, c2, hw⟩, hb, hk2⟩; have R2 := Lib.hid hw; have B2 := Lib.hid (BW.out.trans hb); have K2 := Lib.hid (KW.out.trans hk2); clear hw hb hk2)
        | fail)
      go_roundw
      case rel => exact ⟨k + 1, A2, c2, by omega, by go_num, Lib.hid (by rw [HX.out, ← List.append_assoc]; exact R2.out), B2, K2⟩
      case measure => simp [intOf]; omega
    · have hltz : ¬ (k : Int) < (n : Int) := by omega
      have HE := Lib.hid (encA_all (fun b : Bool => [if b then (1 : Int) else 0]) (show vals.length ≤ k by rw [HNN.out]; omega))
      go_wp2
      go_end0
      refine ⟨rfl, ⟨A', c', ?_⟩, BW.out, KW.out⟩
      have := HR.out
      rw [HE.out] at this
      exact this
set_option maxHeartbeats 4000000 in
theorem putJ (wb g : Nat) (A : Option Addr) (c : Nat) (zs : List Int) (vals : List (Option Addr × Nat × List Int)) (w : World) (h : Wr wb A c zs w) (hv : Blk w g (vals.map (fun p : Option Addr × Nat × List Int => Value.slice p.1 p.2.2.length p.2.1)) 23) (hg : wb < g) (hn : vals.length ≤ 2) (hb : ∀ p ∈ vals, (∀ y, Below wb w y → Ins y p.1 p.2.2.length p.2.1 p.2.2) ∧ p.2.2.length ≤ 100) (hl : zs.length + (encA (fun p : Option Addr × Nat × List Int => encJ p.2.2) vals).length ≤ 650000) :
    Calls Tryz.prog 67 #[.func (.func 68) #[.pointer (some ⟨wb, 0, none⟩)] #[], .slice (some ⟨g, 0, none⟩) vals.length vals.length] w (WrP wb (zs ++ encA (fun p : Option Addr × Nat × List Int => encJ p.2.2) vals) w) := by
  obtain ⟨n, hnn⟩ : ∃ n, vals.length = n := ⟨_, rfl⟩
  have HNN := Lib.hid hnn
  rw [hnn]
  have hn2 : n ≤ 2 := by omega
  have HW := Lib.hid h
  have HV := Lib.hid hv
  have HLL := Lib.hid hl
  have HB := Lib.hid hb
  clear hb
  clear h hv hn hnn hl
  unfold WrP
  go_enter Tryz.func67, Tryz.ntmps67
  go_wp2
  go_loopw [8] (fun i wr => ∃ (k : Nat) (A' : Option Addr) (c' : Nat), k ≤ n ∧ i = .int .i64 k ∧ Hid (Wr wb A' c' (zs ++ encA (fun p : Option Addr × Nat × List Int => encJ p.2.2) (vals.take k)) wr) ∧ Hid (Below wb w wr) ∧ Hid (KT wb w wr)) (fun i _ => n - (intOf i).toNat)
  case atStart => exact ⟨0, A, c, Nat.zero_le _, rfl, Lib.hid (by rw [show encA (fun p : Option Addr × Nat × List Int => encJ p.2.2) (vals.take 0) = [] from rfl, List.append_nil]; exact HW.out), Lib.hid (Below.refl _ _), Lib.hid (KT.refl _ _)⟩
  case round =>
    obtain ⟨k, A', c', hk, rfl, HR, BW, KW⟩ := hrel
    by_cases hlt : k < n
    · have hltz : (k : Int) < (n : Int) := by omega
      have hk0 : (0 : Int) ≤ (k : Int) := by omega
      obtain ⟨x, hx⟩ : ∃ x, vals[k]? = some x := ⟨_, List.getElem?_eq_getElem (by rw [HNN.out]; exact hlt)⟩
      have V1 := KW.out g _ _ (by decide) (by omega) HV.out
      have yk := V1.cell (i := k) (v := (fun p : Option Addr × Nat × List Int => Value.slice p.1 p.2.2.length p.2.1) x) (by rw [List.getElem?_map, hx]; rfl)
      have HM := Lib.hid (wrefs wb A' c' (zs ++ encA (fun p : Option Addr × Nat × List Int => encJ p.2.2) (vals.take k)) x.1 x.2.1 x.2.2 wr HR.out (by have h1 := encA_le (fun p : Option Addr × Nat × List Int => encJ p.2.2) vals k; have h2 := HLL.out; rw [List.length_append]; omega) (fun y hb => (HB.out x (List.mem_of_getElem? hx)).1 y (BW.out.trans hb)) (HB.out x (List.mem_of_getElem? hx)).2)
      have HX := Lib.hid (encA_succ (one := (fun p : Option Addr × Nat × List Int => encJ p.2.2)) hx)
      clear V1 hx
      unfold WrP at HM
      dsimp only at yk
      go_wp2_with (first
        | (go_at_call 68; (with_reducible refine HM.out.mono ?_); rintro e w2 ⟨rfl, ⟨A2, c2, hw⟩, hb, hk2⟩; have R2 := Lib.hid hw; have B2 := Lib.hid (BW.out.trans hb); have K2 := Lib.hid (KW.out.trans hk2); clear hw hb hk2)
        | fail)
      go_roundw
      case rel => exact ⟨k + 1, A2, c2, by omega, by go_num, Lib.hid (by rw [HX.out, ← List.append_assoc]; exact R2.out), B2, K2⟩
      case measure => simp [intOf]; omega
    · have hltz : ¬ (k : Int) < (n : Int) := by omega
      have HE := Lib.hid (encA_all (fun p : Option Addr × Nat × List Int => encJ p.2.2) (show vals.length ≤ k by rw [HNN.out]; omega))
      go_wp2
      go_end0
      refine ⟨rfl, ⟨A', c', ?_⟩, BW.out, KW.out⟩
      have := HR.out
      rw [HE.out] at this
      exact this
end Go.Proofs.YtablocpcgknmaaaGreatDoor
