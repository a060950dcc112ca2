/- Who may invite, in a room without a power event: a member. -/
import Derived.Test.YtmgjmcpkoaacjaaW7
namespace Go.Proofs.Ytmgjmcpkoaacjaa
open Go.RowKit
set_option linter.unusedVariables false

structure Nine (w : World) (t g : Nat) : Prop where
  c0 : w.cell? ⟨t, 0, none⟩ = some (.slice (some ⟨g, 0, none⟩) 1 1)
  c1 : w.cell? ⟨t, 1, none⟩ = some (.slice none 0 0)
  c2 : w.cell? ⟨t, 2, none⟩ = some (.int .i64 0)
  c3 : w.cell? ⟨t, 3, none⟩ = some (.int .i64 0)
  c4 : w.cell? ⟨t, 4, none⟩ = some (.int .i64 0)
  c5 : w.cell? ⟨t, 5, none⟩ = some (.int .i64 0)
  c6 : w.cell? ⟨t, 6, none⟩ = some (.int .i64 50)
  c7 : w.cell? ⟨t, 7, none⟩ = some (.int .i64 50)
  c8 : w.cell? ⟨t, 8, none⟩ = some (.int .i64 50)
theorem Nine.below {w w1 : World} {t g : Nat} (h : Nine w t g) (ht : t < w.heap.size) (hb : Below w.heap.size w w1) : Nine w1 t g :=
  ⟨(hb.cell (p := ⟨t, 0, none⟩) ht).trans h.c0, (hb.cell (p := ⟨t, 1, none⟩) ht).trans h.c1, (hb.cell (p := ⟨t, 2, none⟩) ht).trans h.c2, (hb.cell (p := ⟨t, 3, none⟩) ht).trans h.c3, (hb.cell (p := ⟨t, 4, none⟩) ht).trans h.c4,
   (hb.cell (p := ⟨t, 5, none⟩) ht).trans h.c5, (hb.cell (p := ⟨t, 6, none⟩) ht).trans h.c6, (hb.cell (p := ⟨t, 7, none⟩) ht).trans h.c7, (hb.cell (p := ⟨t, 8, none⟩) ht).trans h.c8⟩
theorem nine_new (w : World) (g : Nat) : Nine (w.alloc (.cells (lvs g).toArray 28)) w.heap.size g := by
  have h := heap_alloc_new w (.cells (lvs g).toArray 28)
  constructor <;> (rw [cell_of_row _ _ _ _ _ _ h]; rfl)
structure One (w : World) (g : Nat) (s : ByteArray) : Prop where
  lt : g < w.heap.size
  c0 : w.cell? ⟨g, 0, none⟩ = some (.string s)
  c1 : w.cell? ⟨g, 1, none⟩ = some (.int .i64 100)
theorem One.below {w w1 : World} {g : Nat} {s : ByteArray} (h : One w g s) (hb : Below w.heap.size w w1) : One w1 g s :=
  ⟨Nat.lt_of_lt_of_le h.lt hb.size, (hb.cell (p := ⟨g, 0, none⟩) h.lt).trans h.c0, (hb.cell (p := ⟨g, 1, none⟩) h.lt).trans h.c1⟩

set_option maxHeartbeats 2000000 in
theorem via_yes (b off n c : Nat) (E : Nat → Ev) (s u : ByteArray) (i : Nat) (r : Int) (w : World) (hE : Evs w b off n E) (hi : i < n) (h1 : FirstPost E 1 n i) (h3 : FirstPost E 3 n (-1)) (hs : (E i).snd = s) (hn : (s.toList == []) = false)
    (hm : MemPost E u n 3) (hu : UserPost (fun _ => (s, 100)) u 1 0 r) (hr : 0 ≤ r) :
    Calls Try.prog 16 #[.slice (some ⟨b, off, none⟩) n c, .string u] w fun e w' => e = .returned (.int .i64 0) ∧ Below w.heap.size w w' := by
  have HE := Lib.hid hE
  have HL := Lib.hid (levels_none b off n c E s i w hE hi h1 h3 hs hn)
  have HM := Lib.hid hm
  have HU := Lib.hid hu
  have qr : decide (r < 0) = false := by simp; omega
  clear hE hi h1 h3 hs hn hm hu hr
  go_enter Try.func16, Try.ntmps16
  go_upto_region 2 with (go_at_call 19; refine HL.out.mono ?_; rintro e w1 ⟨g, rfl, hl⟩; have HLv := Lib.hid hl; have HE1 := Lib.hid ((HE.out.below hl.2.2.2.2.2).below (Below.alloc (Below.refl w1.heap.size w1) (Nat.le_refl _) (.cells (lvs g).toArray 28))); have HB := Lib.hid (Below.alloc hl.2.2.2.2.2 hl.2.2.2.2.2.size (.cells (lvs g).toArray 28)); have HO := Lib.hid ((One.mk hl.2.2.1 hl.2.2.2.1 hl.2.2.2.2.1).below (Below.alloc (Below.refl w1.heap.size w1) (Nat.le_refl _) (.cells (lvs g).toArray 28))); have HNn := Lib.hid (nine_new w1 g); have HLt := Lib.hid (show w1.heap.size < (w1.alloc (.cells (lvs g).toArray 28)).heap.size by simp); clear hl)
  generalize (w1.alloc _) = w2 at HE1 HB HO HNn HLt ⊢
  obtain ⟨k0, k1, k2, k3, k4, k5, k6, k7, k8⟩ := HNn.out
  generalize w1.heap.size = t at HNn HLt k0 k1 k2 k3 k4 k5 k6 k7 k8 ⊢
  go_region_held3 (fun w' => w'.cell? ⟨t, 0, none⟩ = some (.slice (some ⟨g, 0, none⟩) 1 1) ∧ w'.cell? ⟨t, 1, none⟩ = some (.slice none 0 0) ∧ w'.cell? ⟨t, 2, none⟩ = some (.int .i64 0) ∧ w'.cell? ⟨t, 3, none⟩ = some (.int .i64 0) ∧ w'.cell? ⟨t, 4, none⟩ = some (.int .i64 0) ∧ w'.cell? ⟨t, 5, none⟩ = some (.int .i64 0) ∧ w'.cell? ⟨t, 6, none⟩ = some (.int .i64 50) ∧ w'.cell? ⟨t, 7, none⟩ = some (.int .i64 50) ∧ w'.cell? ⟨t, 8, none⟩ = some (.int .i64 50)) (first | exact ⟨k0, k1, k2, k3, k4, k5, k6, k7, k8⟩ | go_keep)
    (first
      | (go_at_call 20; refine (member_is b off n c E u 3 _ (HE1.out.below (Below.drew (Below.refl _ w2))) HM.out).mono ?_; rintro e w' ⟨rfl, rfl⟩)
      | (go_at_call 21; refine (user_is g s u r _ (HO.out.below (Below.drew (Below.refl _ w2))).lt (HO.out.below (Below.drew (Below.refl _ w2))).c0 (HO.out.below (Below.drew (Below.refl _ w2))).c1 HU.out).mono ?_; rintro e w3 ⟨rfl, hb3⟩; have HB3 := Lib.hid hb3; clear k0 k1 k2 k3 k4 k5 k6 k7 k8; obtain ⟨k0, k1, k2, k3, k4, k5, k6, k7, k8⟩ := (HNn.out.below HLt.out (Below.drew (Below.refl _ w2))).below (w := w2.drew) HLt.out hb3; clear hb3))
  all_goals go_wp2
  all_goals go_ret
  all_goals exact ⟨rfl, HB.out.drew.trans (HB3.out.mono HB.out.size)⟩

end Go.Proofs.Ytmgjmcpkoaacjaa
