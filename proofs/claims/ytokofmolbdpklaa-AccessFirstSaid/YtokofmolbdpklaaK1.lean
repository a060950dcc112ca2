/- awake: its examples. No condition. -/
import Derived.Test.YtokofmolbdpklaaM1
import Derived.Test.YtokofmolbdpklaaS2
namespace Go.Proofs.Ytokofmolbdpklaa
open Go.RowKit
set_option linter.unusedVariables false

def cx : Ct := ⟨⟨#[]⟩, 0, 0, false, ⟨#[]⟩, 1, [⟨#[42]⟩], 1, [⟨#[101, 118, 105, 108, 46, 42]⟩], ⟨0, fun _ => (⟨#[]⟩, 0), 0, fun _ => (0, 0), 0, 0, 0, 0, 0, 0, 0⟩⟩
def ax (g : Nat) : Ads := ⟨some ⟨g, 0, none⟩, 1, some ⟨g + 1, 0, none⟩, 1, none, 0, none, 0⟩
theorem al1 : allow cx ⟨#[97]⟩ = true := by kernel_rfl
theorem al2 : allow cx ⟨#[101, 118, 105, 108, 46, 120]⟩ = false := by kernel_rfl
theorem al3 : allow ct0 ⟨#[97]⟩ = false := by kernel_rfl
theorem txs_one (w : World) (g : Nat) (s : ByteArray) (T : TypeId) (h : Blk w g [.string s] T) (hs : s.size ≤ 9223372036854775807) : Txs w (some ⟨g, 0, none⟩) 1 1 [s] := by
  refine ⟨⟨fun j hj => rfl, fun j hj u hu => ?_, ?_, fun e => ?_, .inr ⟨g, 0, rfl, h.lt, fun j hj i v hv => ?_⟩⟩, rfl, Nat.le_refl _, by simpa using hs⟩
  · simp [rowS] at hu; subst hu; rfl
  · unfold maxLen; omega
  · cases e
  · obtain rfl : j = 0 := by omega
    have hv' : [Value.string s][i]? = some v := hv
    have := h.cell hv'
    simpa using this
theorem blk_third (w : World) (o p : Obj) (cs : List Value) (T : TypeId) : Blk (((w.alloc o).alloc p).alloc (.cells cs.toArray T)) (w.heap.size + 2) cs T := by
  have := blk_new ((w.alloc o).alloc p) cs T
  have e : ((w.alloc o).alloc p).heap.size = w.heap.size + 2 := by simp
  rw [e] at this
  exact this
abbrev cxc (g : Nat) : List Value := ctc ⟨#[]⟩ 0 0 false ⟨#[]⟩ (some ⟨g, 0, none⟩) 1 1 (some ⟨g + 1, 0, none⟩) 1 1 none 0 0 none 0 0 0 0 0 0 0 0 0
abbrev e58 (g : Nat) : List Value := [.int .i64 0, .string ⟨#[]⟩, .string ⟨#[]⟩, .int .i64 7, .bool false, .string ⟨#[]⟩, .int .i64 0, .int .i64 0, .slice none 0 0, .slice none 0 0, .string ⟨#[]⟩, .int .i64 0, .int .i64 0, .bool false, .string ⟨#[]⟩, .slice none 0 0, .slice none 0 0, .slice none 0 0, .slice none 0 0, .int .i64 0, .int .i64 0, .int .i64 0, .int .i64 0, .int .i64 0, .int .i64 0, .int .i64 0, .int .i64 0, .string ⟨#[]⟩, .int .i64 0, .int .i64 0, .string ⟨#[]⟩, .string ⟨#[]⟩, .int .i64 6, .bool false, .string ⟨#[]⟩, .int .i64 0, .int .i64 0, .slice none 0 0, .slice none 0 0, .string ⟨#[]⟩, .int .i64 0, .int .i64 0, .bool false, .string ⟨#[]⟩, .slice (some ⟨g, 0, none⟩) 1 1, .slice (some ⟨g + 1, 0, none⟩) 1 1, .slice none 0 0, .slice none 0 0, .int .i64 0, .int .i64 0, .int .i64 0, .int .i64 0, .int .i64 0, .int .i64 0, .int .i64 0, .int .i64 0, .string ⟨#[]⟩, .int .i64 0]
abbrev e29 (g : Nat) : List Value := [.int .i64 0, .string ⟨#[]⟩, .string ⟨#[]⟩, .int .i64 6, .bool false, .string ⟨#[]⟩, .int .i64 0, .int .i64 0, .slice none 0 0, .slice none 0 0, .string ⟨#[]⟩, .int .i64 0, .int .i64 0, .bool false, .string ⟨#[]⟩, .slice (some ⟨g, 0, none⟩) 1 1, .slice (some ⟨g + 1, 0, none⟩) 1 1, .slice none 0 0, .slice none 0 0, .int .i64 0, .int .i64 0, .int .i64 0, .int .i64 0, .int .i64 0, .int .i64 0, .int .i64 0, .int .i64 0, .string ⟨#[]⟩, .int .i64 0]
structure Awk (w w3 : World) : Prop where
  x : Blk w3 (w.heap.size + 2) (cxc w.heap.size) 28
  i : IsCt w3 cx (ax w.heap.size)
  b : Below w.heap.size w w3
theorem Awk.below {w w1 w2 : World} (h : Awk w w1) (hb : Below w1.heap.size w1 w2) : Awk w w2 := ⟨h.x.below hb, h.i.below hb, h.b.trans (hb.mono h.b.size)⟩
theorem Awk.store {w w1 w2 : World} (h : Awk w w1) (cs : List Value) (e : w2 = (w1.alloc (.cells c16.toArray 28)).setCells w1.heap.size 0 cs) : Awk w w2 := by
  have k := h.below ((Below.refl _ w1).alloc (Nat.le_refl _) (.cells c16.toArray 28))
  have hl := h.x.lt
  subst e
  exact ⟨k.x.otherAll _ _ _ (by omega), k.i.otherAll _ _ _ (h.i.apart (Nat.le_refl _)), below_setAll h.b.size _ _ _ k.b⟩
theorem awk_start (w w4 : World) (e : w4 = (((w.alloc (.cells #[.string ⟨#[42]⟩] 9)).alloc (.cells #[.string ⟨#[101, 118, 105, 108, 46, 42]⟩] 9)).alloc (.cells c16.toArray 28)).setCells (w.heap.size + 2) 0 (cxc w.heap.size)) : Awk w w4 := by
  have h1 := ((blk_new w [.string ⟨#[42]⟩] 9).alloc (.cells #[.string ⟨#[101, 118, 105, 108, 46, 42]⟩] 9)).alloc (.cells c16.toArray 28)
  have h2 := (blk_second' w (.cells #[.string ⟨#[42]⟩] 9) [.string ⟨#[101, 118, 105, 108, 46, 42]⟩] 9).alloc (.cells c16.toArray 28)
  have h3 := blk_third w (.cells #[.string ⟨#[42]⟩] 9) (.cells #[.string ⟨#[101, 118, 105, 108, 46, 42]⟩] 9) c16 28
  have hb := (below_two' w (.cells #[.string ⟨#[42]⟩] 9) (.cells #[.string ⟨#[101, 118, 105, 108, 46, 42]⟩] 9)).alloc (by simp; omega) (.cells c16.toArray 28)
  subst e
  refine ⟨h3.setAll _ rfl, ⟨?_, ?_, ?_, ?_⟩, below_setAll (by omega) _ _ _ hb⟩
  · exact txs_one _ _ _ _ (h1.otherAll _ _ _ (by omega)) (by decide)
  · exact txs_one _ _ _ _ (h2.otherAll _ _ _ (by omega)) (by decide)
  · exact Rws.zero _ _ _ _ _ (fun _ => rfl)
  · exact Rws.zero _ _ _ _ _ (fun _ => rfl)
theorem there_third (w : World) (o p : Obj) : (((w.alloc o).alloc p).alloc (.cells c16.toArray 28)).there (w.heap.size + 2) 0 16 := Blk.there (blk_third w o p c16 28) (by decide)
def kd2 (j : Nat) : Int := if j = 0 then 7 else 6
def ct2 (j : Nat) : Ct := if j = 0 then ct0 else cx
def ad2 (g j : Nat) : Ads := if j = 0 then ad0 else ax g
theorem evl_two (w : World) (g : Nat) (h : IsCt w cx (ax g)) : Evl (w.alloc (.cells (e58 g).toArray 39)) (some ⟨w.heap.size, 0, none⟩) 2 kd2 ct2 (ad2 g) := by
  have B := blk_new w (e58 g) 39
  have hb := (Below.refl _ w).alloc (Nat.le_refl _) (.cells (e58 g).toArray 39)
  refine ⟨by omega, fun _ => ⟨_, 0, rfl, B.lt, fun j hj => ?_⟩, fun j hj => ?_⟩
  · have : j = 0 ∨ j = 1 := by omega
    rcases this with rfl | rfl
    · exact ⟨B.cell (i := 3) rfl, B.mid 10 16⟩
    · exact ⟨B.cell (i := 32) rfl, B.mid 39 16⟩
  · have : j = 0 ∨ j = 1 := by omega
    rcases this with rfl | rfl
    · exact ct0_is _
    · exact h.below hb
theorem evl_one (w : World) (g : Nat) (h : IsCt w cx (ax g)) : Evl (w.alloc (.cells (e29 g).toArray 39)) (some ⟨w.heap.size, 0, none⟩) 1 (fun _ => 6) (fun _ => cx) (fun _ => ax g) := by
  have B := blk_new w (e29 g) 39
  have hb := (Below.refl _ w).alloc (Nat.le_refl _) (.cells (e29 g).toArray 39)
  refine ⟨by omega, fun _ => ⟨_, 0, rfl, B.lt, fun j hj => ?_⟩, fun j hj => h.below hb⟩
  obtain rfl : j = 0 := by omega
  exact ⟨B.cell (i := 3) rfl, B.mid 10 16⟩
theorem evl_nil (w : World) : Evl w none 0 (fun _ => 0) (fun _ => ct0) (fun _ => ad0) := ⟨by omega, fun h => by omega, fun j hj => by omega⟩
theorem sm_cx : Sm cx := ⟨by decide, by decide, by decide, by decide⟩
theorem sm_ct0 : Sm ct0 := ⟨by decide, by decide, by decide, by decide⟩
theorem o_two (w : World) (g : Nat) (h : IsCt w cx (ax g)) : Calls Try.prog 14 #[.slice (some ⟨w.heap.size, 0, none⟩) 2 2] (w.alloc (.cells (e58 g).toArray 39)) fun e w' => OfS cx e w' ∧ Below (w.alloc (.cells (e58 g).toArray 39)).heap.size (w.alloc (.cells (e58 g).toArray 39)) w' :=
  of14_s _ 2 2 kd2 ct2 (ad2 g) _ _ (evl_two w g h) (fun j hj => by unfold ct2; split; (first | exact sm_ct0 | exact sm_cx); (first | exact sm_ct0 | exact sm_cx)) 1 rfl (Below.refl _ _)
theorem o_nil (w : World) : Calls Try.prog 14 #[.slice none 0 0] w fun e w' => e = .returned (.tuple #[.agg c16.toArray, .bool false]) ∧ Below w.heap.size w w' :=
  of14_n none 0 0 (fun _ => 0) (fun _ => ct0) (fun _ => ad0) w w (evl_nil w) (fun j hj => by omega) rfl (Below.refl _ _)
theorem k_a (w : World) (g : Nat) (h : IsCt w cx (ax g)) : Calls Try.prog 9 #[.agg (cxc g).toArray, .string ⟨#[97]⟩] w fun e w' => e = .returned (.bool true) ∧ Below w.heap.size w w' := by
  have := allowed9 cx (ax g) ⟨#[97]⟩ (by decide) w h
  rw [al1] at this; exact this
theorem k_b (w : World) (g : Nat) (h : IsCt w cx (ax g)) : Calls Try.prog 9 #[.agg (cxc g).toArray, .string ⟨#[101, 118, 105, 108, 46, 120]⟩] w fun e w' => e = .returned (.bool false) ∧ Below w.heap.size w w' := by
  have := allowed9 cx (ax g) ⟨#[101, 118, 105, 108, 46, 120]⟩ (by decide) w h
  rw [al2] at this; exact this
theorem k_c (w : World) : Calls Try.prog 9 #[.agg c16.toArray, .string ⟨#[97]⟩] w fun e w' => e = .returned (.bool false) ∧ Below w.heap.size w w' := by
  have := allowed9 ct0 ad0 ⟨#[97]⟩ (by decide) w (ct0_is w)
  rw [al3] at this; exact this
theorem k_d (w : World) (g : Nat) (a : Ads) (h : IsCt w cx (ax g)) (h' : IsCt w cx a) : Calls Try.prog 16 #[.agg (cxc g).toArray, .agg (cells cx a).toArray] w fun e w' => e = .returned (.bool true) ∧ Below w.heap.size w w' :=
  same16 cx (ax g) a w h h'
theorem k_e (w : World) : Calls Try.prog 17 #[.slice none 0 0, .string ⟨#[97]⟩] w fun e w' => e = .returned (.int .i64 0) ∧ Below w.heap.size w w' :=
  may17 none 0 0 (fun _ => 0) (fun _ => ct0) (fun _ => ad0) ⟨#[97]⟩ (by decide) w (evl_nil w) (fun j hj => by omega)
theorem mayI1 : mayI 1 (fun _ => 6) (fun _ => cx) ⟨#[101, 118, 105, 108, 46, 120]⟩ = 22 := by
  unfold mayI
  rw [show fk 1 (fun _ => 6) = some 0 from by decide]
  simp [al2]
theorem k_f (w : World) (g : Nat) (h : IsCt w cx (ax g)) : Calls Try.prog 17 #[.slice (some ⟨w.heap.size, 0, none⟩) 1 1, .string ⟨#[101, 118, 105, 108, 46, 120]⟩] (w.alloc (.cells (e29 g).toArray 39)) fun e w' => e = .returned (.int .i64 22) ∧ Below (w.alloc (.cells (e29 g).toArray 39)).heap.size (w.alloc (.cells (e29 g).toArray 39)) w' := by
  have := may17 _ 1 1 (fun _ => 6) (fun _ => cx) (fun _ => ax g) ⟨#[101, 118, 105, 108, 46, 120]⟩ (by decide) _ (evl_one w g h) (fun j hj => sm_cx)
  rw [mayI1] at this; exact this
theorem k_g (w : World) (g : Nat) (h : IsCt w cx (ax g)) : Calls Try.prog 11 #[.agg (cxc g).toArray, .agg (cxc g).toArray, .string ⟨#[97]⟩] w fun e w' => e = .returned (.bool true) ∧ Below w.heap.size w w' := by
  have := keeps11 cx (ax g) cx (ax g) ⟨#[97]⟩ (by decide) w h h
  rw [al1] at this; exact this
theorem k_h (w : World) (g : Nat) (h : IsCt w cx (ax g)) : Calls Try.prog 11 #[.agg (cxc g).toArray, .agg c16.toArray, .string ⟨#[97]⟩] w fun e w' => e = .returned (.bool false) ∧ Below w.heap.size w w' := by
  have := keeps11 cx (ax g) ct0 ad0 ⟨#[97]⟩ (by decide) w h (ct0_is w)
  rw [al1, al3] at this; exact this
end Go.Proofs.Ytokofmolbdpklaa
