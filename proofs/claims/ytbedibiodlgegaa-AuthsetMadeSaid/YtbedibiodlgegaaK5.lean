/- The keys of events: keyOf, keysOf. Bound: none. -/
import Derived.Test.YtbedibiodlgegaaK4
import Derived.Test.YtbedibiodlgegaaG7
namespace Go.Proofs.Ytbedibiodlgegaa
open Go Go.RowKit
set_option linter.unusedVariables false
set_option linter.unusedSimpArgs false

/-- What matters of an event for its keys. -/
structure EvP (w : World) (b off : Nat) (kd : Int) (sn ke : ByteArray) (n : Int) : Prop where
  lt : b < w.heap.size
  c2 : w.cell? ⟨b, off + 2, none⟩ = some (.string sn)
  c3 : w.cell? ⟨b, off + 3, none⟩ = some (.int .i64 kd)
  c5 : w.cell? ⟨b, off + 5, none⟩ = some (.string ke)
  c11 : w.cell? ⟨b, off + 10 + 1, none⟩ = some (.int .i64 n)
theorem EvP.below {w w' : World} {b off : Nat} {kd : Int} {sn ke : ByteArray} {n : Int} (h : EvP w b off kd sn ke n) (hb : Below w.heap.size w w') : EvP w' b off kd sn ke n :=
  ⟨Nat.lt_of_lt_of_le h.lt hb.size, (hb.cell (p := ⟨b, _, none⟩) h.lt).trans h.c2, (hb.cell (p := ⟨b, _, none⟩) h.lt).trans h.c3, (hb.cell (p := ⟨b, _, none⟩) h.lt).trans h.c5, (hb.cell (p := ⟨b, _, none⟩) h.lt).trans h.c11⟩
set_option maxRecDepth 100000 in
set_option maxHeartbeats 4000000 in
theorem keyOf36 (b off : Nat) (kd : Int) (sn ke : ByteArray) (n : Int) (w : World) (h : EvP w b off kd sn ke n) : Calls Try.prog 36 #[.pointer (some ⟨b, off, none⟩)] w fun e w' => e = .returned (.agg #[.int .i64 kd, .string ke, .int .i64 0]) ∧ Below w.heap.size w w' := by
  have HE := Lib.hid h
  have hbl := h.lt
  clear h
  go_enter Try.func36, Try.ntmps36
  go_upto_region 1 with (fail)
  refine wp_region_held_drew (S := (fun y => Below w.heap.size w y)) (by kernel_rfl) (((Below.refl w.heap.size w).alloc (Nat.le_refl _) _).drew) (fun hH0 => ?_)
  generalize hy0 : World.drew _ = y0 at hH0 ⊢
  have RB0 : Hid (Below w.heap.size w y0) := Lib.hid hH0
  have XB := Lib.hid (show Blk y0 w.heap.size [.int .i64 0, .string ⟨#[]⟩, .int .i64 0] 64 by rw [← hy0]; exact (blk_new w [.int .i64 0, .string ⟨#[]⟩, .int .i64 0] 64).below ((Below.refl _ _).drew))
  clear hy0
  refine wpAnyH_take (i := 0) (oi := ({ dst := some 3, op := Op.move (Operand.tmp 0), type := 63, pos := "authset.go:21", after := #[], guard := none } : Oper)) (v := ?hv1) rfl (by kernel_rfl) (by kernel_rfl) (by kernel_rfl) (fun _ _ _ h => h) (Or.inl ⟨by rfl, ?hy1⟩) (by assumption) ?hr1
  case hy1 => (intro w hSw; (try dsimp only at hSw); go_simp; (try with_reducible rfl))
  try simp only [Act.put, List.setIfInBounds_toArray, List.set_cons_zero, List.set_cons_succ]
  refine wpAnyH_take (i := 1) (oi := ({ dst := some 4, op := Op.nilCheck (Operand.tmp 3), type := 0, pos := "authset.go:21", after := #[{ on := 0, ground := Ground.data }], guard := none } : Oper)) (v := ?hv2) rfl (by kernel_rfl) (by kernel_rfl) (by kernel_rfl) (fun _ _ _ h => h) (Or.inl ⟨by rfl, ?hy2⟩) (by assumption) ?hr2
  case hy2 => (intro w hSw; (try dsimp only at hSw); go_simp; (try with_reducible rfl))
  try simp only [Act.put, List.setIfInBounds_toArray, List.set_cons_zero, List.set_cons_succ]
  refine wpAnyH_take (i := 2) (oi := ({ dst := some 5, op := Op.fieldAddr 34 (Operand.tmp 4) 3, type := 0, pos := "authset.go:21", after := #[{ on := 1, ground := Ground.data }], guard := none } : Oper)) (v := ?hv3) rfl (by kernel_rfl) (by kernel_rfl) (by kernel_rfl) (fun _ _ _ h => h) (Or.inl ⟨by rfl, ?hy3⟩) (by assumption) ?hr3
  case hy3 => (intro w hSw; (try dsimp only at hSw); go_simp; (try with_reducible rfl))
  try simp only [Act.put, List.setIfInBounds_toArray, List.set_cons_zero, List.set_cons_succ]
  refine wpAnyH_take (i := 3) (oi := ({ dst := some 6, op := Op.load 22 (Operand.tmp 5), type := 22, pos := "authset.go:21", after := #[{ on := 2, ground := Ground.data }], guard := none } : Oper)) (v := .int .i64 kd) rfl (by kernel_rfl) (by kernel_rfl) (by kernel_rfl) (fun _ _ _ h => h) (Or.inl ⟨by rfl, fun w0 hw0 => by have q0 := (HE.out.below hw0).c3; go_simp⟩) (by assumption) ?_
  try simp only [Act.put, List.setIfInBounds_toArray, List.set_cons_zero, List.set_cons_succ]
  refine wpAnyH_take (i := 4) (oi := ({ dst := some 7, op := Op.move (Operand.tmp 0), type := 63, pos := "authset.go:21", after := #[], guard := none } : Oper)) (v := ?hv4) rfl (by kernel_rfl) (by kernel_rfl) (by kernel_rfl) (fun _ _ _ h => h) (Or.inl ⟨by rfl, ?hy4⟩) (by assumption) ?hr4
  case hy4 => (intro w hSw; (try dsimp only at hSw); go_simp; (try with_reducible rfl))
  try simp only [Act.put, List.setIfInBounds_toArray, List.set_cons_zero, List.set_cons_succ]
  refine wpAnyH_take (i := 5) (oi := ({ dst := some 8, op := Op.nilCheck (Operand.tmp 7), type := 0, pos := "authset.go:21", after := #[{ on := 4, ground := Ground.data }], guard := none } : Oper)) (v := ?hv5) rfl (by kernel_rfl) (by kernel_rfl) (by kernel_rfl) (fun _ _ _ h => h) (Or.inl ⟨by rfl, ?hy5⟩) (by assumption) ?hr5
  case hy5 => (intro w hSw; (try dsimp only at hSw); go_simp; (try with_reducible rfl))
  try simp only [Act.put, List.setIfInBounds_toArray, List.set_cons_zero, List.set_cons_succ]
  refine wpAnyH_take (i := 6) (oi := ({ dst := some 9, op := Op.fieldAddr 34 (Operand.tmp 8) 5, type := 0, pos := "authset.go:21", after := #[{ on := 5, ground := Ground.data }], guard := none } : Oper)) (v := ?hv6) rfl (by kernel_rfl) (by kernel_rfl) (by kernel_rfl) (fun _ _ _ h => h) (Or.inl ⟨by rfl, ?hy6⟩) (by assumption) ?hr6
  case hy6 => (intro w hSw; (try dsimp only at hSw); go_simp; (try with_reducible rfl))
  try simp only [Act.put, List.setIfInBounds_toArray, List.set_cons_zero, List.set_cons_succ]
  refine wpAnyH_take (i := 7) (oi := ({ dst := some 10, op := Op.load 9 (Operand.tmp 9), type := 9, pos := "authset.go:21", after := #[{ on := 6, ground := Ground.data }], guard := none } : Oper)) (v := .string ke) rfl (by kernel_rfl) (by kernel_rfl) (by kernel_rfl) (fun _ _ _ h => h) (Or.inl ⟨by rfl, fun w0 hw0 => by have q0 := (HE.out.below hw0).c5; go_simp⟩) (by assumption) ?_
  try simp only [Act.put, List.setIfInBounds_toArray, List.set_cons_zero, List.set_cons_succ]
  refine wpAnyH_take (i := 8) (oi := ({ dst := some 11, op := Op.build 64 #[(0, Operand.tmp 6), (1, Operand.tmp 10)], type := 64, pos := "authset.go:21", after := #[{ on := 3, ground := Ground.data }, { on := 7, ground := Ground.data }], guard := none } : Oper)) (v := ?hv7) rfl (by kernel_rfl) (by kernel_rfl) (by kernel_rfl) (fun _ _ _ h => h) (Or.inl ⟨by rfl, ?hy7⟩) (by assumption) ?hr7
  case hy7 => (intro w hSw; (try dsimp only at hSw); go_simp; (try with_reducible rfl))
  try simp only [Act.put, List.setIfInBounds_toArray, List.set_cons_zero, List.set_cons_succ]
  refine wpAnyH_ready (rs := [9]) (by kernel_rfl) (by simp) ?_
  refine AllReadyH.cons (o := ({ dst := none, op := Op.store 64 (Operand.tmp 2) (Operand.tmp 11), type := 0, pos := "authset.go:21", after := #[{ on := 8, ground := Ground.data }, { on := 0, ground := Ground.phase }, { on := 1, ground := Ground.phase }, { on := 2, ground := Ground.phase }, { on := 3, ground := Ground.phase }, { on := 4, ground := Ground.phase }, { on := 5, ground := Ground.phase }, { on := 6, ground := Ground.phase }, { on := 7, ground := Ground.phase }, { on := 8, ground := Ground.phase }], guard := none } : Oper)) rfl (fun KK hKK => ?_) AllReadyH.nil
  refine step_store_blk rfl 64 _ _ rfl w.heap.size [.int .i64 0, .string ⟨#[]⟩, .int .i64 0] 64 [.int .i64 kd, .string ke, .int .i64 0] rfl rfl XB.out rfl Ky.size64 (by simp [Value.oneCell']) ?_
  intro y1 hb hp
  have X1 := Lib.hid hb; have RB1 := Lib.hid (RB0.out.trans (hp.bel w.heap.size (Nat.le_refl _)))
  clear hb hp
  refine hKK.out _ _ (RB1.out) (fun hH1 => ?_)
  clear hKK KK
  try simp only [Act.put, List.setIfInBounds_toArray, List.set_cons_zero, List.set_cons_succ]
  refine wpAnyH_done (by kernel_rfl) ?_ _
  go_wp2
  try simp only [Exit.inBlock, Exit.then]
  refine bodyPost_ret (results_cell_mid rfl _ _ w.heap.size [.int .i64 kd, .string ke, .int .i64 0] 64 _ rfl X1.out Try.underlying64 rfl Ky.size64) rfl ?_
  exact ⟨rfl, RB1.out⟩
namespace Ky
abbrev eS : ByteArray := ⟨#[]⟩
def kz (k : Int) (s : ByteArray) : Rc := ⟨k, s, 0⟩
def rawK (kd : Int) (sn ke : ByteArray) (n : Int) : List Rc := [kz 1 eS, kz 3 eS, kz 2 sn] ++ (if kd = 2 then kz 2 ke :: (if n = 3 ∨ n = 1 ∨ n = 2 then [kz 4 eS] else []) else [])
def base3 (sn : ByteArray) : List Rc := putK (kz 2 sn) (putK (kz 3 eS) (putK (kz 1 eS) []))
/-- The keys of an event. -/
def keysL (kd : Int) (sn ke : ByteArray) (n : Int) : List Rc := if kd = 1 then [] else if kd = 2 then (if n = 3 ∨ n = 1 ∨ n = 2 then putK (kz 4 eS) (putK (kz 2 ke) (base3 sn)) else putK (kz 2 ke) (base3 sn)) else base3 sn
theorem z_nil : ∀ q ∈ ([] : List Rc), q.id = 0 := fun q hq => by simp at hq
theorem base3_z (sn : ByteArray) : ∀ q ∈ base3 sn, q.id = 0 := putK_zero rfl (putK_zero rfl (putK_zero rfl z_nil))
theorem base3_srt (sn : ByteArray) : Srt (base3 sn) := putK_srt rfl (putK_zero rfl (putK_zero rfl z_nil)) (putK_srt rfl (putK_zero rfl z_nil) (putK_srt rfl z_nil List.Pairwise.nil))
theorem mem_base3 (sn : ByteArray) (x : Rc) : x ∈ base3 sn ↔ x = kz 2 sn ∨ x = kz 3 eS ∨ x = kz 1 eS := by
  unfold base3
  rw [mem_putK rfl (putK_zero rfl (putK_zero rfl z_nil)), mem_putK rfl (putK_zero rfl z_nil), mem_putK rfl z_nil]
  simp
theorem keysL_z (kd : Int) (sn ke : ByteArray) (n : Int) : ∀ q ∈ keysL kd sn ke n, q.id = 0 := by
  unfold keysL
  split
  · exact z_nil
  · split
    · split
      · exact putK_zero rfl (putK_zero rfl (base3_z sn))
      · exact putK_zero rfl (base3_z sn)
    · exact base3_z sn
theorem keysL_srt (kd : Int) (sn ke : ByteArray) (n : Int) : Srt (keysL kd sn ke n) := by
  unfold keysL
  split
  · exact List.Pairwise.nil
  · split
    · split
      · exact putK_srt rfl (putK_zero rfl (base3_z sn)) (putK_srt rfl (base3_z sn) (base3_srt sn))
      · exact putK_srt rfl (base3_z sn) (base3_srt sn)
    · exact base3_srt sn
theorem mem_keysL {kd : Int} (h1 : kd ≠ 1) (sn ke : ByteArray) (n : Int) (x : Rc) : x ∈ keysL kd sn ke n ↔ x ∈ rawK kd sn ke n := by
  unfold keysL rawK
  rw [if_neg h1]
  by_cases h2 : kd = 2
  · rw [if_pos h2, if_pos h2]
    by_cases h3 : n = 3 ∨ n = 1 ∨ n = 2
    · rw [if_pos h3, if_pos h3, mem_putK rfl (putK_zero rfl (base3_z sn)), mem_putK rfl (base3_z sn), mem_base3]
      simp only [List.cons_append, List.nil_append, List.mem_cons, List.not_mem_nil, or_false]
      constructor <;> (intro h; rcases h with h | h | h | h | h <;> simp [h])
    · rw [if_neg h3, if_neg h3, mem_putK rfl (base3_z sn), mem_base3]
      simp only [List.cons_append, List.nil_append, List.mem_cons, List.not_mem_nil, or_false]
      constructor <;> (intro h; rcases h with h | h | h | h <;> simp [h])
  · rw [if_neg h2, if_neg h2, mem_base3]
    simp only [List.append_nil, List.mem_cons, List.not_mem_nil, or_false]
    constructor <;> (intro h; rcases h with h | h | h <;> simp [h])
theorem rawK_z (kd : Int) (sn ke : ByteArray) (n : Int) : ∀ q ∈ rawK kd sn ke n, q.id = 0 := by
  intro q hq
  unfold rawK at hq
  split at hq
  · split at hq
    · simp only [List.cons_append, List.nil_append, List.mem_cons, List.not_mem_nil, or_false] at hq
      rcases hq with rfl | rfl | rfl | rfl | rfl <;> rfl
    · simp only [List.cons_append, List.nil_append, List.mem_cons, List.not_mem_nil, or_false] at hq
      rcases hq with rfl | rfl | rfl | rfl <;> rfl
  · simp only [List.append_nil, List.mem_cons, List.not_mem_nil, or_false] at hq
    rcases hq with rfl | rfl | rfl <;> rfl
/-- The sorted list without repeats is the list of keys. -/
theorem cpt_keys {kd : Int} (h1 : kd ≠ 1) {sn ke : ByteArray} {n : Int} {zs : List Rc} (hp : zs.Perm (rawK kd sn ke n)) (hs : ∀ i j, i < j → j < zs.length → ¬ ltK (zs.getD j t0) (zs.getD i t0)) : cptUp zs zs.length = keysL kd sn ke n := by
  obtain ⟨a, b⟩ := cptUp_spec zs hs (fun p hp' => rawK_z kd sn ke n p (hp.mem_iff.1 hp')) zs.length (Nat.le_refl _)
  refine srt_unique a (keysL_srt kd sn ke n) fun x => ?_
  rw [b, mem_keysL h1, ← hp.mem_iff]
  constructor
  · rintro ⟨j, hj, rfl⟩; rw [getD_at hj]; exact List.getElem_mem _
  · intro hx
    obtain ⟨j, hj, e⟩ := List.getElem_of_mem hx
    exact ⟨j, hj, by rw [getD_at hj]; exact e⟩
theorem take_of_holds {w : World} {g n : Nat} {cur : List Value} {zs : List Rc} (h : Blk w g cur 64) (hh : Sort.HoldsK enc 3 w g 0 zs.toArray) (hl : zs.length = n) (hc : n * 3 ≤ cur.length) : cur.take (n * 3) = cl zs := by
  apply List.ext_getElem?
  intro j
  by_cases hj : j < n * 3
  · rw [List.getElem?_take_of_lt hj]
    have h1 := (hh j (by simpa [hl] using hj)).1
    rw [Sort.get_flatK _ _ _ _ (by simpa [hl] using hj), arr_at zs (by omega), Nat.zero_add] at h1
    have h2 := h.cell (List.getElem?_eq_getElem (show j < cur.length by omega))
    rw [h2] at h1
    rw [List.getElem?_eq_getElem (show j < cur.length by omega), h1]
    have e1 : j = j / 3 * 3 + j % 3 := by omega
    conv => rhs; rw [e1]
    rw [cl_get zs _ _ (by omega) (by omega), enc_at _ (by omega)]
    rfl
  · rw [List.getElem?_eq_none (by rw [List.length_take]; omega), List.getElem?_eq_none (by rw [cl_len]; omega)]
/-- slices.SortFunc at a row of keys of the call's own. -/
theorem sortRow44 (B g c : Nat) (n : Nat) (ys : List Rc) (w : World) (h : w.ownsRow B 64 3 (.slice (some ⟨g, 0, none⟩) n c) n (cl ys)) (hB : B ≤ w.heap.size) (hl : ys.length = n) (h0 : 0 < n) (hn : n ≤ 1000000) : Calls Try.prog 44 #[.slice (some ⟨g, 0, none⟩) n c, .func (.func 45) #[] #[]] w fun e w' => e = .returned (.tuple #[]) ∧ ∃ (zs : List Rc) (R : List Value), n ≤ c ∧ B ≤ g ∧ zs.Perm ys ∧ (∀ i j, i < j → j < zs.length → ¬ ltK (zs.getD j t0) (zs.getD i t0)) ∧ Blk w' g (cl zs ++ R) 64 ∧ Below B w w' := by
  obtain ⟨g', c', cur, hv, hgB, hb, hnc, hcm, hcl, htk⟩ := own_pos h h0
  simp only [Value.slice.injEq, Option.some.injEq, Addr.mk.injEq, and_true, true_and] at hv
  obtain ⟨rfl, rfl⟩ := hv
  subst hl
  refine (sortF_any g c ys w (holds_of_blk hb htk rfl) hb.lt (by omega)).mono ?_
  rintro e w' ⟨he, zs, hp, hso, hh, hg, hbk⟩
  obtain ⟨cur', hb', hl'⟩ := hbk cur hb
  have ht := take_of_holds (n := ys.length) hb' hh hp.length_eq (by rw [hl', ← hcl]; exact Nat.mul_le_mul_right 3 hnc)
  refine ⟨he, zs, cur'.drop (ys.length * 3), hnc, hgB, hp, hso, ?_, (Below.refl B w).grown hg hB (fun k hk => by cases hk; exact hgB)⟩
  rw [← ht, List.take_append_drop]
  exact hb'
end Ky
theorem own_keep {w w' : World} {B : Nat} {e : TypeId} {sz : Nat} {v : Value} {n : Nat} {xs : List Value} (h : w.ownsRow B e sz v n xs) (hk : ∀ b, v.ownBlock = some b → b < w.heap.size → w'.heap[b]? = w.heap[b]?) : w'.ownsRow B e sz v n xs :=
  ⟨h.1, h.2.imp id fun ⟨g, cap, cur, ev, hB, hg, r⟩ => ⟨g, cap, cur, ev, hB, (hk g (by rw [ev]; rfl) (Array.getElem?_eq_some_iff.1 hg).1).trans hg, r⟩⟩
/-- What keysOf and Keys give. -/
def KeysP (w : World) (l : List Ky.Rc) (e : Ending) (w' : World) : Prop := ∃ A c, e = .returned (.slice A l.length c) ∧ Ky.Rcs w' A l.length c l ∧ Below w.heap.size w w' ∧ ∀ b off, A = some ⟨b, off, none⟩ → w.heap.size ≤ b
theorem info64 : (Try.prog.info? 64).map (fun i => (i.zero, i.size, i.bytes)) = some (some (.agg #[.int .i64 0, .string ⟨#[]⟩, .int .i64 0]), 3, 32) := by kernel_rfl

theorem raw_len3 {kd : Int} (h : kd ≠ 2) (sn ke : ByteArray) (n : Int) : (Ky.rawK kd sn ke n).length = 3 := by unfold Ky.rawK; rw [if_neg h]; rfl
theorem raw_len4 {n : Int} (h : ¬ (n = 3 ∨ n = 1 ∨ n = 2)) (sn ke : ByteArray) : (Ky.rawK 2 sn ke n).length = 4 := by unfold Ky.rawK; rw [if_pos rfl, if_neg h]; rfl
theorem raw_len5 {n : Int} (h : n = 3 ∨ n = 1 ∨ n = 2) (sn ke : ByteArray) : (Ky.rawK 2 sn ke n).length = 5 := by unfold Ky.rawK; rw [if_pos rfl, if_pos h]; rfl
theorem raw_fit {kd : Int} {sn ke : ByteArray} {n : Int} (h1 : sn.size ≤ 9223372036854775807) (h2 : ke.size ≤ 9223372036854775807) : ∀ p ∈ Ky.rawK kd sn ke n, Ky.fitR p := by
  intro q hq
  unfold Ky.rawK at hq
  have h0 : (⟨#[]⟩ : ByteArray).size ≤ 9223372036854775807 := by decide
  split at hq
  · split at hq
    · simp only [List.cons_append, List.nil_append, List.mem_cons, List.not_mem_nil, or_false] at hq
      rcases hq with rfl | rfl | rfl | rfl | rfl
      · exact h0
      · exact h0
      · exact h1
      · exact h2
      · exact h0
    · simp only [List.cons_append, List.nil_append, List.mem_cons, List.not_mem_nil, or_false] at hq
      rcases hq with rfl | rfl | rfl | rfl
      · exact h0
      · exact h0
      · exact h1
      · exact h2
  · simp only [List.append_nil, List.mem_cons, List.not_mem_nil, or_false] at hq
    rcases hq with rfl | rfl | rfl
    · exact h0
    · exact h0
    · exact h1
theorem own_three (w : World) (sn : ByteArray) : (w.alloc (.cells #[.int .i64 1, .string ⟨#[]⟩, .int .i64 0, .int .i64 3, .string ⟨#[]⟩, .int .i64 0, .int .i64 2, .string sn, .int .i64 0] 64)).ownsRow w.heap.size 64 3 (.slice (some ⟨w.heap.size, 0, none⟩) 3 3) 3 (Ky.cl [Ky.kz 1 Ky.eS, Ky.kz 3 Ky.eS, Ky.kz 2 sn]) :=
  World.ownsRow_lit w #[.int .i64 1, .string ⟨#[]⟩, .int .i64 0, .int .i64 3, .string ⟨#[]⟩, .int .i64 0, .int .i64 2, .string sn, .int .i64 0] 3 (Nat.le_refl _) (by decide) rfl
set_option maxRecDepth 100000 in
set_option maxHeartbeats 8000000 in
theorem keysOf29 (b off : Nat) (kd : Int) (sn ke : ByteArray) (n : Int) (w : World) (h : EvP w b off kd sn ke n) (hs : sn.size ≤ 9223372036854775807) (hk : ke.size ≤ 9223372036854775807) : Calls Try.prog 29 #[.pointer (some ⟨b, off, none⟩)] w (KeysP w (Ky.keysL kd sn ke n)) := by
  have HE := Lib.hid h
  have HFt := Lib.hid (raw_fit (kd := kd) (n := n) hs hk)
  have c2 := h.c2
  have c3 := h.c3
  have hbl := h.lt
  have B1 := Lib.hid ((Below.refl w.heap.size w).alloc (Nat.le_refl _) (.cells #[.int .i64 1, .string ⟨#[]⟩, .int .i64 0, .int .i64 3, .string ⟨#[]⟩, .int .i64 0, .int .i64 2, .string sn, .int .i64 0] 64))
  have O1 := Lib.hid (own_three w sn)
  obtain ⟨i0, hi, hz0, hz1, hz2⟩ := info_parts info64
  have HI := Lib.hid (And.intro hi (And.intro hz0 (And.intro hz1 hz2)))
  clear h hs hk hi hz0 hz1 hz2
  by_cases h1 : kd = 1
  · have HK := Lib.hid (show Ky.keysL kd sn ke n = [] by unfold Ky.keysL; rw [if_pos h1])
    subst h1
    go_enter Try.func29, Try.ntmps29
    go_wp2
    go_ret
    rw [HK.out]
    exact ⟨none, 0, rfl, Ky.Rcs.nil w, Below.refl _ _, fun b off e => by cases e⟩
  · have HK1 := Lib.hid h1
    by_cases h2 : kd = 2
    · subst h2
      have E1 := Lib.hid (HE.out.below B1.out)
      have HKo := Lib.hid (keyOf36 b off 2 sn ke n _ E1.out)
      clear h1
      by_cases h3 : n = 3 ∨ n = 1 ∨ n = 2
      · have HL5 := Lib.hid (raw_len5 h3 sn ke)
        have HCl := Lib.hid (show Ky.cl (Ky.rawK 2 sn ke n) = Ky.cl [Ky.kz 1 Ky.eS, Ky.kz 3 Ky.eS, Ky.kz 2 sn] ++ Ky.enc (Ky.kz 2 ke) ++ Ky.enc (Ky.kz 4 Ky.eS) by unfold Ky.rawK; rw [if_pos rfl, if_pos h3]; simp [Ky.cl])
        rcases h3 with h3 | h3 | h3
        · have nv : (n == 3) = true := by simp; omega
          clear h3
          go_enter Try.func29, Try.ntmps29
          go_wp2_with (first
            | (go_at_call 46; (with_reducible refine (Ky.compact46 g 5 c w.heap.size R zs _ X4.out HNC.out HZl.out (by omega) HGB.out (fun p hp => HFt.out p (HP.out.mem_iff.1 hp))).mono ?_); rintro e w5 ⟨rfl, hr, hb⟩; have R5 := Lib.hid hr; have B5 := Lib.hid (B4.out.trans hb); clear hr hb)
            | (go_at_call 44; (with_reducible refine (Ky.sortRow44 w.heap.size g c 5 (Ky.rawK 2 sn ke n) _ OS.out BS.out.size HL5.out (by omega) (by omega)).mono ?_); rintro e w4 ⟨rfl, zs, R, hnc, hgB, hp, hso, hb4, hbel⟩; have X4 := Lib.hid hb4; have B4 := Lib.hid (BS.out.trans hbel); have HP := Lib.hid hp; have HSo := Lib.hid hso; have HNC := Lib.hid hnc; have HGB := Lib.hid hgB; have HZl := Lib.hid (show zs.length = 5 from hp.length_eq.trans HL5.out); clear hb4 hbel hp hso hnc hgB)
            | (at_builtin; refine wpList_append_any _ rfl _ _ 61 rfl w.heap.size 64 i0 _ 3 32 Try.underlying61 HI.out.1 HI.out.2.1 HI.out.2.2.1 HI.out.2.2.2 rfl (by decide) _ 4 (Ky.cl [Ky.kz 1 Ky.eS, Ky.kz 3 Ky.eS, Ky.kz 2 sn] ++ Ky.enc (Ky.kz 2 ke)) rfl (own_keep O3.out (fun b _ hl => Below.heap_alloc _ _ _ hl)) _ 1 1 (Ky.enc (Ky.kz 4 Ky.eS)) rfl (Ky.blk_src (p := Ky.kz 4 Ky.eS) (blk_new _ (Ky.enc (Ky.kz 4 Ky.eS)) 64)) (by unfold maxLen; omega) (by omega) (B3.out.alloc B3.out.size _).size ?_; intro vB6 wB6 hgr; have B6 := Lib.hid (hgr.below (B3.out.alloc B3.out.size _) (own_keep O3.out (fun b _ hl => Below.heap_alloc _ _ _ hl))); have O6 := Lib.hid hgr.own; have OS := Lib.hid (show World.ownsRow wB6 w.heap.size 64 3 vB6 5 (Ky.cl (Ky.rawK 2 sn ke n)) by rw [HCl.out]; exact O6.out); have BS := B6; obtain ⟨g, c, cur, hvv, _⟩ := Ky.own_pos OS.out (by omega); subst hvv; clear hgr)
            | (at_builtin; refine wpList_append_any _ rfl _ _ 61 rfl w.heap.size 64 i0 _ 3 32 Try.underlying61 HI.out.1 HI.out.2.1 HI.out.2.2.1 HI.out.2.2.2 rfl (by decide) _ 3 (Ky.cl [Ky.kz 1 Ky.eS, Ky.kz 3 Ky.eS, Ky.kz 2 sn]) rfl (own_keep O2.out (fun b _ hl => Below.heap_alloc _ _ _ hl)) _ 1 1 (Ky.enc (Ky.kz 2 ke)) rfl (Ky.blk_src (p := Ky.kz 2 ke) (blk_new _ (Ky.enc (Ky.kz 2 ke)) 64)) (by unfold maxLen; omega) (by omega) (B2.out.alloc B2.out.size _).size ?_; intro vB3 wB3 hgr; have B3 := Lib.hid (hgr.below (B2.out.alloc B2.out.size _) (own_keep O2.out (fun b _ hl => Below.heap_alloc _ _ _ hl))); have O3 := Lib.hid hgr.own; have EB3 := Lib.hid (HE.out.below B3.out); have c11 := EB3.out.c11; clear hgr)
            | (go_at_call 36; (with_reducible refine HKo.out.mono ?_); rintro e w1 ⟨rfl, hb⟩; have B2 := Lib.hid (B1.out.trans (hb.mono B1.out.size)); have O2 := Lib.hid (own_keep O1.out (fun b _ hl => hb.block b hl)); have E2 := Lib.hid (E1.out.below hb); clear hb)
            | go_in)
          go_ret
          have ek := Ky.cpt_keys HK1.out HP.out HSo.out
          rw [HZl.out] at ek
          rw [ek] at R5
          refine ⟨_, _, (by rw [ek]; rfl), R5.out, B5.out, fun b off e => by cases e; exact HGB.out⟩
        · have n1 : (n == 3) = false := by simp; omega
          have nv : (n == 1) = true := by simp; omega
          clear h3
          go_enter Try.func29, Try.ntmps29
          go_wp2_with (first
            | (go_at_call 46; (with_reducible refine (Ky.compact46 g 5 c w.heap.size R zs _ X4.out HNC.out HZl.out (by omega) HGB.out (fun p hp => HFt.out p (HP.out.mem_iff.1 hp))).mono ?_); rintro e w5 ⟨rfl, hr, hb⟩; have R5 := Lib.hid hr; have B5 := Lib.hid (B4.out.trans hb); clear hr hb)
            | (go_at_call 44; (with_reducible refine (Ky.sortRow44 w.heap.size g c 5 (Ky.rawK 2 sn ke n) _ OS.out BS.out.size HL5.out (by omega) (by omega)).mono ?_); rintro e w4 ⟨rfl, zs, R, hnc, hgB, hp, hso, hb4, hbel⟩; have X4 := Lib.hid hb4; have B4 := Lib.hid (BS.out.trans hbel); have HP := Lib.hid hp; have HSo := Lib.hid hso; have HNC := Lib.hid hnc; have HGB := Lib.hid hgB; have HZl := Lib.hid (show zs.length = 5 from hp.length_eq.trans HL5.out); clear hb4 hbel hp hso hnc hgB)
            | (at_builtin; refine wpList_append_any _ rfl _ _ 61 rfl w.heap.size 64 i0 _ 3 32 Try.underlying61 HI.out.1 HI.out.2.1 HI.out.2.2.1 HI.out.2.2.2 rfl (by decide) _ 4 (Ky.cl [Ky.kz 1 Ky.eS, Ky.kz 3 Ky.eS, Ky.kz 2 sn] ++ Ky.enc (Ky.kz 2 ke)) rfl (own_keep O3.out (fun b _ hl => Below.heap_alloc _ _ _ hl)) _ 1 1 (Ky.enc (Ky.kz 4 Ky.eS)) rfl (Ky.blk_src (p := Ky.kz 4 Ky.eS) (blk_new _ (Ky.enc (Ky.kz 4 Ky.eS)) 64)) (by unfold maxLen; omega) (by omega) (B3.out.alloc B3.out.size _).size ?_; intro vB6 wB6 hgr; have B6 := Lib.hid (hgr.below (B3.out.alloc B3.out.size _) (own_keep O3.out (fun b _ hl => Below.heap_alloc _ _ _ hl))); have O6 := Lib.hid hgr.own; have OS := Lib.hid (show World.ownsRow wB6 w.heap.size 64 3 vB6 5 (Ky.cl (Ky.rawK 2 sn ke n)) by rw [HCl.out]; exact O6.out); have BS := B6; obtain ⟨g, c, cur, hvv, _⟩ := Ky.own_pos OS.out (by omega); subst hvv; clear hgr)
            | (at_builtin; refine wpList_append_any _ rfl _ _ 61 rfl w.heap.size 64 i0 _ 3 32 Try.underlying61 HI.out.1 HI.out.2.1 HI.out.2.2.1 HI.out.2.2.2 rfl (by decide) _ 3 (Ky.cl [Ky.kz 1 Ky.eS, Ky.kz 3 Ky.eS, Ky.kz 2 sn]) rfl (own_keep O2.out (fun b _ hl => Below.heap_alloc _ _ _ hl)) _ 1 1 (Ky.enc (Ky.kz 2 ke)) rfl (Ky.blk_src (p := Ky.kz 2 ke) (blk_new _ (Ky.enc (Ky.kz 2 ke)) 64)) (by unfold maxLen; omega) (by omega) (B2.out.alloc B2.out.size _).size ?_; intro vB3 wB3 hgr; have B3 := Lib.hid (hgr.below (B2.out.alloc B2.out.size _) (own_keep O2.out (fun b _ hl => Below.heap_alloc _ _ _ hl))); have O3 := Lib.hid hgr.own; have EB3 := Lib.hid (HE.out.below B3.out); have c11 := EB3.out.c11; clear hgr)
            | (go_at_call 36; (with_reducible refine HKo.out.mono ?_); rintro e w1 ⟨rfl, hb⟩; have B2 := Lib.hid (B1.out.trans (hb.mono B1.out.size)); have O2 := Lib.hid (own_keep O1.out (fun b _ hl => hb.block b hl)); have E2 := Lib.hid (E1.out.below hb); clear hb)
            | go_in)
          go_ret
          have ek := Ky.cpt_keys HK1.out HP.out HSo.out
          rw [HZl.out] at ek
          rw [ek] at R5
          refine ⟨_, _, (by rw [ek]; rfl), R5.out, B5.out, fun b off e => by cases e; exact HGB.out⟩
        · have n1 : (n == 3) = false := by simp; omega
          have n2 : (n == 1) = false := by simp; omega
          have nv : (n == 2) = true := by simp; omega
          clear h3
          go_enter Try.func29, Try.ntmps29
          go_wp2_with (first
            | (go_at_call 46; (with_reducible refine (Ky.compact46 g 5 c w.heap.size R zs _ X4.out HNC.out HZl.out (by omega) HGB.out (fun p hp => HFt.out p (HP.out.mem_iff.1 hp))).mono ?_); rintro e w5 ⟨rfl, hr, hb⟩; have R5 := Lib.hid hr; have B5 := Lib.hid (B4.out.trans hb); clear hr hb)
            | (go_at_call 44; (with_reducible refine (Ky.sortRow44 w.heap.size g c 5 (Ky.rawK 2 sn ke n) _ OS.out BS.out.size HL5.out (by omega) (by omega)).mono ?_); rintro e w4 ⟨rfl, zs, R, hnc, hgB, hp, hso, hb4, hbel⟩; have X4 := Lib.hid hb4; have B4 := Lib.hid (BS.out.trans hbel); have HP := Lib.hid hp; have HSo := Lib.hid hso; have HNC := Lib.hid hnc; have HGB := Lib.hid hgB; have HZl := Lib.hid (show zs.length = 5 from hp.length_eq.trans HL5.out); clear hb4 hbel hp hso hnc hgB)
            | (at_builtin; refine wpList_append_any _ rfl _ _ 61 rfl w.heap.size 64 i0 _ 3 32 Try.underlying61 HI.out.1 HI.out.2.1 HI.out.2.2.1 HI.out.2.2.2 rfl (by decide) _ 4 (Ky.cl [Ky.kz 1 Ky.eS, Ky.kz 3 Ky.eS, Ky.kz 2 sn] ++ Ky.enc (Ky.kz 2 ke)) rfl (own_keep O3.out (fun b _ hl => Below.heap_alloc _ _ _ hl)) _ 1 1 (Ky.enc (Ky.kz 4 Ky.eS)) rfl (Ky.blk_src (p := Ky.kz 4 Ky.eS) (blk_new _ (Ky.enc (Ky.kz 4 Ky.eS)) 64)) (by unfold maxLen; omega) (by omega) (B3.out.alloc B3.out.size _).size ?_; intro vB6 wB6 hgr; have B6 := Lib.hid (hgr.below (B3.out.alloc B3.out.size _) (own_keep O3.out (fun b _ hl => Below.heap_alloc _ _ _ hl))); have O6 := Lib.hid hgr.own; have OS := Lib.hid (show World.ownsRow wB6 w.heap.size 64 3 vB6 5 (Ky.cl (Ky.rawK 2 sn ke n)) by rw [HCl.out]; exact O6.out); have BS := B6; obtain ⟨g, c, cur, hvv, _⟩ := Ky.own_pos OS.out (by omega); subst hvv; clear hgr)
            | (at_builtin; refine wpList_append_any _ rfl _ _ 61 rfl w.heap.size 64 i0 _ 3 32 Try.underlying61 HI.out.1 HI.out.2.1 HI.out.2.2.1 HI.out.2.2.2 rfl (by decide) _ 3 (Ky.cl [Ky.kz 1 Ky.eS, Ky.kz 3 Ky.eS, Ky.kz 2 sn]) rfl (own_keep O2.out (fun b _ hl => Below.heap_alloc _ _ _ hl)) _ 1 1 (Ky.enc (Ky.kz 2 ke)) rfl (Ky.blk_src (p := Ky.kz 2 ke) (blk_new _ (Ky.enc (Ky.kz 2 ke)) 64)) (by unfold maxLen; omega) (by omega) (B2.out.alloc B2.out.size _).size ?_; intro vB3 wB3 hgr; have B3 := Lib.hid (hgr.below (B2.out.alloc B2.out.size _) (own_keep O2.out (fun b _ hl => Below.heap_alloc _ _ _ hl))); have O3 := Lib.hid hgr.own; have EB3 := Lib.hid (HE.out.below B3.out); have c11 := EB3.out.c11; clear hgr)
            | (go_at_call 36; (with_reducible refine HKo.out.mono ?_); rintro e w1 ⟨rfl, hb⟩; have B2 := Lib.hid (B1.out.trans (hb.mono B1.out.size)); have O2 := Lib.hid (own_keep O1.out (fun b _ hl => hb.block b hl)); have E2 := Lib.hid (E1.out.below hb); clear hb)
            | go_in)
          go_ret
          have ek := Ky.cpt_keys HK1.out HP.out HSo.out
          rw [HZl.out] at ek
          rw [ek] at R5
          refine ⟨_, _, (by rw [ek]; rfl), R5.out, B5.out, fun b off e => by cases e; exact HGB.out⟩
      · have HL4 := Lib.hid (raw_len4 h3 sn ke)
        have HCl := Lib.hid (show Ky.cl (Ky.rawK 2 sn ke n) = Ky.cl [Ky.kz 1 Ky.eS, Ky.kz 3 Ky.eS, Ky.kz 2 sn] ++ Ky.enc (Ky.kz 2 ke) by unfold Ky.rawK; rw [if_pos rfl, if_neg h3]; simp [Ky.cl])
        have n1 : (n == 3) = false := by simp; omega
        have n2 : (n == 1) = false := by simp; omega
        have n3 : (n == 2) = false := by simp; omega
        clear h3
        go_enter Try.func29, Try.ntmps29
        go_wp2_with (first
          | (go_at_call 46; (with_reducible refine (Ky.compact46 g 4 c w.heap.size R zs _ X4.out HNC.out HZl.out (by omega) HGB.out (fun p hp => HFt.out p (HP.out.mem_iff.1 hp))).mono ?_); rintro e w5 ⟨rfl, hr, hb⟩; have R5 := Lib.hid hr; have B5 := Lib.hid (B4.out.trans hb); clear hr hb)
          | (go_at_call 44; (with_reducible refine (Ky.sortRow44 w.heap.size g c 4 (Ky.rawK 2 sn ke n) _ OS.out BS.out.size HL4.out (by omega) (by omega)).mono ?_); rintro e w4 ⟨rfl, zs, R, hnc, hgB, hp, hso, hb4, hbel⟩; have X4 := Lib.hid hb4; have B4 := Lib.hid (BS.out.trans hbel); have HP := Lib.hid hp; have HSo := Lib.hid hso; have HNC := Lib.hid hnc; have HGB := Lib.hid hgB; have HZl := Lib.hid (show zs.length = 4 from hp.length_eq.trans HL4.out); clear hb4 hbel hp hso hnc hgB)
          | (at_builtin; refine wpList_append_any _ rfl _ _ 61 rfl w.heap.size 64 i0 _ 3 32 Try.underlying61 HI.out.1 HI.out.2.1 HI.out.2.2.1 HI.out.2.2.2 rfl (by decide) _ 3 (Ky.cl [Ky.kz 1 Ky.eS, Ky.kz 3 Ky.eS, Ky.kz 2 sn]) rfl (own_keep O2.out (fun b _ hl => Below.heap_alloc _ _ _ hl)) _ 1 1 (Ky.enc (Ky.kz 2 ke)) rfl (Ky.blk_src (p := Ky.kz 2 ke) (blk_new _ (Ky.enc (Ky.kz 2 ke)) 64)) (by unfold maxLen; omega) (by omega) (B2.out.alloc B2.out.size _).size ?_; intro vB3 wB3 hgr; have B3 := Lib.hid (hgr.below (B2.out.alloc B2.out.size _) (own_keep O2.out (fun b _ hl => Below.heap_alloc _ _ _ hl))); have O3 := Lib.hid hgr.own; have OS := Lib.hid (show World.ownsRow wB3 w.heap.size 64 3 vB3 4 (Ky.cl (Ky.rawK 2 sn ke n)) by rw [HCl.out]; exact O3.out); have BS := B3; obtain ⟨g, c, cur, hvv, _⟩ := Ky.own_pos OS.out (by omega); subst hvv; have EB3 := Lib.hid (HE.out.below B3.out); have c11 := EB3.out.c11; clear hgr)
          | (go_at_call 36; (with_reducible refine HKo.out.mono ?_); rintro e w1 ⟨rfl, hb⟩; have B2 := Lib.hid (B1.out.trans (hb.mono B1.out.size)); have O2 := Lib.hid (own_keep O1.out (fun b _ hl => hb.block b hl)); have E2 := Lib.hid (E1.out.below hb); clear hb)
          | go_in)
        go_ret
        have ek := Ky.cpt_keys HK1.out HP.out HSo.out
        rw [HZl.out] at ek
        rw [ek] at R5
        refine ⟨_, _, (by rw [ek]; rfl), R5.out, B5.out, fun b off e => by cases e; exact HGB.out⟩
    · have HL3 := Lib.hid (raw_len3 h2 sn ke n)
      have HCl := Lib.hid (show Ky.rawK kd sn ke n = [Ky.kz 1 Ky.eS, Ky.kz 3 Ky.eS, Ky.kz 2 sn] by unfold Ky.rawK; rw [if_neg h2]; rfl)
      have k1 : (kd == 1) = false := by simpa using h1
      have k2 : (kd == 2) = false := by simpa using h2
      have OS := Lib.hid (show World.ownsRow _ w.heap.size 64 3 _ 3 (Ky.cl (Ky.rawK kd sn ke n)) by rw [HCl.out]; exact O1.out)
      have BS := B1
      clear h1 h2
      go_enter Try.func29, Try.ntmps29
      go_wp2_with (first
        | (go_at_call 46; (with_reducible refine (Ky.compact46 w.heap.size 3 3 w.heap.size R zs _ X4.out HNC.out HZl.out (by omega) HGB.out (fun p hp => HFt.out p (HP.out.mem_iff.1 hp))).mono ?_); rintro e w5 ⟨rfl, hr, hb⟩; have R5 := Lib.hid hr; have B5 := Lib.hid (B4.out.trans hb); clear hr hb)
        | (go_at_call 44; (with_reducible refine (Ky.sortRow44 w.heap.size w.heap.size 3 3 (Ky.rawK kd sn ke n) _ OS.out BS.out.size HL3.out (by omega) (by omega)).mono ?_); rintro e w4 ⟨rfl, zs, R, hnc, hgB, hp, hso, hb4, hbel⟩; have X4 := Lib.hid hb4; have B4 := Lib.hid (BS.out.trans hbel); have HP := Lib.hid hp; have HSo := Lib.hid hso; have HNC := Lib.hid hnc; have HGB := Lib.hid hgB; have HZl := Lib.hid (show zs.length = 3 from hp.length_eq.trans HL3.out); clear hb4 hbel hp hso hnc hgB)
        | go_in)
      go_ret
      have ek := Ky.cpt_keys HK1.out HP.out HSo.out
      rw [HZl.out] at ek
      rw [ek] at R5
      refine ⟨_, _, (by rw [ek]; rfl), R5.out, B5.out, fun b off e => by cases e; exact HGB.out⟩
end Go.Proofs.Ytbedibiodlgegaa
