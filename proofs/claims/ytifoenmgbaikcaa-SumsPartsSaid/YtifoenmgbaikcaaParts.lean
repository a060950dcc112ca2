/- SumsParts: for every number and every two slices of bytes the statement returns true and changes nothing. Conditions: none beyond the statement's own. -/
import Derived.Test.YtifoenmgbaikcaaRows
import Derived.Test.YtifoenmgbaikcaaOwn
import Derived.WalkKit
import Derived.ProofKit
import Derived.OpenShut
import Derived.ShutString
import Derived.ChangeOld
import Derived.Below
namespace Go.Proofs.Ytifoenmgbaikcaa.sumsParts
open Go.ChangeShapes Go.WideShapes Go.ChangeAt Go.RowKit
open Go.ChangeMaps (open_string shut_string)
set_option linter.unusedVariables false

theorem own : ownKnob Try.prog.godebug = none := by kernel_rfl
theorem laidOut : laidOutB Try.prog = true := by kernel_rfl

/-- WHAT THE WALK IS TOLD OF A SLICE OF INTEGERS THAT CAME IN: it is nil; or it leads to a row of 'cap' cells, the numbers 'zs' (the first 'len' are its elements, the rest its spare room), each fitting its kind. -/
def IsRow (k : IntKind) (w : World) (a : Option Addr) (len cap : Nat) (zs : List Int) : Prop :=
  (a = none ∧ len = 0 ∧ cap = 0 ∧ zs = []) ∨
  ∃ x, a = some x ∧ len ≤ cap ∧ cap ≤ maxLen ∧ zs.length = cap ∧ (∀ i, i < zs.length → w.cell? (x.add i) = some (.int k (zs.getD i 0))) ∧ ∀ n ∈ zs, (Lit.int k n).wf = true

/-- One append of a slice that came in to a row of the call's own, whether the slice is nil or not. -/
theorem app_any {w w0 : World} {ops : Array Oper} {rest : List Oper} {o : Oper} {a : Act} {Q : Exit → Act → World → Prop} (hgd : o.guard = none) (s x : Operand)
    (ho : o.op = .call { callee := .builtin .append, args := #[s, x], argTypes := #[22, 22] })
    (v : Value) (n : Nat) (xs : List Int) (hs : a.eval s = v) (hown : w0.ownsRow w.heap.size 5 1 v n (xs.map (Value.int .u8))) (hb : Below w.heap.size w w0)
    (A : Option Addr) (len cap : Nat) (z : List Int) (hx : a.eval x = .slice A len cap) (hr : IsRow .u8 w A len cap z) (hn : n + len ≤ 1000)
    (h : ∀ v' w', w'.ownsRow w.heap.size 5 1 v' (n + len) ((xs ++ z.take len).map (Value.int .u8)) → Below w.heap.size w w' → wpList Try.prog ops Q rest (a.put o.dst v') w') : wpList Try.prog ops Q (o :: rest) a w0 := by
  obtain ⟨i0, hi0, hz0, hz1, hz2⟩ := info_parts info5
  have hB := byt_of_row hr
  rcases hr with ⟨rfl, rfl, rfl, rfl⟩ | ⟨x, rfl, hl, hm, hz, hcell, hwz⟩
  · refine wpList_append_own_none hgd _ _ 22 ho w.heap.size 5 i0 1 Try.underlying22 hi0 v n _ hs hown hx ?_
    refine h v w0 ?_ hb
    simpa using hown
  · refine wpList_append_own _ hgd _ _ 22 ho w.heap.size 5 i0 (.int .u8 0) 1 1 Try.underlying22 hi0 hz0 hz1 hz2 rfl (by decide) v n _ hs hown x len cap ((z.take len).map (Value.int .u8)) hx (by rw [List.length_map, hB.1, Nat.mul_one]) (news_of (cell_keep hb hcell)) (one8 _) (by unfold maxLen; omega) (by omega) hb.size ?_
    intro v' w' hown' hg _
    refine h v' w' ?_ (hb.grown hg hb.size (fun k hk => (hown.lt k hk).1))
    rw [List.map_append]
    exact hown'

/-! ### STEP 1: THE WALK: the Go text returns true, AND WRITES NOTHING THAT WAS THERE: 'Below w.heap.size w w'' (Derived/Below.lean: '.refl', '.alloc', '.drew', '.setCell' at a new block, '.trans'). Open each 'IsRow' by 'rcases' AHEAD of 'go_enter'; part every test ahead of the walk. -/
theorem walk (a0 : Int) (a1 : Option Addr) (len1 cap1 : Nat) (z1 : List Int) (a2 : Option Addr) (len2 cap2 : Nat) (z2 : List Int) (w : World) (w0 : (Lit.int .i64 a0).wf = true) (w1 : IsRow .u8 w a1 len1 cap1 z1) (w2 : IsRow .u8 w a2 len2 cap2 z2) :
    Calls Try.prog 4 #[.int .i64 a0, .slice a1 len1 cap1, .slice a2 len2 cap2] w fun e w' => e = .returned (.bool true) ∧ Below w.heap.size w w' := by
  have hBa := byt_of_row w1
  have hBb := byt_of_row w2
  have hla : len1 ≤ 9223372036854775807 := hBa.2.2.1
  have hlb : len2 ≤ 9223372036854775807 := hBb.2.2.1
  have hW1 := Lib.hid w1
  have hW2 := Lib.hid w2
  clear w1 w2
  by_cases hlt : 300 < len1
  · have g1 : decide ((300 : Int) < (len1 : Int)) = true := by simp; omega
    go_enter Try.func4, Try.ntmps4
    go_wp2_with (go_at_call 9; refine (lives_any _).mono ?_; rintro e wl ⟨rfl, hbl⟩)
    go_ret
    exact ⟨rfl, hbl⟩
  · have g1 : decide ((300 : Int) < (len1 : Int)) = false := by simp; omega
    have hle : len1 ≤ 300 := by omega
    by_cases hlt2 : 300 < len2
    · have g2 : decide ((300 : Int) < (len2 : Int)) = true := by simp; omega
      go_enter Try.func4, Try.ntmps4
      go_wp2_with (go_at_call 9; refine (lives_any _).mono ?_; rintro e wl ⟨rfl, hbl⟩)
      go_ret
      exact ⟨rfl, hbl⟩
    · have g2 : decide ((300 : Int) < (len2 : Int)) = false := by simp; omega
      have hle2 : len2 ≤ 300 := by omega
      clear hlt hlt2
      have hbda : ∀ z ∈ z1.take len1, 0 ≤ z ∧ z ≤ 255 := hBa.2.1
      have hbdb : ∀ z ∈ z2.take len2, 0 ≤ z ∧ z ≤ 255 := hBb.2.1
      have hall : ∀ z ∈ z1.take len1 ++ z2.take len2, 0 ≤ z ∧ z ≤ 255 := fun z hz => by
        rcases List.mem_append.1 hz with h | h
        · exact hbda z h
        · exact hbdb z h
      have Hall := Lib.hid hall
      have q1 : (((M.fold (M.lo ((M.fold (M.lo a0) (z1.take len1) : Nat) : Int)) (z2.take len2) : Nat) : Int) == ((M.fold (M.lo a0) (z1.take len1 ++ z2.take len2) : Nat) : Int)) = true := by
        rw [M.lo_nat _ (M.fold_lt _ _ (M.lo_lt _)), M.fold_append]; exact beq_self_eq_true _
      have q2 : (((M.fold (M.lo 860922984064492325) (z1.take len1 ++ z2.take len2) : Nat) : Int) == ((M.fold (M.lo ((M.fold (M.lo 860922984064492325) (z1.take len1) : Nat) : Int)) (z2.take len2) : Nat) : Int)) = true := by
        rw [M.lo_nat _ (M.fold_lt _ _ (M.lo_lt _)), M.fold_append]; exact beq_self_eq_true _
      have hlt := M.fold_lt (M.lo a0) (z1.take len1 ++ z2.take len2) (M.lo_lt _)
      clear hbda hbdb hall
      have hbs : ∀ w : World, (Instr.buildSlice 22 0 #[]).run Try.prog w = .ok (.slice (some ⟨w.heap.size, 0, none⟩) 0 0) (w.alloc (.cells #[] 5)) := fun _ => by kernel_rfl
      have hown0 : (w.alloc (.cells #[] 5)).ownsRow w.heap.size 5 1 (.slice (some ⟨w.heap.size, 0, none⟩) 0 0) 0 (([] : List Int).map (Value.int .u8)) := World.ownsRow_made w _ 0 (Nat.le_refl _) (by decide) rfl
      have hb0 : Below w.heap.size w (w.alloc (.cells #[] 5)) := (Below.refl _ _).alloc (Nat.le_refl _) _
      go_enter Try.func4, Try.ntmps4
      go_wp2_with (first
        | (at_builtin; refine app_any rfl _ _ rfl _ 0 [] rfl hown0 hb0 a1 len1 cap1 z1 rfl hW1.out (by omega) ?_; intro v1 w1 hown1 hb1; rw [Nat.zero_add, List.nil_append] at hown1)
        | (at_builtin; refine app_any rfl _ _ rfl _ len1 (z1.take len1) rfl hown1 hb1 a2 len2 cap2 z2 rfl hW2.out (by omega) ?_; intro v2 w2 hown2 hb2; obtain ⟨A, c, rfl, hB⟩ := byt_of_own hown2 Hall.out (by omega); have hBa2 := hBa.below hb2; have hBb2 := hBb.below hb2)
        | (go_at_call 9; refine (lives_any _).mono ?_; rintro e wl ⟨rfl, hbl⟩)
        | (go_at_call 14; refine (within_any _ (by omega) (by omega) _).mono ?_; rintro e w' ⟨rfl, rfl⟩)
        | (go_at_call 10; ((with_reducible refine (fold_any _ _ _ _ _ _ hB).mono ?_); rintro e w' ⟨rfl, rfl⟩))
        | (go_at_call 10; ((with_reducible refine (fold_any _ _ _ _ _ _ hBa2).mono ?_); rintro e w' ⟨rfl, rfl⟩))
        | (go_at_call 10; ((with_reducible refine (fold_any _ _ _ _ _ _ hBb2).mono ?_); rintro e w' ⟨rfl, rfl⟩))
        | (go_at_call 12; ((with_reducible refine (sum_any _ _ _ _ _ hB).mono ?_); rintro e w' ⟨rfl, rfl⟩))
        | (go_at_call 12; ((with_reducible refine (sum_any _ _ _ _ _ hBa2).mono ?_); rintro e w' ⟨rfl, rfl⟩)))
      go_ret
      exact ⟨rfl, hb2.trans (hbl.mono hb2.size)⟩

/-! ### THE ROW's STEP: WRITTEN OUT: LEAVE IT -/
set_option maxRecDepth 100000 in
theorem lifted (os : Os) (started : os.Started) (H : Type) (enc : TypeId × Value → H) :
    ReturnsInHanded {} Try.checked os 4 .any (Rows.sumsPartsSpec.pre6 enc Try.prog Try.f4 Rows.sumsPartsRow.domain false) (Rows.sumsPartsSpec.post enc Try.prog Try.f4 false true false false) := by
  refine returnsInHanded_of_change (C := Try.checked) own started (by kernel_rfl) Try.func4
    (ChangeSpec.witness6 (enc := enc) (C := Try.checked) false ⟨#[], #[.int .i64 0, .slice none 0 0, .slice none 0 0], []⟩ 8 (by kernel_rfl) (by kernel_rfl) (by kernel_rfl) (by kernel_rfl)) ?_
  intro W base args ds gs before hval0 hW hcnd _
  have hval : ∀ (j : Nat) t v, Try.f4.params[j]? = some t → args[j]? = some v → Value.okWide Try.prog W .any base t v := hval0
  have hW' := hW
  obtain ⟨p, q, hA0, hV, rfl, hfz, hnd⟩ := hW
  have hA : DataW.TrodAll enc Try.prog W 0 (fun _ => true) true Try.f4.params.toList args.toList ds p := hA0
  rw [Try.params4] at hA hval
  obtain ⟨v0, vs0, d0, ds0, p0, q0, hargs, rfl, rfl, h0, r0⟩ := trodAll_cons hA
  obtain ⟨v1, vs1, d1, ds1, p1, q1, rfl, rfl, rfl, h1, r1⟩ := trodAll_cons r0
  obtain ⟨v2, vs2, d2, ds2, p2, q2, rfl, rfl, rfl, h2, r2⟩ := trodAll_cons r1
  obtain ⟨rfl, rfl, rfl⟩ := trodAll_nil r2
  obtain rfl : args = #[v0, v1, v2] := by cases args; simp_all
  obtain ⟨rfl, rfl⟩ := trodVars_none hV
  obtain ⟨a0, rfl, rfl, rfl, w0⟩ := open_int Try.underlying3 (hval 0 3 v0 rfl rfl) h0
  obtain ⟨a1, len1, cap1, rfl⟩ := okWide_slice Try.underlying22 (hval 1 22 v1 rfl rfl)
  have k1 := h1
  have lt1 : ∀ x ∈ p1, x.block < W.heap.size := by obtain ⟨m, hm⟩ := k1; exact DataW.trod_lt m _ _ _ hm
  obtain ⟨z1, w1⟩ : ∃ zs, IsRow .u8 W a1 len1 cap1 zs := by
    obtain ⟨fuel, hf⟩ := h1
    rcases open_ints Try.underlying22 Try.underlying5 (by kernel_rfl) hf with ⟨hcs, _⟩ | ⟨x, l, c, zs, hcs, _, hl, hm, hz, _, hcell, hwz⟩
    · simp [Value.cells] at hcs
      obtain ⟨rfl, rfl, rfl⟩ := hcs
      exact ⟨[], .inl ⟨rfl, rfl, rfl, rfl⟩⟩
    · simp [Value.cells] at hcs
      obtain ⟨rfl, rfl, rfl⟩ := hcs
      exact ⟨zs, .inr ⟨_, rfl, hl, hm, by simpa using hz, hcell, hwz⟩⟩
  obtain ⟨a2, len2, cap2, rfl⟩ := okWide_slice Try.underlying22 (hval 2 22 v2 rfl rfl)
  have k2 := h2
  have lt2 : ∀ x ∈ p2, x.block < W.heap.size := by obtain ⟨m, hm⟩ := k2; exact DataW.trod_lt m _ _ _ hm
  obtain ⟨z2, w2⟩ : ∃ zs, IsRow .u8 W a2 len2 cap2 zs := by
    obtain ⟨fuel, hf⟩ := h2
    rcases open_ints Try.underlying22 Try.underlying5 (by kernel_rfl) hf with ⟨hcs, _⟩ | ⟨x, l, c, zs, hcs, _, hl, hm, hz, _, hcell, hwz⟩
    · simp [Value.cells] at hcs
      obtain ⟨rfl, rfl, rfl⟩ := hcs
      exact ⟨[], .inl ⟨rfl, rfl, rfl, rfl⟩⟩
    · simp [Value.cells] at hcs
      obtain ⟨rfl, rfl, rfl⟩ := hcs
      exact ⟨zs, .inr ⟨_, rfl, hl, hm, by simpa using hz, hcell, hwz⟩⟩
  clear hA0 hval0
  refine (walk a0 a1 len1 cap1 z1 a2 len2 cap2 z2 W w0 w1 w2).mono fun e W' ⟨he, bel⟩ => ?_
  subst he
  exact ⟨_, rfl, _, _, _, [], _, [], hW', trodAll_mk1 (shut_bool Try.underlying4 _), (trodAll_cons_mk (shut_int Try.underlying3 w0) (trodAll_cons_mk (Below.trod laidOut (by kernel_rfl) (of_decide_eq_true (by kernel_rfl)) k1 bel lt1) (trodAll_cons_mk (Below.trod laidOut (by kernel_rfl) (of_decide_eq_true (by kernel_rfl)) k2 bel lt2) trodAll_mk0))), rfl, bel.frame _, fun h => by cases h⟩

theorem over : Rows.sumsPartsRow.holds Try.pinned (OpenSpec.ofChange Rows.sumsPartsSpec) :=
  OpenClaim.holds_of_wide 4 Try.f4 rfl rfl rfl rfl rfl rfl rfl ⟨rfl, rfl, rfl, rfl, rfl⟩ rfl rfl rfl rfl rfl (by kernel_rfl) Try.func4 (by kernel_rfl)
    (of_decide_eq_true (by kernel_rfl)) (by unfold Func.isWrapper; first | (rw [if_pos (by decide +kernel)]; kernel_rfl) | (rw [if_neg (by decide +kernel)]; exact ⟨rfl, rfl⟩))
    (fun os started H enc _ => lifted os started H enc)

/-- ████ THE STATEMENT ████ -/
theorem proved : Rows.SumsPartsSaid := over
#print axioms proved
end Go.Proofs.Ytifoenmgbaikcaa.sumsParts
