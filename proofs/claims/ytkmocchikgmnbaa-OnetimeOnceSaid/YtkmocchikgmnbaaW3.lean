/- One-time keys: what is wrong with an entry; the order; names and before of the reference. No condition. -/
import Derived.Test.YtkmocchikgmnbaaW2
import Derived.Deep.QuietTactic
import Derived.BigQuiet
namespace Go.Proofs.Ytkmocchikgmnbaa
open Go.RowKit
set_option linter.unusedVariables false
set_option linter.unusedSimpArgs false

theorem bytesLess_eq : ∀ (x y : List UInt8), Op.bytesLess x y = decide (x < y)
  | [], [] => by simp [Op.bytesLess]
  | _ :: _, [] => by simp [Op.bytesLess]
  | [], _ :: _ => by simp [Op.bytesLess]
  | a :: x, b :: y => by
    rw [Op.bytesLess, bytesLess_eq x y]
    simp only [List.cons_lt_cons_iff]
    by_cases h1 : a < b <;> by_cases h2 : a = b <;> by_cases h3 : x < y <;> simp [h1, h2, h3]
theorem tri {a b : List UInt8} (h : ¬ a < b) (hne : a ≠ b) : b < a := by
  by_cases h2 : b < a
  · exact h2
  · exact absurd (List.le_antisymm (List.not_lt.1 h2) (List.not_lt.1 h)) hne
/-- p stands before the device of u, d. -/
def bef (p : Rc) (u d : ByteArray) : Bool := Op.bytesLess p.us.toList u.toList || (p.us.toList == u.toList && Op.bytesLess p.dv.toList d.toList)
/-- The order of devices, of entries. -/
def ltR (p q : Rc) : Prop := p.us.toList < q.us.toList ∨ (p.us.toList = q.us.toList ∧ p.dv.toList < q.dv.toList)
theorem bef_iff (p q : Rc) : bef p q.us q.dv = true ↔ ltR p q := by
  unfold bef ltR
  rw [bytesLess_eq, bytesLess_eq]
  simp
theorem cmpS_val (a b : ByteArray) : (a.toList < b.toList ∧ cmpS a b = -1) ∨ (a.toList = b.toList ∧ cmpS a b = 0) ∨ (b.toList < a.toList ∧ cmpS a b = 1) := by
  unfold cmpS
  rw [bytesLess_eq]
  by_cases h1 : a.toList < b.toList
  · exact .inl ⟨h1, by simp [h1]⟩
  · by_cases h2 : a.toList = b.toList
    · exact .inr (.inl ⟨h2, by rw [h2]; simp [List.lt_irrefl]⟩)
    · exact .inr (.inr ⟨tri h1 h2, by simp [h1, h2]⟩)
theorem cmpO_neg (p q : Rc) : cmpO p q < 0 ↔ ltR p q := by
  unfold cmpO orI ltR
  rcases cmpS_val p.us q.us with ⟨h1, e1⟩ | ⟨h1, e1⟩ | ⟨h1, e1⟩
  · rw [e1]; simp [h1]
  · rw [e1, h1, if_pos rfl]
    rcases cmpS_val p.dv q.dv with ⟨h2, e2⟩ | ⟨h2, e2⟩ | ⟨h2, e2⟩
    · rw [e2]; simp [h2]
    · rw [e2, h2]; simp [List.lt_irrefl]
    · rw [e2]; simp [List.lt_irrefl, List.lt_asymm h2]
  · rw [e1]
    have : p.us.toList ≠ q.us.toList := fun e => by rw [e] at h1; exact List.lt_irrefl _ h1
    simp [List.lt_asymm h1, this]
theorem cmpO_pos (p q : Rc) : 0 < cmpO p q ↔ ltR q p := by
  unfold cmpO orI ltR
  rcases cmpS_val p.us q.us with ⟨h1, e1⟩ | ⟨h1, e1⟩ | ⟨h1, e1⟩
  · rw [e1]
    have : q.us.toList ≠ p.us.toList := fun e => by rw [e] at h1; exact List.lt_irrefl _ h1
    simp [List.lt_asymm h1, this]
  · rw [e1, h1, if_pos rfl]
    rcases cmpS_val p.dv q.dv with ⟨h2, e2⟩ | ⟨h2, e2⟩ | ⟨h2, e2⟩
    · rw [e2]; simp [List.lt_irrefl, List.lt_asymm h2]
    · rw [e2, h2]; simp [List.lt_irrefl]
    · rw [e2]; simp [h2]
  · rw [e1]; simp [h1]
/-- Both say the same of the order. -/
theorem ord_eq (p q : Rc) : decide (cmpO p q ≤ 0) = !bef q p.us p.dv := by
  by_cases h : bef q p.us p.dv = true
  · have := (cmpO_pos p q).2 ((bef_iff q p).1 h)
    rw [h]; simp; omega
  · have h2 : ¬ 0 < cmpO p q := fun h3 => h ((bef_iff q p).2 ((cmpO_pos p q).1 h3))
    rw [Bool.not_eq_true] at h
    rw [h]; simp; omega
/-- What is wrong with an entry. -/
def rngE (p : Rc) : Prop := p.lf < 0 ∨ 200 < p.lf ∨ p.nx < p.lf ∨ 1000000000000 < p.nx
instance (p : Rc) : Decidable (rngE p) := by unfold rngE; infer_instance
def fE (p : Rc) : Int := if okO p.us p.dv = true then (if rngE p then 2 else 0) else 3
def stepM (zs : List Rc) (i : Nat) : Int := if fE (zs.getD i t0) = 0 then (if 0 < i ∧ bef (zs.getD (i - 1) t0) (zs.getD i t0).us (zs.getD i t0).dv = false then 8 else 0) else fE (zs.getD i t0)
def chk (zs : List Rc) (n : Nat) : Int := (((List.range n).map (stepM zs)).find? (fun r => r != 0)).getD 0
theorem chk_at {zs : List Rc} {n k : Nat} {r : Int} (hk : k < n) (h : stepM zs k = r) (hr : r ≠ 0) (hn : ∀ j, j < k → stepM zs j = 0) : chk zs n = r := by
  unfold chk
  have : ((List.range n).map (stepM zs)).find? (fun r => r != 0) = some r := by
    rw [List.find?_map, List.find?_range_eq_some.2 ⟨(by simp [h, hr] : ((fun r => r != 0) ∘ stepM zs) k = true), by simpa using hk, fun j hj => by simp [hn j hj]⟩, Option.map_some, h]
  rw [this]; rfl
theorem chk_no {zs : List Rc} {n : Nat} (hn : ∀ j, j < n → stepM zs j = 0) : chk zs n = 0 := by
  unfold chk
  have : ((List.range n).map (stepM zs)).find? (fun r => r != 0) = none := by
    rw [List.find?_eq_none]
    intro x hx
    obtain ⟨j, hj, rfl⟩ := List.mem_map.1 hx
    rw [hn j (by simpa using hj)]
    decide
  rw [this]; rfl
theorem Rcs.at_ {w : World} {A : Option Addr} {n c : Nat} {zs : List Rc} (h : Rcs w A n c zs) {k : Nat} (hk : k < n) :
    ∃ b off, A = some ⟨b, off, none⟩ ∧ b < w.heap.size ∧ w.cell? ⟨b, off + k * 4, none⟩ = some (.string (zs.getD k t0).us) ∧ w.cell? ⟨b, off + k * 4 + 1, none⟩ = some (.string (zs.getD k t0).dv) ∧ w.cell? ⟨b, off + k * 4 + 2, none⟩ = some (.int .i64 (zs.getD k t0).nx) ∧ w.cell? ⟨b, off + k * 4 + 3, none⟩ = some (.int .i64 (zs.getD k t0).lf) ∧ fitR (zs.getD k t0) := by
  obtain ⟨b, off, e, hlt, hr, hf⟩ := h.get hk
  exact ⟨b, off, e, hlt, hr 0 _ rfl, hr 1 _ rfl, hr 2 _ rfl, hr 3 _ rfl, hf⟩
theorem owner_x (p : Rc) (w : World) : Calls Try.prog 21 #[.agg #[.string p.us, .string p.dv, .int .i64 p.nx, .int .i64 p.lf]] w fun e w' => e = .returned (.agg #[.string p.us, .string p.dv]) ∧ Gr w w' := owner_of p w
/-- The reference's names. -/
def nmE (u d : ByteArray) : Int := if okO u d = true then 0 else 3
theorem nmE_t {u d : ByteArray} (h : okO u d = true) : nmE u d = 0 := by unfold nmE; rw [if_pos h]
theorem nmE_f {u d : ByteArray} (h : okO u d = false) : nmE u d = 3 := by unfold nmE; rw [if_neg (by rw [h]; decide)]
theorem names_any (u d : ByteArray) (hs : u.size ≤ 9223372036854775807) (hd : d.size ≤ 9223372036854775807) (w : World) : Calls Try.prog 24 #[.string u, .string d] w fun e w' => e = .returned (.int .i64 (nmE u d)) ∧ w = w' := by
  have UC := Lib.hid (ruser_any u hs w)
  cases hm : I.mkd 64 (bys u)
  · rw [hm, show err false = 3 from rfl] at UC
    have HF := Lib.hid (show nmE u d = 3 from nmE_f (by unfold okO; rw [hm]; rfl))
    clear hm
    go_enter Try.func24, Try.ntmps24
    go_wp2_with (first | (go_at_call 35; refine UC.out.mono ?_; rintro e wu ⟨rfl, rfl⟩) | go_in)
    all_goals (go_ret; first | exact ⟨by rw [HF.out]; rfl, rfl⟩ | (exfalso; omega))
  · rw [hm, show err true = 0 from rfl] at UC
    have HO := Lib.hid (show okO u d = (decide (1 ≤ d.size) && decide (d.size ≤ 32)) by unfold okO; rw [hm]; rfl)
    clear hm
    rcases Nat.lt_or_ge d.size 1 with d1 | d1
    · have g1 : (d.size : Int) < 1 := by omega
      have HF := Lib.hid (show nmE u d = 3 from nmE_f (by rw [HO.out, decide_eq_false (by omega : ¬ 1 ≤ d.size)]; rfl))
      go_enter Try.func24, Try.ntmps24
      go_wp2_with (first | (go_at_call 35; refine UC.out.mono ?_; rintro e wu ⟨rfl, rfl⟩) | go_in)
      all_goals (go_ret; first | exact ⟨by rw [HF.out]; rfl, rfl⟩ | (exfalso; omega))
    · have g1 : ¬ (d.size : Int) < 1 := by omega
      rcases Nat.lt_or_ge 32 d.size with d2 | d2
      · have g2 : 32 < (d.size : Int) := by omega
        have HF := Lib.hid (show nmE u d = 3 from nmE_f (by rw [HO.out, decide_eq_false (by omega : ¬ d.size ≤ 32), Bool.and_false]))
        go_enter Try.func24, Try.ntmps24
        go_wp2_with (first | (go_at_call 35; refine UC.out.mono ?_; rintro e wu ⟨rfl, rfl⟩) | go_in)
        all_goals (go_ret; first | exact ⟨by rw [HF.out]; rfl, rfl⟩ | (exfalso; omega))
      · have g2 : ¬ 32 < (d.size : Int) := by omega
        have HF := Lib.hid (show nmE u d = 0 from nmE_t (by rw [HO.out, decide_eq_true d1, decide_eq_true d2]; rfl))
        go_enter Try.func24, Try.ntmps24
        go_wp2_with (first | (go_at_call 35; refine UC.out.mono ?_; rintro e wu ⟨rfl, rfl⟩) | go_in)
        all_goals (go_ret; first | exact ⟨by rw [HF.out]; rfl, rfl⟩ | (exfalso; omega))
theorem before_any (p : Rc) (u d : ByteArray) (w : World) : Calls Try.prog 25 #[.agg #[.string p.us, .string p.dv, .int .i64 p.nx, .int .i64 p.lf], .string u, .string d] w fun e w' => e = .returned (.bool (bef p u d)) ∧ Below w.heap.size w w' := by
  have BW := Lib.hid (Below.alloc (Below.refl w.heap.size w) (Nat.le_refl _) (.cells #[.string p.us, .string p.dv, .int .i64 p.nx, .int .i64 p.lf] 45))
  cases h1 : Op.bytesLess p.us.toList u.toList
  · cases h2 : (p.us.toList == u.toList)
    · have HF := Lib.hid (show bef p u d = false by unfold bef; rw [h1, h2]; rfl)
      go_enter Try.func25, Try.ntmps25
      go_wp2
      all_goals (go_ret; exact ⟨by rw [HF.out]; rfl, BW.out⟩)
    · have HF := Lib.hid (show bef p u d = Op.bytesLess p.dv.toList d.toList by unfold bef; rw [h1, h2]; rfl)
      go_enter Try.func25, Try.ntmps25
      go_wp2
      all_goals (go_ret; exact ⟨by rw [HF.out]; rfl, BW.out⟩)
  · have HF := Lib.hid (show bef p u d = true by unfold bef; rw [h1]; rfl)
    go_enter Try.func25, Try.ntmps25
    go_wp2
    all_goals (go_ret; exact ⟨by rw [HF.out]; rfl, BW.out⟩)
end Go.Proofs.Ytkmocchikgmnbaa
