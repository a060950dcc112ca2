/- Relations: events by the cells that matter; relationOf. No condition. -/
import Derived.Test.YtefajhfahnhcgaaLA
import Derived.Test.YtefajhfahnhcgaaMJB
import Derived.Deep.MidRow
import Derived.Deep.RegionHeld3
import Derived.Deep.Cut
import Derived.WalkSmall
import Derived.BigQuiet
import Derived.Deep.QuietTactic
namespace Go.Proofs.Ytefajhfahnhcgaa
open Go Go.RowKit
set_option linter.unusedVariables false
set_option linter.unusedSimpArgs false

/-- What matters of an event. -/
structure Me where
  id : Int
  sd : ByteArray
  kd : Int
  tm : Int
  tx : ByteArray
  tg : Int
  th : Bool
  cs : List Value
/-- The cells of an event hold what is said of it. -/
structure Fits (e : Me) : Prop where
  len : e.cs.length = 29
  c0 : e.cs[0]? = some (.int .i64 e.id)
  c2 : e.cs[2]? = some (.string e.sd)
  c3 : e.cs[3]? = some (.int .i64 e.kd)
  c6 : e.cs[6]? = some (.int .i64 e.tm)
  c10 : e.cs[10]? = some (.string e.tx)
  c12 : e.cs[12]? = some (.int .i64 e.tg)
  c13 : e.cs[13]? = some (.bool e.th)
  one : ∀ u ∈ e.cs, u.oneCell' = true
  bi : i64B e.id
  bk : i64B e.kd
  bt : i64B e.tm
  bg : i64B e.tg
  bs : e.sd.size ≤ maxLen
  bx : e.tx.size ≤ maxLen
structure Evm (w : World) (A : Option Addr) (n : Nat) (E : Nat → Me) : Prop where
  big : n ≤ maxLen
  at_ : 0 < n → ∃ b off, A = some ⟨b, off, none⟩ ∧ b < w.heap.size ∧ ∀ j, j < n → w.rangeAt b (off + j * 29) (E j).cs
  fit : ∀ j, j < n → Fits (E j)
theorem Evm.below {w w' : World} {A : Option Addr} {n : Nat} {E : Nat → Me} (h : Evm w A n E) (hb : Below w.heap.size w w') : Evm w' A n E := by
  refine ⟨h.big, fun h0 => ?_, h.fit⟩
  obtain ⟨b, off, e, hlt, hc⟩ := h.at_ h0
  exact ⟨b, off, e, Nat.lt_of_lt_of_le hlt hb.size, fun j hj k v hv => (hb.cell (p := ⟨b, _, none⟩) hlt).trans (hc j hj k v hv)⟩
/-- An event stands at a place. -/
structure At (w : World) (b o : Nat) (e : Me) : Prop where
  lt : b < w.heap.size
  rng : w.rangeAt b o e.cs
  fit : Fits e
theorem At.below {w w' : World} {b o : Nat} {e : Me} (h : At w b o e) (hb : Below w.heap.size w w') : At w' b o e :=
  ⟨Nat.lt_of_lt_of_le h.lt hb.size, fun k v hv => (hb.cell (p := ⟨b, _, none⟩) h.lt).trans (h.rng k v hv), h.fit⟩
section
variable {w : World} {b o : Nat} {e : Me} (h : At w b o e)
include h
theorem At.k0 : w.cell? ⟨b, o, none⟩ = some (.int .i64 e.id) := h.rng 0 _ h.fit.c0
theorem At.k2 : w.cell? ⟨b, o + 2, none⟩ = some (.string e.sd) := h.rng 2 _ h.fit.c2
theorem At.k3 : w.cell? ⟨b, o + 3, none⟩ = some (.int .i64 e.kd) := h.rng 3 _ h.fit.c3
theorem At.k6 : w.cell? ⟨b, o + 6, none⟩ = some (.int .i64 e.tm) := h.rng 6 _ h.fit.c6
theorem At.k10 : w.cell? ⟨b, o + 10, none⟩ = some (.string e.tx) := h.rng 10 _ h.fit.c10
theorem At.k12 : w.cell? ⟨b, o + 12, none⟩ = some (.int .i64 e.tg) := h.rng 12 _ h.fit.c12
theorem At.k13 : w.cell? ⟨b, o + 13, none⟩ = some (.bool e.th) := h.rng 13 _ h.fit.c13
end
theorem Evm.get {w : World} {A : Option Addr} {n : Nat} {E : Nat → Me} (h : Evm w A n E) {j : Nat} (hj : j < n) : ∃ b off, A = some ⟨b, off, none⟩ ∧ At w b (off + j * 29) (E j) := by
  obtain ⟨b, off, e, hlt, hc⟩ := h.at_ (by omega)
  exact ⟨b, off, e, hlt, hc j hj, h.fit j hj⟩
theorem at_box (w : World) (e : Me) (hf : Fits e) : At (w.alloc (.cells e.cs.toArray 34)) w.heap.size 0 e :=
  ⟨by simp, (blk_new w e.cs 34).range, hf⟩
theorem below_setRow {B b : Nat} {a w : World} (h : Below B a w) (hb : B ≤ b) (vs : List Value) (o : Nat) : Below B a (w.setCells b o vs) := by
  induction vs generalizing o w with
  | nil => exact h
  | cons v vs ih => exact ih (h.setCell (p := ⟨b, o, none⟩) hb v) (o + 1)
/-- The relation of an event: its kind, the id to which it refers. -/
def relK (e : Me) : Int := if e.tg ≤ 0 then 0 else if e.kd = 12 then 4 else if e.kd = 13 then 3 else if e.kd = 11 then (if e.th = true then 2 else 1) else 0
def relI (e : Me) : Int := if e.tg ≤ 0 then 0 else if e.kd = 12 then e.tg else if e.kd = 13 then e.tg else if e.kd = 11 then e.tg else 0
abbrev relC (k i : Int) : List Value := [.int .i64 k, .int .i64 i]
theorem size60 : (Try.prog.info? 60).map (·.size) = some 2 := by kernel_rfl
theorem rel_ret {k k' i i' : Int} (h1 : k = k') (h2 : i = i') : Ending.returned (.agg #[.int .i64 k, .int .i64 i]) = .returned (.agg #[.int .i64 k', .int .i64 i']) := by rw [h1, h2]
set_option maxRecDepth 100000 in
set_option maxHeartbeats 4000000 in
theorem relationOf26 (b o : Nat) (e : Me) (w : World) (h : At w b o e) : Calls Try.prog 26 #[.pointer (some ⟨b, o, none⟩)] w fun r w' => r = .returned (.agg #[.int .i64 (relK e), .int .i64 (relI e)]) ∧ Below w.heap.size w w' := by
  have BA := Lib.hid ((Below.refl w.heap.size w).alloc (Nat.le_refl _) (.cells #[.int .i64 0, .int .i64 0] 60))
  have X := Lib.hid (show Blk (w.alloc (.cells #[.int .i64 0, .int .i64 0] 60)) w.heap.size (relC 0 0) 60 from blk_new w (relC 0 0) 60)
  have HA := Lib.hid (h.below BA.out)
  have HK := Lib.hid (show relK e = if e.tg ≤ 0 then 0 else if e.kd = 12 then 4 else if e.kd = 13 then 3 else if e.kd = 11 then (if e.th = true then 2 else 1) else 0 from rfl)
  have HI := Lib.hid (show relI e = if e.tg ≤ 0 then 0 else if e.kd = 12 then e.tg else if e.kd = 13 then e.tg else if e.kd = 11 then e.tg else 0 from rfl)
  clear h
  generalize relK e = rk at HK ⊢
  generalize relI e = ri at HI ⊢
  go_enter Try.func26, Try.ntmps26
  go_upto_region 1 with (fail)
  generalize hwa : w.alloc _ = wa at BA X HA ⊢
  clear hwa
  have k12 := HA.out.k12
  have k3 := HA.out.k3
  have k13 := HA.out.k13
  generalize e.tg = tg at k12 HK HI
  generalize e.kd = kd at k3 HK HI
  generalize e.th = th at k13 HK HI
  clear HA
  by_cases h0 : tg ≤ 0
  · have HK1 := Lib.hid (HK.out.trans (if_pos h0)); have HI1 := Lib.hid (HI.out.trans (if_pos h0))
    clear HK HI k3 k13
    go_wp2_with (first
      | (refine wpList_store_mid rfl 60 _ _ rfl w.heap.size 0 #[.int .i64 0, .int .i64 0] rfl rfl (Blk.there (n := 2) X.out (by decide)) size60 (by simp [Value.oneCell']) ?_)
      | go_in)
    try simp only [Exit.inBlock, Exit.then]
    refine bodyPost_ret (results_cell_mid rfl _ _ w.heap.size (relC 0 0) 60 _ rfl (X.out.setAll (relC 0 0) rfl) Try.underlying60 rfl size60) rfl ?_
    exact ⟨rel_ret HK1.out.symm HI1.out.symm, below_setRow BA.out (Nat.le_refl _) _ _⟩
  · have h0z : 0 < tg := by omega
    by_cases h1 : kd = 12
    · have HK1 := Lib.hid (HK.out.trans ((if_neg h0).trans (if_pos h1))); have HI1 := Lib.hid (HI.out.trans ((if_neg h0).trans (if_pos h1)))
      clear HK HI
      go_wp2_with (first
        | (refine wpList_store_mid rfl 60 _ _ rfl w.heap.size 0 #[.int .i64 4, .int .i64 tg] rfl rfl (Blk.there (n := 2) X.out (by decide)) size60 (by simp [Value.oneCell']) ?_)
        | go_in)
      try simp only [Exit.inBlock, Exit.then]
      refine bodyPost_ret (results_cell_mid rfl _ _ w.heap.size (relC 4 tg) 60 _ rfl (X.out.setAll (relC 4 tg) rfl) Try.underlying60 rfl size60) rfl ?_
      exact ⟨rel_ret (by rw [HK1.out]) (by rw [HI1.out]), below_setRow BA.out (Nat.le_refl _) _ _⟩
    · by_cases h2 : kd = 13
      · have HK1 := Lib.hid (HK.out.trans ((if_neg h0).trans ((if_neg h1).trans (if_pos h2)))); have HI1 := Lib.hid (HI.out.trans ((if_neg h0).trans ((if_neg h1).trans (if_pos h2))))
        clear HK HI
        go_wp2_with (first
          | (refine wpList_store_mid rfl 60 _ _ rfl w.heap.size 0 #[.int .i64 3, .int .i64 tg] rfl rfl (Blk.there (n := 2) X.out (by decide)) size60 (by simp [Value.oneCell']) ?_)
          | go_in)
        try simp only [Exit.inBlock, Exit.then]
        refine bodyPost_ret (results_cell_mid rfl _ _ w.heap.size (relC 3 tg) 60 _ rfl (X.out.setAll (relC 3 tg) rfl) Try.underlying60 rfl size60) rfl ?_
        exact ⟨rel_ret (by rw [HK1.out]) (by rw [HI1.out]), below_setRow BA.out (Nat.le_refl _) _ _⟩
      · by_cases h3 : kd = 11
        · cases th
          · have ht : ¬ (false = true) := by decide
            have HK1 := Lib.hid (HK.out.trans ((if_neg h0).trans ((if_neg h1).trans ((if_neg h2).trans ((if_pos h3).trans (if_neg ht)))))); have HI1 := Lib.hid (HI.out.trans ((if_neg h0).trans ((if_neg h1).trans ((if_neg h2).trans (if_pos h3)))))
            clear HK HI
            go_wp2_with (first
              | (refine wpList_store_mid rfl 60 _ _ rfl w.heap.size 0 #[.int .i64 1, .int .i64 tg] rfl rfl (Blk.there (n := 2) X.out (by decide)) size60 (by simp [Value.oneCell']) ?_)
              | go_in)
            try simp only [Exit.inBlock, Exit.then]
            refine bodyPost_ret (results_cell_mid rfl _ _ w.heap.size (relC 1 tg) 60 _ rfl (X.out.setAll (relC 1 tg) rfl) Try.underlying60 rfl size60) rfl ?_
            exact ⟨rel_ret (by rw [HK1.out]) (by rw [HI1.out]), below_setRow BA.out (Nat.le_refl _) _ _⟩
          · have ht : true = true := rfl
            have HK1 := Lib.hid (HK.out.trans ((if_neg h0).trans ((if_neg h1).trans ((if_neg h2).trans ((if_pos h3).trans (if_pos ht)))))); have HI1 := Lib.hid (HI.out.trans ((if_neg h0).trans ((if_neg h1).trans ((if_neg h2).trans (if_pos h3)))))
            clear HK HI
            go_wp2_with (first
              | (refine wpList_store_mid rfl 60 _ _ rfl w.heap.size 0 #[.int .i64 2, .int .i64 tg] rfl rfl (Blk.there (n := 2) X.out (by decide)) size60 (by simp [Value.oneCell']) ?_)
              | go_in)
            try simp only [Exit.inBlock, Exit.then]
            refine bodyPost_ret (results_cell_mid rfl _ _ w.heap.size (relC 2 tg) 60 _ rfl (X.out.setAll (relC 2 tg) rfl) Try.underlying60 rfl size60) rfl ?_
            exact ⟨rel_ret (by rw [HK1.out]) (by rw [HI1.out]), below_setRow BA.out (Nat.le_refl _) _ _⟩
        · have HK1 := Lib.hid (HK.out.trans ((if_neg h0).trans ((if_neg h1).trans ((if_neg h2).trans (if_neg h3))))); have HI1 := Lib.hid (HI.out.trans ((if_neg h0).trans ((if_neg h1).trans ((if_neg h2).trans (if_neg h3)))))
          clear HK HI
          go_wp2_with (first
            | (refine wpList_store_mid rfl 60 _ _ rfl w.heap.size 0 #[.int .i64 0, .int .i64 0] rfl rfl (Blk.there (n := 2) X.out (by decide)) size60 (by simp [Value.oneCell']) ?_)
            | go_in)
          try simp only [Exit.inBlock, Exit.then]
          refine bodyPost_ret (results_cell_mid rfl _ _ w.heap.size (relC 0 0) 60 _ rfl (X.out.setAll (relC 0 0) rfl) Try.underlying60 rfl size60) rfl ?_
          exact ⟨rel_ret (by rw [HK1.out]) (by rw [HI1.out]), below_setRow BA.out (Nat.le_refl _) _ _⟩

end Go.Proofs.Ytefajhfahnhcgaa
