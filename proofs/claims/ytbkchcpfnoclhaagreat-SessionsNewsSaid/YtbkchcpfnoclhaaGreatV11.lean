/- Sessions: share, Reads, Use, SameShares, Same of the reference. Bound: at most 900000 shares. -/
import Derived.Test.YtbkchcpfnoclhaaGreatV10
namespace Go.Proofs.YtbkchcpfnoclhaaGreat
set_option maxRecDepth 100000
open Go Go.RowKit
set_option linter.unusedVariables false
set_option linter.unusedSimpArgs false
set_option maxRecDepth 100000

/-- What share gives. -/
def shP (u d : ByteArray) (l : List Rc) : Rc × Bool := match l.find? (smH u d) with
  | none => (t0, false)
  | some p => (p, true)
theorem shP_none {u d : ByteArray} {l : List Rc} (h : ∀ j, j < l.length → smH u d (l.getD j t0) = false) : shP u d l = (t0, false) := by
  unfold shP
  rw [find_none (fun p hp => by
    obtain ⟨j, hj, rfl⟩ := List.mem_iff_getElem.1 hp
    have := h j hj
    rwa [getD_at hj] at this)]
theorem shP_at {u d : ByteArray} {l : List Rc} {k : Nat} (hk : k < l.length) (h : smH u d (l.getD k t0) = true) (hn : ∀ j, j < k → smH u d (l.getD j t0) = false) : shP u d l = (l.getD k t0, true) := by
  unfold shP
  rw [find_at hk h (fun p hp => by
    obtain ⟨j, hj, rfl⟩ := List.mem_iff_getElem.1 hp
    rw [List.length_take] at hj
    have := hn j (by omega)
    rw [getD_at (by omega)] at this
    rwa [List.getElem_take])]
theorem shP_any (u d : ByteArray) (l : List Rc) : (shP u d l).2 = l.any (smH u d) := by
  unfold shP
  rcases h : l.find? (smH u d) with _ | p
  · rw [List.any_eq_false.2 (fun p hp => by simpa using List.find?_eq_none.1 h p hp)]
  · rw [List.any_eq_true.2 ⟨p, List.mem_of_find?_eq_some h, List.find?_some h⟩]
theorem smH_ne1 {u d : ByteArray} {p : Rc} (h : ¬ p.us = u) : smH u d p = false := by unfold smH; rw [decide_eq_false h, Bool.false_and]
theorem smH_ne2 {u d : ByteArray} {p : Rc} (h : ¬ p.dv = d) : smH u d p = false := by unfold smH; rw [decide_eq_false h, Bool.and_false]
theorem smH_yes {u d : ByteArray} {p : Rc} (h : p.us = u) (k : p.dv = d) : smH u d p = true := by unfold smH; rw [decide_eq_true h, decide_eq_true k]; rfl
def ShareP (w : World) (x : Rc × Bool) (r : Ending) (w' : World) : Prop := r = .returned (.tuple #[.agg (enc x.1).toArray, .bool x.2]) ∧ Below w.heap.size w w'
set_option maxHeartbeats 4000000 in
theorem share29 (id : Int) (rm : ByteArray) (nx : Int) (A : Option Addr) (n c : Nat) (l : List Rc) (u d : ByteArray) (w : World) (h : Rcs w A n c l) : Calls Tryz.prog 20 #[.agg #[.int .i64 id, .string rm, .int .i64 nx, .slice A n c], .string u, .string d] w (ShareP w (shP u d l)) := by
  have BA := Lib.hid (((Below.refl w.heap.size w).alloc (Nat.le_refl _) (.cells #[.int .i64 id, .string rm, .int .i64 nx, .slice A n c] 24)).alloc (by simp) (.cells #[.string ⟨#[]⟩, .string ⟨#[]⟩, .int .i64 0] 36))
  have XS := Lib.hid ((blk_new w (sC id rm nx A n c) 24).alloc (.cells #[.string ⟨#[]⟩, .string ⟨#[]⟩, .int .i64 0] 36))
  have XR := Lib.hid (blk_new2 w (.cells #[.int .i64 id, .string rm, .int .i64 nx, .slice A n c] 24) [.string ⟨#[]⟩, .string ⟨#[]⟩, .int .i64 0] 36)
  have H := Lib.hid h
  have hbig := h.rws.big
  unfold maxLen at hbig
  have HL := Lib.hid h.len
  have HNo := Lib.hid (fun hn => shP_none (u := u) (d := d) (l := l) hn)
  have HAt := Lib.hid (fun k hk h1 hn => shP_at (u := u) (d := d) (l := l) (k := k) hk h1 hn)
  generalize shP u d l = X at HNo HAt ⊢
  clear h
  go_enter Tryz.func20, Tryz.ntmps20
  go_wp2
  go_loopg [8] n (fun gg s8 wr => ∃ (k : Nat), k ≤ n ∧ n - k ≤ gg ∧ s8 = .int .i64 (k : Int) ∧ Hid (Below w.heap.size w wr) ∧ Hid (Blk wr w.heap.size (sC id rm nx A n c) 24) ∧ Hid (Blk wr (w.heap.size + 1) [.string ⟨#[]⟩, .string ⟨#[]⟩, .int .i64 0] 36) ∧ Hid (∀ j, j < k → smH u d (l.getD j t0) = false))
  case atStart => exact ⟨0, Nat.zero_le _, by omega, rfl, BA, XS, XR, Lib.hid (fun j hj => absurd hj (Nat.not_lt_zero _))⟩
  case round =>
    clear BA XS XR
    obtain ⟨k, hk, hg, rfl, BW, XS, XR, HJ⟩ := hrel
    have y3 := XS.out.cell (i := 3) rfl
    by_cases hlt : k < n
    · have hltz : (k : Int) < (n : Int) := by omega
      have hk0 : (0 : Int) ≤ (k : Int) := by omega
      obtain ⟨b, off, rfl, hbl, hr, hft⟩ := (H.out.below BW.out).get hlt
      have q0 : wr.cell? ⟨b, off + k * 3, none⟩ = some (.string (l.getD k t0).us) := hr 0 _ rfl
      have q1 : wr.cell? ⟨b, off + k * 3 + 1, none⟩ = some (.string (l.getD k t0).dv) := hr 1 _ rfl
      have HRg := Lib.hid hr
      have HNx := Lib.hid (show smH u d (l.getD k t0) = false → ∀ j, j < k + 1 → smH u d (l.getD j t0) = false from fun e j hj => by
        by_cases e2 : j = k
        · subst e2; exact e
        · exact HJ.out j (by omega))
      have HA2 := Lib.hid (fun e => HAt.out k (by rw [HL.out]; exact hlt) e HJ.out)
      clear hr hft HJ
      generalize l.getD k t0 = p at q0 q1 HRg HNx HA2
      by_cases e1 : p.us = u
      · have z1 : (p.us.toList == u.toList) = true := by rw [e1]; exact beq_self_eq_true _
        by_cases e2 : p.dv = d
        · have z2 : (p.dv.toList == d.toList) = true := by rw [e2]; exact beq_self_eq_true _
          have HE := Lib.hid (HA2.out (smH_yes e1 e2))
          clear HA2 HNx e1 e2
          obtain ⟨us, dv, ix⟩ := p
          dsimp only at q0 q1 z1 z2 HRg HE
          have RG := Lib.hid (show World.rangeAt wr b (off + k * 3) [.string us, .string dv, .int .i64 ix] from fun i v hv => HRg.out i v hv)
          go_wp2_with (first
            | (refine wpList_load_mid rfl 36 _ rfl b (off + k * 3) rfl [.string us, .string dv, .int .i64 ix] _ RG.out Tryz.underlying36 rfl size55 ?_)
            | (refine wpList_store_mid rfl 36 _ _ rfl (w.heap.size + 1) 0 #[.string us, .string dv, .int .i64 ix] rfl rfl (Blk.there (n := 3) XR.out (by decide)) size55 (by simp [Value.oneCell']) ?_)
            | go_in)
          try simp only [Exit.inBlock, Exit.then]
          refine bodyPost_ret (results_cell_tmp_blk rfl _ _ (w.heap.size + 1) [.string us, .string dv, .int .i64 ix] 36 _ rfl (XR.out.setAll [.string us, .string dv, .int .i64 ix] rfl) Tryz.underlying36 rfl size55) rfl ?_
          rw [HE.out]
          exact ⟨rfl, below_setRow BW.out (Nat.le_succ _) _ _⟩
        · have z2 : (p.dv.toList == d.toList) = false := beq_eq_false_iff_ne.2 (fun e => e2 (eq_of_toList e))
          have HJ2 := Lib.hid (HNx.out (smH_ne2 e2))
          clear HA2 HNx e2 HRg
          obtain ⟨us, dv, ix⟩ := p
          dsimp only at q0 q1 z1 z2
          go_wp2
          go_roundg (n - (k + 1))
          case measure => omega
          case rel => exact ⟨k + 1, by omega, by omega, by go_num, BW, XS, XR, HJ2⟩
      · have z1 : (p.us.toList == u.toList) = false := beq_eq_false_iff_ne.2 (fun e => e1 (eq_of_toList e))
        have HJ2 := Lib.hid (HNx.out (smH_ne1 e1))
        clear HA2 HNx e1 HRg
        obtain ⟨us, dv, ix⟩ := p
        dsimp only at q0 q1 z1
        go_wp2
        go_roundg (n - (k + 1))
        case measure => omega
        case rel => exact ⟨k + 1, by omega, by omega, by go_num, BW, XS, XR, HJ2⟩
    · have hltz : ¬ (k : Int) < (n : Int) := by omega
      obtain rfl : k = n := by omega
      have HE := Lib.hid (HNo.out (fun j hj => HJ.out j (by rw [HL.out] at hj; exact hj)))
      go_wp2_with (first
        | (refine wpList_store_mid rfl 36 _ _ rfl (w.heap.size + 1) 0 #[.string ⟨#[]⟩, .string ⟨#[]⟩, .int .i64 0] rfl rfl (Blk.there (n := 3) XR.out (by decide)) size55 (by simp [Value.oneCell']) ?_)
        | go_in)
      try simp only [Exit.inBlock, Exit.then]
      refine bodyPost_ret (results_cell_tmp_blk rfl _ _ (w.heap.size + 1) [.string ⟨#[]⟩, .string ⟨#[]⟩, .int .i64 0] 36 _ rfl (XR.out.setAll [.string ⟨#[]⟩, .string ⟨#[]⟩, .int .i64 0] rfl) Tryz.underlying36 rfl size55) rfl ?_
      rw [HE.out]
      exact ⟨rfl, below_setRow BW.out (Nat.le_succ _) _ _⟩
end Go.Proofs.YtbkchcpfnoclhaaGreat
