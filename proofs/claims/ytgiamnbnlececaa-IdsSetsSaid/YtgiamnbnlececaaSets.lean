/- IdsSets: for every input the statement returns true. Conditions: none beyond the statement's own. -/
import Derived.Test.YtgiamnbnlececaaRows
import Derived.Test.YtgiamnbnlececaaW14
import Derived.Deep.RegionHeld3
import Derived.Deep.AppendLies
import Derived.IntWalk
import Derived.ProofKit
import Derived.OpenShut
import Derived.ShutString
import Derived.ChangeOld
import Derived.Below
import Derived.SliceStrings
namespace Go.Proofs.Ytgiamnbnlececaa.idsSets
open Go.ChangeShapes Go.WideShapes Go.ChangeAt Go.RowKit Go.Proofs
open Go.ChangeMaps (open_string shut_string)
set_option linter.unusedVariables false

theorem own : ownKnob Try.prog.godebug = none := by kernel_rfl
theorem laidOut : laidOutB Try.prog = true := by kernel_rfl

theorem strs_of_row {w : World} {x : Addr} {len cap : Nat} {zs : List ByteArray} (hl : len ≤ cap) (hm : cap ≤ maxLen) (hz : zs.length = cap) (hc : ∀ i, i < zs.length → w.cell? (x.add i) = some (.string (zs.getD i ByteArray.empty))) (hw : ∀ s ∈ zs, s.size ≤ maxLen) :
    Strs w (some x) len (zs.take len) := by
  unfold maxLen at hm hw
  refine ⟨by rw [List.length_take]; omega, by omega, fun s hs => by have := hw s (List.mem_of_mem_take hs); omega, fun h0 => ?_⟩
  obtain ⟨b, off, s⟩ := x
  have hf := hc 0 (by omega)
  have hs : s = none := by simpa [Addr.add] using World.cell?_spot hf
  subst hs
  · refine ⟨b, off, rfl, World.block_lt_of_cell? w _ hf, fun i hi => ?_⟩
    have := hc i (by omega)
    rw [Addr.add_lit] at this
    rw [this, List.getD_eq_getElem?_getD, List.getD_eq_getElem?_getD, List.getElem?_take, if_pos hi]

theorem app_two {w : World} {ops : Array Oper} {rest : List Oper} {o : Oper} {a : Act} {Q : Exit → Act → World → Prop} (hgd : o.guard = none) (s x : Operand)
    (ho : o.op = .call { callee := .builtin .append, args := #[s, x], argTypes := #[30, 30] }) {B n : Nat}
    (v : Value) (acc : List I.Txt) (hs : a.eval s = v) (hown : w.ownsRow B 9 1 v n (acc.map encStr)) (hB : B ≤ w.heap.size)
    (g : Nat) (t u : ByteArray) (hx : a.eval x = .slice (some ⟨g, 0, none⟩) 2 2) (hc : Strs w (some ⟨g, 0, none⟩) 2 [t, u]) (hn : n ≤ 1000000)
    (h : ∀ g' c w', w'.ownsRow B 9 1 (.slice (some ⟨g', 0, none⟩) (n + 2) c) (n + 2) ((acc ++ [t.data.toList, u.data.toList]).map encStr) → Below B w w' → wpList Try.prog ops Q rest (a.put o.dst (.slice (some ⟨g', 0, none⟩) (n + 2) c)) w') : wpList Try.prog ops Q (o :: rest) a w := by
  obtain ⟨i0, hi0, hz0, hz1, hz2⟩ := info_parts info9
  refine wpList_append_own _ hgd s x 30 ho B 9 i0 (.string ⟨#[]⟩) 1 16 info30 hi0 hz0 hz1 hz2 rfl (by decide) v n _ hs hown ⟨g, 0, none⟩ 2 2 [.string t, .string u] hx rfl ?_ (by simp [Value.oneCell']) (by unfold maxLen; omega) (by omega) hB ?_
  · intro j y hy
    obtain ⟨b, off, e, _, hcell⟩ := hc.2.2.2 (by omega)
    injection e with e
    injection e with e1 e2
    subst e1 e2
    rw [Addr.add_lit]
    match j, hy with
    | 0, hy => rw [hcell 0 (by omega)]; exact hy
    | 1, hy => rw [hcell 1 (by omega)]; exact hy
  · intro v' w' hr hg _
    have e : (acc ++ [t.data.toList, u.data.toList]).map encStr = acc.map encStr ++ [.string t, .string u] := by
      rw [List.map_append]; rfl
    rw [← e] at hr
    obtain ⟨g', c, rfl⟩ : ∃ g' c, v' = .slice (some ⟨g', 0, none⟩) (n + 2) c := by
      rcases hr.2 with ⟨_, h0⟩ | ⟨g', cap, cur, rfl, _⟩
      · omega
      · exact ⟨_, _, rfl⟩
    exact h g' c w' hr ((Below.refl B w).grown hg hB (fun k hk => (hown.lt k hk).1))
theorem tx_mem {z : List ByteArray} {k : Nat} {t : ByteArray} (h : k < z.length) (e : t = z.getD k ByteArray.empty) : t.data.toList ∈ tx z := by
  rw [e, ← tx_get h]
  exact I.getD_mem (by rw [tx_len]; exact h)
/-- What the second loop has gathered. -/
def Gat (z : List ByteArray) (i : Nat) (ms : List I.Txt) : Prop := ms.length = 2 * i ∧ (∀ x ∈ ms, x ∈ tx z) ∧ ∀ x ∈ tx (z.take i), x ∈ ms
theorem gat_step {z : List ByteArray} {i j : Nat} {ms : List I.Txt} {t u : ByteArray} (h : Gat z i ms) (hi : i < z.length) (hj : j < z.length) (ht : t = z.getD j ByteArray.empty) (hu : u = z.getD i ByteArray.empty) : Gat z (i + 1) (ms ++ [t.data.toList, u.data.toList]) := by
  obtain ⟨h1, h2, h3⟩ := h
  refine ⟨by rw [List.length_append, h1]; simp; omega, fun x hx => ?_, fun x hx => ?_⟩
  · rcases List.mem_append.1 hx with hx | hx
    · exact h2 x hx
    · simp only [List.mem_cons, List.not_mem_nil, or_false] at hx
      rcases hx with rfl | rfl
      · exact tx_mem hj ht
      · exact tx_mem hi hu
  · rw [tx_snoc hi, ← hu] at hx
    rcases List.mem_append.1 hx with hx | hx
    · exact List.mem_append_left _ (h3 x hx)
    · rw [List.mem_singleton] at hx
      subst hx
      exact List.mem_append_right _ (by simp)
theorem gat_end {z : List ByteArray} {ms : List I.Txt} {n : Nat} (h : Gat z n ms) (hn : z.length = n) : I.nm ms = I.nm (tx z) := by
  refine I.nm_congr fun x => ⟨h.2.1 x, fun hx => h.2.2 x ?_⟩
  rw [List.take_of_length_le (by omega)]; exact hx
theorem gat_fit {z : List ByteArray} {ms : List I.Txt} {n : Nat} (h : Gat z n ms) (hf : Fit (tx z)) : Fit ms := fun x hx => hf x (h.2.1 x hx)
theorem geq_tx (s t : ByteArray) : (!Op.bytesLess s.toList t.toList) = !decide (s.data.toList < t.data.toList) := by rw [less_tx]
theorem StrsB.drewN {B : Nat} {w : World} {a : Option Addr} {len : Nat} {ls : List ByteArray} (h : StrsB B w a len ls) (n : Nat) : StrsB B (w.drewN n) a len ls := ⟨h.1, h.2.1, h.2.2.1, h.2.2.2⟩
theorem row_low {w : World} {B n b : Nat} {v : Value} {vs : List Value} (h : w.ownsRow B 9 1 v n vs) (hb : b < B) : v.ownBlock ≠ some b := fun e => by have := (h.lt b e).1; omega
theorem heap_alloc_size (w : World) (o : Obj) : (w.alloc o).heap.size = w.heap.size + 1 := by simp
theorem grown_x {wr w3 : World} {B n k : Nat} {o : Obj} {v : Value} {vs : List Value} (hB : B ≤ wr.heap.size) (hrow : wr.ownsRow B 9 1 v k vs) (hg : ((wr.drewN n).alloc o).grownBy w3 v.ownBlock) : Below B wr w3 :=
  (((below_dn (Below.refl B wr) n).alloc hB o).grown hg (by show B ≤ ((wr.drewN n).alloc o).heap.size; rw [heap_alloc_size]; exact Nat.le_succ_of_le hB) (fun j hj => (hrow.lt j hj).1))
theorem row_keep {w w' : World} {B n : Nat} {e : TypeId} {v : Value} {vs : List Value} (h : w.ownsRow B e 1 v n vs) (hb : Below w.heap.size w w') : w'.ownsRow B e 1 v n vs := by
  rcases h.2 with ⟨rfl, h0⟩ | ⟨g, cap, cur, rfl, hbg, hg, hnc, hcm, hcs, htk⟩
  · exact ⟨h.1, .inl ⟨rfl, h0⟩⟩
  · exact ⟨h.1, .inr ⟨g, cap, cur, rfl, hbg, (hb.block g (lt_of_block hg)).trans hg, hnc, hcm, hcs, htk⟩⟩

set_option maxHeartbeats 3200000 in
theorem walk (a0 : Option Addr) (len0 cap0 : Nat) (z0 : List ByteArray) (a1 : Int) (w : World) (w0 : Strs w a0 len0 z0) (v0 : len0 ≤ cap0 ∧ (a0 = none → len0 = 0 ∧ cap0 = 0)) (w1 : (Lit.int .u8 a1).wf = true) :
    Calls Try.prog 8 #[.slice a0 len0 cap0, .int .u8 a1] w fun e w' => e = .returned (.bool true) ∧ Below w.heap.size w w' := by
  by_cases hlen : 60 < len0
  · have d1 : decide ((60 : Int) < (len0 : Int)) = true := by simp; omega
    go_enter Try.func8, Try.ntmps8
    go_wp2_with (go_at_call 11; refine (awake_any _).mono ?_; rintro e wx ⟨rfl, hbx⟩; have BX := Lib.hid hbx; clear hbx)
    go_ret
    exact ⟨rfl, BX.out⟩
  · have d1 : decide ((60 : Int) < (len0 : Int)) = false := by simp; omega
    have H := Lib.hid w0
    have HL := Lib.hid w0.1
    have HFt := Lib.hid w0.fit
    have hu1 := w1
    have C0 := names_any a0 len0 cap0 z0 w w0 v0.1 (by omega)
    obtain ⟨hb0, hb1⟩ := bounds_u8 w1
    clear w0 v0 w1 hu1
    have HSR := Lib.hid (I.srt_nm (tx z0))
    have HME := Lib.hid (I.mem_nm (tx z0))
    have HNL := Lib.hid (I.length_nm (tx z0))
    obtain ⟨ns, hns⟩ : ∃ ns, I.nm (tx z0) = ns := ⟨_, rfl⟩
    rw [hns] at C0 HSR HME HNL
    have HNS := Lib.hid hns
    clear hns
    obtain ⟨nn, hnn⟩ : ∃ nn, ns.length = nn := ⟨_, rfl⟩
    have HNN := Lib.hid hnn
    have hnb : nn ≤ 60 := by have := HNL.out; rw [tx_len, HL.out] at this; omega
    have C1 : Hid (Calls Try.prog 23 #[.slice a0 len0 cap0] w fun e w' => ∃ A c, e = .returned (.slice A nn c) ∧ nn ≤ c ∧ Strs w' A nn (bs ns) ∧ Below w.heap.size w w') := Lib.hid (by
      refine C0.mono ?_
      rintro e w' ⟨A, c, h1, h2, h3, h4⟩
      rw [hnn] at h1 h2 h3
      exact ⟨A, c, h1, h2, h3, h4⟩)
    clear hnn C0
    go_enter Try.func8, Try.ntmps8
    go_wp2_with (go_at_call 23; refine C1.out.mono ?_; rintro e w2 ⟨A1, c1, rfl, hc1, hs1, hb1⟩; have B1 := Lib.hid hb1; have S1 := Lib.hid hs1; clear hb1 hs1)
    have S0 := Lib.hid (Strs.below H.out B1.out)
    clear C1
    go_loopw [6] (fun q wq => ∃ (i : Nat), i ≤ nn ∧ q = .int .i64 i ∧ Hid (Strs wq a0 len0 z0) ∧ Hid (Strs wq A1 nn (bs ns)) ∧ Hid (Below w.heap.size w wq)) (fun q _ => nn - (intOf q).toNat)
    case atStart => exact ⟨0, Nat.zero_le _, rfl, S0, S1, B1⟩
    case round =>
      obtain ⟨i, hi, rfl, S0r, S1r, B1r⟩ := hrel
      by_cases hlt : i < nn
      · obtain ⟨b1, o1, rfl, y, hy, _, hbl, hcell⟩ := StrsB.str S1r.out hlt
        have HY := Lib.hid (show y.data.toList = ns.getD i [] by rw [hy, ← tx_get (by unfold bs; rw [List.length_map, HNN.out]; exact hlt), tx_bs])
        have HYM := Lib.hid (show y.data.toList ∈ tx z0 by rw [HY.out, ← HME.out]; exact I.getD_mem (by rw [HNN.out]; exact hlt))
        have F2 := Lib.hid (fun (n : Nat) => show Calls Try.prog 25 #[.slice (some ⟨b1, o1, none⟩) nn c1, .string y] (wr.drewN n) fun e w'' => e = .returned (.int .i64 (i : Int)) ∧ wr.drewN n = w'' from
          (find_any _ nn c1 (bs ns) y (wr.drewN n) (StrsB.drewN S1r.out n)).mono fun e w'' ⟨he, hb⟩ => ⟨by rw [he, tx_bs, HY.out, I.fnd_srt HSR.out (by rw [HNN.out]; exact hlt)], hb⟩)
        obtain ⟨q, hq, hq2, _⟩ := I.fnd_mem HYM.out
        have F1 := Lib.hid (fun (n : Nat) => show Calls Try.prog 25 #[.slice a0 len0 cap0, .string y] (wr.drewN n) fun e w'' => e = .returned (.int .i64 (q : Int)) ∧ wr.drewN n = w'' from
          (find_any a0 len0 cap0 z0 y (wr.drewN n) (StrsB.drewN S0r.out n)).mono fun e w'' ⟨he, hb⟩ => ⟨by rw [he, hq2], hb⟩)
        clear hy hq hq2
        have q1 : (0 : Int) ≤ (q : Int) := by omega
        have d2 : decide ((q : Int) < 0) = false := by simp
        by_cases hz : i = 0
        · subst hz
          rw [Nat.add_zero] at hcell
          go_wp2
          go_quiet ((go_at_call 25; (first | (with_reducible refine (F1.out _).mono ?_) | (with_reducible refine (F2.out _).mono ?_)); rintro e w' ⟨rfl, rfl⟩; exact ⟨rfl, _, rfl⟩))
          go_wp2
          go_roundw
          case rel => exact ⟨1, by omega, by go_num, Lib.hid (StrsB.drewN S0r.out _), Lib.hid (StrsB.drewN S1r.out _), Lib.hid (below_dn B1r.out _)⟩
          case measure => simp [intOf]; omega
        · obtain ⟨j, rfl⟩ : ∃ j, i = j + 1 := ⟨i - 1, by omega⟩
          obtain ⟨b1', o1', e1', x, hx, _, _, hcx⟩ := StrsB.str S1r.out (k := j) (by omega)
          injection e1' with e1'
          injection e1' with e2' e3'
          subst e2' e3'
          have hls : Op.bytesLess x.toList y.toList = true := by
            rw [less_tx, decide_eq_true_iff, HY.out, hx, ← tx_get (by unfold bs; rw [List.length_map, HNN.out]; omega), tx_bs]
            exact I.srt_lt HSR.out (by omega) (by rw [HNN.out]; exact hlt)
          clear hx
          go_wp2
          go_quiet ((go_at_call 25; (first | (with_reducible refine (F1.out _).mono ?_) | (with_reducible refine (F2.out _).mono ?_)); rintro e w' ⟨rfl, rfl⟩; exact ⟨rfl, _, rfl⟩))
          go_wp2
          go_roundw
          case rel => exact ⟨j + 1 + 1, by omega, by go_num, Lib.hid (StrsB.drewN S0r.out _), Lib.hid (StrsB.drewN S1r.out _), Lib.hid (below_dn B1r.out _)⟩
          case measure => simp [intOf]; omega
      · have hin : i = nn := by omega
        subst hin
        obtain ⟨wo, rfl⟩ : ∃ wo : World, wo = wr := ⟨_, rfl⟩
        go_wp2
        go_loopw [7, 8, 9] (fun v q _ wq => ∃ (u n : Nat) (ms : List I.Txt), u ≤ len0 ∧ q = .int .i64 u ∧ Hid (n = 2 * u) ∧ Hid (wq.ownsRow wo.heap.size 9 1 v n (ms.map encStr)) ∧ Hid (Gat z0 u ms) ∧ Hid (Below wo.heap.size wo wq)) (fun _ q _ _ => len0 - (intOf q).toNat)
        case atStart => exact ⟨0, 0, [], Nat.zero_le _, rfl, Lib.hid rfl, Lib.hid (World.ownsRow_nil _ _ _ _), Lib.hid ⟨rfl, by simp, by simp [tx]⟩, Lib.hid (Below.refl _ _)⟩
        case round =>
          obtain ⟨u, n, ms, hu, rfl, hn2, HR, HG, BB⟩ := hrel
          have T0 := Lib.hid (StrsB.below S0r.out BB.out (Nat.le_refl _))
          have T1 := Lib.hid (Strs.below S1r.out BB.out)
          by_cases hlt2 : u < len0
          · obtain ⟨b, o, rfl, y, hy, hys, hbl, hcell⟩ := StrsB.str T0.out hlt2
            have HYZ := Lib.hid hy
            have hym : y.data.toList ∈ ns := by rw [HME.out]; exact tx_mem (by rw [HL.out]; exact hlt2) hy
            obtain ⟨k, hk1, hk2, hk3⟩ := I.fnd_mem hym
            rw [HNN.out] at hk1
            have F3 := Lib.hid (show Calls Try.prog 25 #[.slice A1 i c1, .string y] wr fun e w'' => e = .returned (.int .i64 (k : Int)) ∧ wr = w'' from (find_any A1 i c1 (bs ns) y wr T1.out).mono fun e w'' ⟨he, hb⟩ => ⟨by rw [he, tx_bs, hk2], hb⟩)
            obtain ⟨b2, o2, rfl, x, hx, _, _, hcx⟩ := StrsB.str T1.out (k := k) hk1
            have heq : (x.toList == y.toList) = true := by rw [beq_tx, decide_eq_true_iff, hx, ← tx_get (by unfold bs; rw [List.length_map, HNN.out]; exact hk1), tx_bs]; exact hk3
            have g1 : decide ((k : Int) < 0) = false := by simp
            have g2 : decide ((i : Int) ≤ (k : Int)) = false := by simp; omega
            have hki : (k : Int) < (i : Int) := by omega
            have hk0 : (0 : Int) ≤ (k : Int) := by omega
            have w1 : IntKind.i64.wrap ((len0 : Int) - 1) = (len0 : Int) - 1 := IntWalk.i64_in _ (by omega)
            have w2' : IntKind.i64.wrap ((len0 : Int) - 1 - (u : Int)) = (len0 : Int) - 1 - (u : Int) := IntWalk.i64_in _ (by omega)
            have w3 : IntKind.i64.wrap a1 = a1 := IntWalk.i64_in _ (by omega)
            obtain ⟨p, hp⟩ : ∃ p : Int, (len0 : Int) - 1 - (u : Int) + a1 = p := ⟨_, rfl⟩
            have w4 : IntKind.i64.wrap ((len0 : Int) - 1 - (u : Int) + a1) = p := by rw [IntWalk.i64_in _ (by omega), hp]
            have hp0 : 0 ≤ p := by omega
            obtain ⟨j, hj⟩ : ∃ j : Nat, p % len0 = (j : Int) := ⟨(p % len0).toNat, by
              have := Int.emod_nonneg p (show (len0 : Int) ≠ 0 by omega); omega⟩
            have hjl : j < len0 := by have := Int.emod_lt_of_pos p (show (0 : Int) < len0 by omega); omega
            have w5 : p.tmod (len0 : Int) = (j : Int) := by rw [Int.tmod_eq_emod_of_nonneg hp0, hj]
            have e0 : ((len0 : Int) == 0) = false := beq_eq_false_iff_ne.2 (by omega)
            have e00 : ¬ (len0 : Int) = 0 := by omega
            have n0 : ¬ len0 = 0 := by omega
            have hrem : Op.intDiv .rem .i64 p (len0 : Int) = pure (.int .i64 (j : Int)) := by unfold Op.intDiv; rw [if_neg e00]; simp only [w5]
            have j0 : (0 : Int) ≤ (j : Int) := by omega
            have j1 : (j : Int) < (len0 : Int) := by omega
            have u0 : (0 : Int) ≤ (u : Int) := by omega
            have u1 : (u : Int) < (len0 : Int) := by omega
            have HP := Lib.hid hp
            clear hp
            obtain ⟨b3, o3, e3, t, ht, _, _, hct⟩ := StrsB.str T0.out (k := j) hjl
            injection e3 with e3
            injection e3 with e3 e4
            subst e3 e4
            have HTZ := Lib.hid ht
            have HJ := Lib.hid hj
            clear hy hym hk2 hk3 hx ht
            go_wp2_with (go_at_call 25; refine F3.out.mono ?_; rintro e w' ⟨rfl, rfl⟩)
            go_quiet (fail)
            go_wp2
            have HBs := Lib.hid BB.out.size
            have hrow := HR.out
            have hnle : n ≤ 120 := by have := hn2.out; omega
            obtain ⟨i0, hi0, hz0, hz1, hz2⟩ := info_parts info9
            have HI := Lib.hid (And.intro hi0 (And.intro hz0 (And.intro hz1 hz2)))
            have ab := row_low hrow hbl
            have hbw : b < wr.heap.size := Nat.lt_of_lt_of_le hbl BB.out.size
            have HRW := Lib.hid hrow
            clear hi0 hz0 hz1 hz2 hrow
            go_region_held3 (fun w' => w'.cell? ⟨b, o + j, none⟩ = some (.string t) ∧ w'.cell? ⟨b, o + u, none⟩ = some (.string y)) (first | exact ⟨kj, ku⟩ | go_keep)
              ((refine step_append_lies _ (by rfl) _ _ _ (by rfl) wo.heap.size 9 i0 _ 1 16 info30 HI.out.1 HI.out.2.1 HI.out.2.2.1 HI.out.2.2.2 rfl (by omega) _ n (ms.map encStr) (by rfl) (World.ownsRow.drew (World.ownsRow.alloc (w := wr.drewN _) HRW.out _)) ⟨wr.heap.size, 0, none⟩ 2 2 [.string t, .string y] (by rfl) (by rfl) (World.news_of_block (cs := #[.string t, .string y]) (t := 9) (fr := (0, 0)) (heap_alloc_new (wr.drewN _) _)) (by simp [Value.oneCell']) (by omega) (by unfold maxLen; omega) (by omega) (by have := HBs.out; simp; omega) (wr.heap.size + 1) (by simp) ?_; intro gg cap2 w3 hown3 hgrow hat hlt3; have hbX : Below wo.heap.size wr w3 := (by exact grown_x HBs.out HRW.out hgrow); have kj : w3.cell? ⟨b, o + j, none⟩ = some (.string t) := (by rw [← hct]; exact hbX.cell hbl); have ku : w3.cell? ⟨b, o + u, none⟩ = some (.string y) := (by rw [← hcell]; exact hbX.cell hbl); have HX := Lib.hid hbX; have HO3 := Lib.hid hown3; clear hbX hown3 hgrow hat))
            go_wp2
            go_roundw
            case rel => exact ⟨u + 1, n + 2, ms ++ [t.data.toList, y.data.toList], by omega, by go_num, Lib.hid (by have := hn2.out; omega), Lib.hid (by rw [List.map_append]; exact HO3.out), Lib.hid (gat_step HG.out (by rw [HL.out]; exact hlt2) (by rw [HL.out]; exact hjl) HTZ.out HYZ.out), Lib.hid (BB.out.trans HX.out)⟩
            case measure => simp [intOf]; omega
          · have hue : u = len0 := by omega
            subst hue
            have hms : ms.length = n := by rw [HG.out.1, hn2.out]
            have hnle : n ≤ 120 := by have := hn2.out; omega
            have HNM := Lib.hid (gat_end HG.out HL.out)
            obtain ⟨A2, c2, rfl, hc2, _, hsm⟩ := own_strs HR.out (gat_fit HG.out HFt.out) (by omega)
            have BW := Lib.hid (B1r.out.trans (BB.out.mono B1r.out.size))
            have SM := Lib.hid hsm
            have D1 := Lib.hid (show Calls Try.prog 23 #[.slice A2 n c2] wr fun e w' => ∃ A c, e = .returned (.slice A i c) ∧ i ≤ c ∧ Strs w' A i (bs ns) ∧ Below wr.heap.size wr w' from by
              have h0 := names_any A2 n c2 (bs ms) wr hsm hc2 (by omega)
              rw [tx_bs, HNM.out, HNS.out] at h0
              refine h0.mono ?_
              rintro e w' ⟨A, c, h1, h2, h3, h4⟩
              rw [HNN.out] at h1 h2 h3
              exact ⟨A, c, h1, h2, h3, h4⟩)
            have D2 := Lib.hid (fun (w5 : World) (hs5 : Strs w5 A1 i (bs ns)) => show Calls Try.prog 23 #[.slice A1 i c1] w5 fun e w' => ∃ A c, e = .returned (.slice A i c) ∧ i ≤ c ∧ Strs w' A i (bs ns) ∧ Below w5.heap.size w5 w' from by
              have h0 := names_any A1 i c1 (bs ns) w5 hs5 hc1 (by omega)
              rw [tx_bs, ← HNS.out, I.nm_nm, HNS.out] at h0
              refine h0.mono ?_
              rintro e w' ⟨A, c, h1, h2, h3, h4⟩
              rw [HNN.out] at h1 h2 h3
              exact ⟨A, c, h1, h2, h3, h4⟩)
            clear hsm hms
            go_wp2_with fail
            refine D1.out.mono ?_
            rintro e w4 ⟨A3, c3, rfl, hc3, hs3, hb3⟩
            have S3 := Lib.hid hs3
            have B3 := Lib.hid (BW.out.trans (hb3.mono BW.out.size))
            have T2 := Lib.hid (Strs.below T1.out hb3)
            clear hs3 hb3 hc3
            go_wp2_with fail
            refine (same_any A3 i c3 (bs ns) A1 i c1 (bs ns) _ S3.out T2.out).mono ?_
            rintro e w5 ⟨rfl, hb4⟩
            rw [decide_eq_true rfl]
            have B4 := Lib.hid (B3.out.trans (hb4.mono B3.out.size))
            have T3 := Lib.hid (Strs.below T2.out hb4)
            clear hb4
            go_wp2_with fail
            refine (D2.out _ T3.out).mono ?_
            rintro e w6 ⟨A4, c4, rfl, hc4, hs4, hb5⟩
            have S4 := Lib.hid hs4
            have B5 := Lib.hid (B4.out.trans (hb5.mono B4.out.size))
            have T4 := Lib.hid (Strs.below T3.out hb5)
            clear hs4 hb5 hc4
            go_wp2_with fail
            refine (same_any A4 i c4 (bs ns) A1 i c1 (bs ns) _ S4.out T4.out).mono ?_
            rintro e w7 ⟨rfl, hb6⟩
            rw [decide_eq_true rfl]
            have B6 := Lib.hid (B5.out.trans (hb6.mono B5.out.size))
            clear hb6
            go_wp2_with fail
            refine (awake_any _).mono ?_
            rintro e w8 ⟨rfl, hb7⟩
            have B7 := Lib.hid (B6.out.trans (hb7.mono B6.out.size))
            clear hb7
            go_wp2_with fail
            go_ret
            exact ⟨rfl, B7.out⟩

set_option maxRecDepth 100000 in
theorem lifted (os : Os) (started : os.Started) (H : Type) (enc : TypeId × Value → H) :
    ReturnsInHanded {} Try.checked os 8 .any (Rows.idsSetsSpec.pre6 enc Try.prog Try.f8 Rows.idsSetsRow.domain false) (Rows.idsSetsSpec.post enc Try.prog Try.f8 false true false false) := by
  refine returnsInHanded_of_change (C := Try.checked) own started (by kernel_rfl) Try.func8
    (ChangeSpec.witness6 (enc := enc) (C := Try.checked) false ⟨#[], #[.slice none 0 0, .int .u8 0], []⟩ 8 (by kernel_rfl) (by kernel_rfl) (by kernel_rfl) (by kernel_rfl)) ?_
  intro W base args ds gs before hval0 hW hcnd _
  have hval : ∀ (j : Nat) t v, Try.f8.params[j]? = some t → args[j]? = some v → Value.okWide Try.prog W .any base t v := hval0
  have hW' := hW
  obtain ⟨p, q, hA0, hV, rfl, hfz, hnd⟩ := hW
  have hA : DataW.TrodAll enc Try.prog W 0 (fun _ => true) true Try.f8.params.toList args.toList ds p := hA0
  rw [Try.params8] at hA hval
  obtain ⟨v0, vs0, d0, ds0, p0, q0, hargs, rfl, rfl, h0, r0⟩ := trodAll_cons hA
  obtain ⟨v1, vs1, d1, ds1, p1, q1, rfl, rfl, rfl, h1, r1⟩ := trodAll_cons r0
  obtain ⟨rfl, rfl, rfl⟩ := trodAll_nil r1
  obtain rfl : args = #[v0, v1] := by cases args; simp_all
  obtain ⟨rfl, rfl⟩ := trodVars_none hV
  obtain ⟨a0, len0, cap0, rfl⟩ := okWide_slice Try.underlying30 (hval 0 30 v0 rfl rfl)
  have k0 := h0
  have lt0 : ∀ x ∈ p0, x.block < W.heap.size := by obtain ⟨m, hm⟩ := k0; exact DataW.trod_lt m _ _ _ hm
  obtain ⟨z0, w0, v0⟩ : ∃ zs, Strs W a0 len0 zs ∧ len0 ≤ cap0 ∧ (a0 = none → len0 = 0 ∧ cap0 = 0) := by
    obtain ⟨fuel, hf⟩ := h0
    rcases open_strings Try.underlying30 Try.underlying9 (by kernel_rfl) hf with ⟨hcs, _⟩ | ⟨x, l, c, zs, hcs, _, hl, hm, hz, _, hcell, hwz⟩
    · simp [Value.cells] at hcs
      obtain ⟨rfl, rfl, rfl⟩ := hcs
      exact ⟨[], ⟨rfl, by omega, by simp, by omega⟩, Nat.le_refl _, fun _ => ⟨rfl, rfl⟩⟩
    · simp [Value.cells] at hcs
      obtain ⟨rfl, rfl, rfl⟩ := hcs
      exact ⟨zs.take len0, strs_of_row hl hm (by simpa using hz) hcell hwz, hl, fun h => by cases h⟩
  obtain ⟨a1, rfl, rfl, rfl, w1⟩ := open_int Try.underlying5 (hval 1 5 v1 rfl rfl) h1
  clear hA0 hval0
  refine (walk a0 len0 cap0 z0 a1 W w0 v0 w1).mono fun e W' ⟨he, bel⟩ => ?_
  subst he
  exact ⟨_, rfl, _, _, _, [], _, [], hW', trodAll_mk1 (shut_bool Try.underlying4 _), (trodAll_cons_mk (Below.trod laidOut (by kernel_rfl) (of_decide_eq_true (by kernel_rfl)) k0 bel lt0) (trodAll_cons_mk (shut_int Try.underlying5 w1) trodAll_mk0)), rfl, bel.frame _, fun h => by cases h⟩

theorem over : Rows.idsSetsRow.holds Try.pinned (OpenSpec.ofChange Rows.idsSetsSpec) :=
  OpenClaim.holds_of_wide 8 Try.f8 rfl rfl rfl rfl rfl rfl rfl ⟨rfl, rfl, rfl, rfl, rfl⟩ rfl rfl rfl rfl rfl (by kernel_rfl) Try.func8 (by kernel_rfl)
    (of_decide_eq_true (by kernel_rfl)) (by unfold Func.isWrapper; first | (rw [if_pos (by decide +kernel)]; kernel_rfl) | (rw [if_neg (by decide +kernel)]; exact ⟨rfl, rfl⟩))
    (fun os started H enc _ => lifted os started H enc)

theorem proved : Rows.IdsSetsSaid := over
#print axioms proved
end Go.Proofs.Ytgiamnbnlececaa.idsSets
