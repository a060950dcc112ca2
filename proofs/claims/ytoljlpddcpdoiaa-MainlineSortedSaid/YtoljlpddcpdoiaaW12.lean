/- The mainline: the reference's Of. Bound: at most 900000 events. -/
import Derived.Test.YtoljlpddcpdoiaaW11
namespace Go.Proofs.Ytoljlpddcpdoiaa
open Go Go.RowKit Go.Maps
set_option linter.unusedVariables false
set_option linter.unusedSimpArgs false

theorem int_src (w : World) (x : Int) : Src (w.alloc (.cells #[.int .i64 x] 3)) (some ⟨w.heap.size, 0, none⟩) 1 1 1 [.int .i64 x] :=
  ⟨rfl, (fun e => by cases e), .inr ⟨w.heap.size, 0, rfl, by simp, fun j u hu => by rw [Nat.zero_add]; exact (blk_new w [.int .i64 x] 3).cell hu⟩, by simp [Value.oneCell']⟩
theorem ints_own {w w' : World} {v : Value} {zs : List Int} {n : Nat} (ho : w'.ownsRow w.heap.size 3 1 v n (zs.map (Value.int .i64))) (hl : zs.length = n) (hm : n ≤ 1000000) (wf : ∀ z ∈ zs, i64B z) (hb : Below w.heap.size w w') : IntsP w zs (.returned v) w' := by
  subst hl
  obtain ⟨A', c', rfl, hi, ha⟩ := its_own ho rfl hm wf
  exact ⟨A', c', rfl, hi, hb, ha⟩
theorem On.end_ {E : Nat → Me} {n : Nat} {id cur : Int} {pre : List Int} (h : On E n id pre (some cur)) (hl : pre.length = n) : wayL E n id = pre := by
  refine h.stop fun c hc => ?_
  cases hc
  cases hk : known E n cur
  · exact .inl rfl
  · refine .inr (Classical.byContradiction fun hs => ?_)
    have := (h.step hk hs).len
    rw [List.length_append, List.length_singleton] at this
    omega
set_option maxRecDepth 100000 in
set_option maxHeartbeats 8000000 in
theorem rof12 (A : Option Addr) (n c : Nat) (E : Nat → Me) (id : Int) (w : World) (h : Evm w A n E) (hn : n ≤ 900000) (hw : i64B id) : Calls Try.prog 12 #[.slice A n c, .int .i64 id] w (IntsP w (wayL E n id)) := by
  have H := Lib.hid h
  have HWf := Lib.hid (way_wf h hw)
  have HG0 := Lib.hid (fun x v (hb : Below w.heap.size w v) => get17 A n c E x v (h.below hb) hn)
  have HPw1 := Lib.hid (fun j (hj : j < n) v (hb : Below w.heap.size w v) => rpower23 A n c E j v (h.below hb) hn hj)
  obtain ⟨i0, hi, hz0, hz1, hz2⟩ := info_parts info3
  have HI := Lib.hid (And.intro hi (And.intro hz0 (And.intro hz1 hz2)))
  clear h hi hz0 hz1 hz2
  unfold GetP at HG0
  go_enter Try.func12, Try.ntmps12
  go_wp2
  go_loopg [5, 6, 7, 8, 9, 10, 11] n (fun gg s5 s6 s7 _ _ _ _ wr => ∃ (pre : List Int) (idv : Int) (v : Value), pre.length ≤ n ∧ n - pre.length ≤ gg ∧ v = s5 ∧ s6 = .int .i64 idv ∧ s7 = .int .i64 (pre.length : Int) ∧ Hid (On E n id pre (some idv)) ∧ Hid (wr.ownsRow w.heap.size 3 1 v pre.length (pre.map (Value.int .i64))) ∧ Hid (Below w.heap.size w wr))
  case atStart => exact ⟨[], id, .slice (some ⟨w.heap.size, 0, none⟩) 0 0, Nat.zero_le _, by simp, rfl, rfl, rfl, Lib.hid (On.start E n id), Lib.hid (World.ownsRow_made (base := w.heap.size) (e := 3) (size := 1) w #[] 0 (Nat.le_refl _) (by decide) (by simp)), Lib.hid ((Below.refl _ _).alloc (Nat.le_refl _) _)⟩
  case round =>
    obtain ⟨pre, idv, v, hpl, hg, rfl, rfl, rfl, HOn, HO, BW⟩ := hrel
    have HPn := Lib.hid (show pre.length ≤ 1000000 by omega)
    have HWp := Lib.hid (show ∀ z ∈ pre, i64B z from fun z hz => HWf.out z (HOn.out.pre.subset hz))
    by_cases hlt : pre.length < n
    · have hltz : (pre.length : Int) < (n : Int) := by omega
      obtain ⟨A', c', rfl, hT, _⟩ := its_own HO.out rfl HPn.out HWp.out
      have HT := Lib.hid hT
      have HG := Lib.hid (fun v hb => HG0.out idv v hb)
      clear hT
      cases hp : plc E n idv with
      | none =>
        have HW := Lib.hid (On.stop HOn.out (fun c hc => by cases hc; exact .inl (by unfold known; rw [hp]; rfl)))
        rw [hp] at HG
        clear hp
        go_wp2_with (first
          | (go_at_call 17; (with_reducible refine (HG.out _ BW.out).mono ?_); rintro e w1 ⟨cs', rfl, hl', ho', hq', hb⟩; have HL' := Lib.hid hl'; have HO' := Lib.hid ho'; have D1 := Lib.hid hb; have B1 := Lib.hid (BW.out.trans (hb.mono BW.out.size));  clear hb hl' ho' hq')
          | (refine store_mid_as rfl 44 _ _ rfl w1.heap.size 0 cs'.toArray rfl rfl (show World.there (w1.alloc (.cells #[.int .i64 0, .string ⟨#[]⟩, .string ⟨#[]⟩, .int .i64 0, .bool false, .string ⟨#[]⟩, .int .i64 0, .int .i64 0, .slice none 0 0, .slice none 0 0, .string ⟨#[]⟩, .int .i64 0, .int .i64 0, .bool false, .string ⟨#[]⟩, .slice none 0 0, .slice none 0 0, .slice none 0 0, .slice none 0 0, .int .i64 0, .int .i64 0, .int .i64 0, .int .i64 0, .int .i64 0, .int .i64 0, .int .i64 0, .int .i64 0, .string ⟨#[]⟩, .int .i64 0] 44)) w1.heap.size 0 _ from (show Blk (w1.alloc (.cells #[.int .i64 0, .string ⟨#[]⟩, .string ⟨#[]⟩, .int .i64 0, .bool false, .string ⟨#[]⟩, .int .i64 0, .int .i64 0, .slice none 0 0, .slice none 0 0, .string ⟨#[]⟩, .int .i64 0, .int .i64 0, .bool false, .string ⟨#[]⟩, .slice none 0 0, .slice none 0 0, .slice none 0 0, .slice none 0 0, .int .i64 0, .int .i64 0, .int .i64 0, .int .i64 0, .int .i64 0, .int .i64 0, .int .i64 0, .int .i64 0, .string ⟨#[]⟩, .int .i64 0] 44)) w1.heap.size zE 44 from blk_new w1 zE 44).there (by rw [List.size_toArray, HL'.out]; decide)) (size44a HL'.out) (all_arr HO'.out) ?_; intro w3 e3; have B3 := Lib.hid (show Below w.heap.size w w3 by rw [e3]; exact below_setRow (B1.out.alloc B1.out.size _) B1.out.size _ _); have D3 := Lib.hid (show Below wr.heap.size wr w3 by rw [e3]; exact below_setRow (D1.out.alloc D1.out.size _) D1.out.size _ _); have X7 := Lib.hid (show Blk w3 w1.heap.size cs' 44 by rw [e3]; exact (show Blk (w1.alloc (.cells #[.int .i64 0, .string ⟨#[]⟩, .string ⟨#[]⟩, .int .i64 0, .bool false, .string ⟨#[]⟩, .int .i64 0, .int .i64 0, .slice none 0 0, .slice none 0 0, .string ⟨#[]⟩, .int .i64 0, .int .i64 0, .bool false, .string ⟨#[]⟩, .slice none 0 0, .slice none 0 0, .slice none 0 0, .slice none 0 0, .int .i64 0, .int .i64 0, .int .i64 0, .int .i64 0, .int .i64 0, .int .i64 0, .int .i64 0, .int .i64 0, .string ⟨#[]⟩, .int .i64 0] 44)) w1.heap.size zE 44 from blk_new w1 zE 44).setAll cs' HL'.out); clear e3)
          | go_in)
        go_ret
        rw [HW.out]
        exact ints_own (own_keep HO.out (fun b _ hl => D3.out.block b hl)) rfl HPn.out HWp.out B3.out
      | some i =>
        obtain ⟨i', rfl, hi', _⟩ := plc_lt hp
        have HK := Lib.hid (show known E n idv = true by unfold known; rw [hp]; rfl)
        have HNx := Lib.hid (show nxt E n idv = pow E n i' by unfold nxt; rw [hp]; rfl)
        have HPw0 := Lib.hid (fun v hb => HPw1.out i' hi' v hb)
        rw [hp] at HG
        clear hp
        generalize hpo : pow E n i' = po at HPw0 HNx
        have HPo := Lib.hid hpo
        clear hpo
        by_cases hin : idv ∈ pre
        · have HW := Lib.hid (On.stop HOn.out (fun c hc => by cases hc; exact .inr hin))
          go_wp2_with (first
            | (go_at_call 17; (with_reducible refine (HG.out _ BW.out).mono ?_); rintro e w1 ⟨cs', rfl, hl', ho', hq', hb⟩; have HL' := Lib.hid hl'; have HO' := Lib.hid ho'; have D1 := Lib.hid hb; have B1 := Lib.hid (BW.out.trans (hb.mono BW.out.size)); have HPw := Lib.hid (fun v (hb : Below w.heap.size w v) => show Calls Try.prog 23 #[.slice A n c, .agg cs'.toArray] v (PowP v (po)) by rw [hq' i' rfl]; exact HPw0.out v hb); unfold PowP at HPw; clear hb hl' ho' hq')
            | (refine store_mid_as rfl 44 _ _ rfl w1.heap.size 0 cs'.toArray rfl rfl (show World.there (w1.alloc (.cells #[.int .i64 0, .string ⟨#[]⟩, .string ⟨#[]⟩, .int .i64 0, .bool false, .string ⟨#[]⟩, .int .i64 0, .int .i64 0, .slice none 0 0, .slice none 0 0, .string ⟨#[]⟩, .int .i64 0, .int .i64 0, .bool false, .string ⟨#[]⟩, .slice none 0 0, .slice none 0 0, .slice none 0 0, .slice none 0 0, .int .i64 0, .int .i64 0, .int .i64 0, .int .i64 0, .int .i64 0, .int .i64 0, .int .i64 0, .int .i64 0, .string ⟨#[]⟩, .int .i64 0] 44)) w1.heap.size 0 _ from (show Blk (w1.alloc (.cells #[.int .i64 0, .string ⟨#[]⟩, .string ⟨#[]⟩, .int .i64 0, .bool false, .string ⟨#[]⟩, .int .i64 0, .int .i64 0, .slice none 0 0, .slice none 0 0, .string ⟨#[]⟩, .int .i64 0, .int .i64 0, .bool false, .string ⟨#[]⟩, .slice none 0 0, .slice none 0 0, .slice none 0 0, .slice none 0 0, .int .i64 0, .int .i64 0, .int .i64 0, .int .i64 0, .int .i64 0, .int .i64 0, .int .i64 0, .int .i64 0, .string ⟨#[]⟩, .int .i64 0] 44)) w1.heap.size zE 44 from blk_new w1 zE 44).there (by rw [List.size_toArray, HL'.out]; decide)) (size44a HL'.out) (all_arr HO'.out) ?_; intro w3 e3; have B3 := Lib.hid (show Below w.heap.size w w3 by rw [e3]; exact below_setRow (B1.out.alloc B1.out.size _) B1.out.size _ _); have D3 := Lib.hid (show Below wr.heap.size wr w3 by rw [e3]; exact below_setRow (D1.out.alloc D1.out.size _) D1.out.size _ _); have X7 := Lib.hid (show Blk w3 w1.heap.size cs' 44 by rw [e3]; exact (show Blk (w1.alloc (.cells #[.int .i64 0, .string ⟨#[]⟩, .string ⟨#[]⟩, .int .i64 0, .bool false, .string ⟨#[]⟩, .int .i64 0, .int .i64 0, .slice none 0 0, .slice none 0 0, .string ⟨#[]⟩, .int .i64 0, .int .i64 0, .bool false, .string ⟨#[]⟩, .slice none 0 0, .slice none 0 0, .slice none 0 0, .slice none 0 0, .int .i64 0, .int .i64 0, .int .i64 0, .int .i64 0, .int .i64 0, .int .i64 0, .int .i64 0, .int .i64 0, .string ⟨#[]⟩, .int .i64 0] 44)) w1.heap.size zE 44 from blk_new w1 zE 44).setAll cs' HL'.out); clear e3)
            | (go_at_call 18; (with_reducible refine (has18 A' pre.length c' pre idv _ (HT.out.below D3.out) HPn.out).mono ?_); rintro e w4 ⟨rfl, rfl⟩)
            | go_in)
          go_ret
          rw [HW.out]
          exact ints_own (own_keep HO.out (fun b _ hl => D3.out.block b hl)) rfl HPn.out HWp.out B3.out
        · have HSt := Lib.hid (HOn.out.step HK.out hin)
          rw [HNx.out] at HSt
          cases po with
          | none =>
            have HW := Lib.hid (On.stop HSt.out (fun c hc => by cases hc))
            go_wp2_with (first
              | (go_at_call 17; (with_reducible refine (HG.out _ BW.out).mono ?_); rintro e w1 ⟨cs', rfl, hl', ho', hq', hb⟩; have HL' := Lib.hid hl'; have HO' := Lib.hid ho'; have D1 := Lib.hid hb; have B1 := Lib.hid (BW.out.trans (hb.mono BW.out.size)); have HPw := Lib.hid (fun v (hb : Below w.heap.size w v) => show Calls Try.prog 23 #[.slice A n c, .agg cs'.toArray] v (PowP v (none)) by rw [hq' i' rfl]; exact HPw0.out v hb); unfold PowP at HPw; clear hb hl' ho' hq')
              | (refine store_mid_as rfl 44 _ _ rfl w1.heap.size 0 cs'.toArray rfl rfl (show World.there (w1.alloc (.cells #[.int .i64 0, .string ⟨#[]⟩, .string ⟨#[]⟩, .int .i64 0, .bool false, .string ⟨#[]⟩, .int .i64 0, .int .i64 0, .slice none 0 0, .slice none 0 0, .string ⟨#[]⟩, .int .i64 0, .int .i64 0, .bool false, .string ⟨#[]⟩, .slice none 0 0, .slice none 0 0, .slice none 0 0, .slice none 0 0, .int .i64 0, .int .i64 0, .int .i64 0, .int .i64 0, .int .i64 0, .int .i64 0, .int .i64 0, .int .i64 0, .string ⟨#[]⟩, .int .i64 0] 44)) w1.heap.size 0 _ from (show Blk (w1.alloc (.cells #[.int .i64 0, .string ⟨#[]⟩, .string ⟨#[]⟩, .int .i64 0, .bool false, .string ⟨#[]⟩, .int .i64 0, .int .i64 0, .slice none 0 0, .slice none 0 0, .string ⟨#[]⟩, .int .i64 0, .int .i64 0, .bool false, .string ⟨#[]⟩, .slice none 0 0, .slice none 0 0, .slice none 0 0, .slice none 0 0, .int .i64 0, .int .i64 0, .int .i64 0, .int .i64 0, .int .i64 0, .int .i64 0, .int .i64 0, .int .i64 0, .string ⟨#[]⟩, .int .i64 0] 44)) w1.heap.size zE 44 from blk_new w1 zE 44).there (by rw [List.size_toArray, HL'.out]; decide)) (size44a HL'.out) (all_arr HO'.out) ?_; intro w3 e3; have B3 := Lib.hid (show Below w.heap.size w w3 by rw [e3]; exact below_setRow (B1.out.alloc B1.out.size _) B1.out.size _ _); have D3 := Lib.hid (show Below wr.heap.size wr w3 by rw [e3]; exact below_setRow (D1.out.alloc D1.out.size _) D1.out.size _ _); have X7 := Lib.hid (show Blk w3 w1.heap.size cs' 44 by rw [e3]; exact (show Blk (w1.alloc (.cells #[.int .i64 0, .string ⟨#[]⟩, .string ⟨#[]⟩, .int .i64 0, .bool false, .string ⟨#[]⟩, .int .i64 0, .int .i64 0, .slice none 0 0, .slice none 0 0, .string ⟨#[]⟩, .int .i64 0, .int .i64 0, .bool false, .string ⟨#[]⟩, .slice none 0 0, .slice none 0 0, .slice none 0 0, .slice none 0 0, .int .i64 0, .int .i64 0, .int .i64 0, .int .i64 0, .int .i64 0, .int .i64 0, .int .i64 0, .int .i64 0, .string ⟨#[]⟩, .int .i64 0] 44)) w1.heap.size zE 44 from blk_new w1 zE 44).setAll cs' HL'.out); clear e3)
              | (go_at_call 18; (with_reducible refine (has18 A' pre.length c' pre idv _ (HT.out.below D3.out) HPn.out).mono ?_); rintro e w4 ⟨rfl, rfl⟩)
              | (at_builtin; refine wpList_append_any _ rfl _ _ 26 rfl w.heap.size 3 i0 _ 1 8 Try.underlying26 HI.out.1 HI.out.2.1 HI.out.2.2.1 HI.out.2.2.2 rfl (by decide) (.slice A' pre.length c') pre.length (pre.map (Value.int .i64)) rfl (own_keep HO.out (fun b _ hl => (Below.heap_alloc _ _ _ (Nat.lt_of_lt_of_le hl D3.out.size)).trans (D3.out.block b hl))) (some ⟨w4.heap.size, 0, none⟩) 1 1 [.int .i64 idv] rfl (int_src w4 idv) (by have := HPn.out; unfold maxLen; omega) (by have := HPn.out; omega) (by have := B3.out.size; simp; omega) ?_; intro v5 w5 hgr; have B5 := Lib.hid (hgr.below (B3.out.alloc B3.out.size _) (own_keep HO.out (fun b _ hl => (Below.heap_alloc _ _ _ (Nat.lt_of_lt_of_le hl D3.out.size)).trans (D3.out.block b hl)))); have O5 := Lib.hid hgr.own; have X75 := Lib.hid (show Blk w5 w1.heap.size cs' 44 from ⟨(hgr.grow.block _ (by have := X7.out.lt; simp; omega) (fun e => by have h1 := (HO.out.lt _ e.symm).2; have h2 := D1.out.size; omega)).trans (X7.out.alloc _).heap⟩); clear hgr)
              | (refine wpList_load_mid rfl 44 _ rfl w1.heap.size 0 rfl cs' _ X75.out.range Try.underlying44 rfl (size44l HL'.out) ?_)
              | (go_at_call 23; (with_reducible refine (HPw.out _ B5.out).mono ?_); rintro e w6 ⟨rfl, hb⟩; have B6 := Lib.hid (B5.out.trans (hb.mono B5.out.size)); have O6 := Lib.hid (own_keep O5.out (fun b _ hl => hb.block b hl)); clear hb)
              | go_in)
            go_ret
            rw [HW.out]
            exact ints_own (zs := pre ++ [idv]) (n := pre.length + 1) (by rw [List.map_append]; exact O6.out) (by simp) (by have := HPn.out; omega) (fun z hz => HWf.out z (by rw [HW.out]; exact hz)) B6.out
          | some x =>
            go_wp2_with (first
              | (go_at_call 17; (with_reducible refine (HG.out _ BW.out).mono ?_); rintro e w1 ⟨cs', rfl, hl', ho', hq', hb⟩; have HL' := Lib.hid hl'; have HO' := Lib.hid ho'; have D1 := Lib.hid hb; have B1 := Lib.hid (BW.out.trans (hb.mono BW.out.size)); have HPw := Lib.hid (fun v (hb : Below w.heap.size w v) => show Calls Try.prog 23 #[.slice A n c, .agg cs'.toArray] v (PowP v (some x)) by rw [hq' i' rfl]; exact HPw0.out v hb); unfold PowP at HPw; clear hb hl' ho' hq')
              | (refine store_mid_as rfl 44 _ _ rfl w1.heap.size 0 cs'.toArray rfl rfl (show World.there (w1.alloc (.cells #[.int .i64 0, .string ⟨#[]⟩, .string ⟨#[]⟩, .int .i64 0, .bool false, .string ⟨#[]⟩, .int .i64 0, .int .i64 0, .slice none 0 0, .slice none 0 0, .string ⟨#[]⟩, .int .i64 0, .int .i64 0, .bool false, .string ⟨#[]⟩, .slice none 0 0, .slice none 0 0, .slice none 0 0, .slice none 0 0, .int .i64 0, .int .i64 0, .int .i64 0, .int .i64 0, .int .i64 0, .int .i64 0, .int .i64 0, .int .i64 0, .string ⟨#[]⟩, .int .i64 0] 44)) w1.heap.size 0 _ from (show Blk (w1.alloc (.cells #[.int .i64 0, .string ⟨#[]⟩, .string ⟨#[]⟩, .int .i64 0, .bool false, .string ⟨#[]⟩, .int .i64 0, .int .i64 0, .slice none 0 0, .slice none 0 0, .string ⟨#[]⟩, .int .i64 0, .int .i64 0, .bool false, .string ⟨#[]⟩, .slice none 0 0, .slice none 0 0, .slice none 0 0, .slice none 0 0, .int .i64 0, .int .i64 0, .int .i64 0, .int .i64 0, .int .i64 0, .int .i64 0, .int .i64 0, .int .i64 0, .string ⟨#[]⟩, .int .i64 0] 44)) w1.heap.size zE 44 from blk_new w1 zE 44).there (by rw [List.size_toArray, HL'.out]; decide)) (size44a HL'.out) (all_arr HO'.out) ?_; intro w3 e3; have B3 := Lib.hid (show Below w.heap.size w w3 by rw [e3]; exact below_setRow (B1.out.alloc B1.out.size _) B1.out.size _ _); have D3 := Lib.hid (show Below wr.heap.size wr w3 by rw [e3]; exact below_setRow (D1.out.alloc D1.out.size _) D1.out.size _ _); have X7 := Lib.hid (show Blk w3 w1.heap.size cs' 44 by rw [e3]; exact (show Blk (w1.alloc (.cells #[.int .i64 0, .string ⟨#[]⟩, .string ⟨#[]⟩, .int .i64 0, .bool false, .string ⟨#[]⟩, .int .i64 0, .int .i64 0, .slice none 0 0, .slice none 0 0, .string ⟨#[]⟩, .int .i64 0, .int .i64 0, .bool false, .string ⟨#[]⟩, .slice none 0 0, .slice none 0 0, .slice none 0 0, .slice none 0 0, .int .i64 0, .int .i64 0, .int .i64 0, .int .i64 0, .int .i64 0, .int .i64 0, .int .i64 0, .int .i64 0, .string ⟨#[]⟩, .int .i64 0] 44)) w1.heap.size zE 44 from blk_new w1 zE 44).setAll cs' HL'.out); clear e3)
              | (go_at_call 18; (with_reducible refine (has18 A' pre.length c' pre idv _ (HT.out.below D3.out) HPn.out).mono ?_); rintro e w4 ⟨rfl, rfl⟩)
              | (at_builtin; refine wpList_append_any _ rfl _ _ 26 rfl w.heap.size 3 i0 _ 1 8 Try.underlying26 HI.out.1 HI.out.2.1 HI.out.2.2.1 HI.out.2.2.2 rfl (by decide) (.slice A' pre.length c') pre.length (pre.map (Value.int .i64)) rfl (own_keep HO.out (fun b _ hl => (Below.heap_alloc _ _ _ (Nat.lt_of_lt_of_le hl D3.out.size)).trans (D3.out.block b hl))) (some ⟨w4.heap.size, 0, none⟩) 1 1 [.int .i64 idv] rfl (int_src w4 idv) (by have := HPn.out; unfold maxLen; omega) (by have := HPn.out; omega) (by have := B3.out.size; simp; omega) ?_; intro v5 w5 hgr; have B5 := Lib.hid (hgr.below (B3.out.alloc B3.out.size _) (own_keep HO.out (fun b _ hl => (Below.heap_alloc _ _ _ (Nat.lt_of_lt_of_le hl D3.out.size)).trans (D3.out.block b hl)))); have O5 := Lib.hid hgr.own; have X75 := Lib.hid (show Blk w5 w1.heap.size cs' 44 from ⟨(hgr.grow.block _ (by have := X7.out.lt; simp; omega) (fun e => by have h1 := (HO.out.lt _ e.symm).2; have h2 := D1.out.size; omega)).trans (X7.out.alloc _).heap⟩); clear hgr)
              | (refine wpList_load_mid rfl 44 _ rfl w1.heap.size 0 rfl cs' _ X75.out.range Try.underlying44 rfl (size44l HL'.out) ?_)
              | (go_at_call 23; (with_reducible refine (HPw.out _ B5.out).mono ?_); rintro e w6 ⟨rfl, hb⟩; have B6 := Lib.hid (B5.out.trans (hb.mono B5.out.size)); have O6 := Lib.hid (own_keep O5.out (fun b _ hl => hb.block b hl)); clear hb)
              | go_in)
            go_roundg (n - (pre ++ [idv]).length)
            case measure => rw [List.length_append, List.length_singleton]; omega
            case rel => exact ⟨pre ++ [idv], x, v5, by rw [List.length_append, List.length_singleton]; omega, Nat.le_refl _, rfl, rfl, by rw [List.length_append, List.length_singleton]; go_num, HSt, Lib.hid (by rw [List.length_append, List.length_singleton, List.map_append]; exact O6.out), B6⟩
    · have hltz : ¬ (pre.length : Int) < (n : Int) := by omega
      have HW := Lib.hid (HOn.out.end_ (by omega))
      go_wp2
      go_ret
      rw [HW.out]
      exact ints_own HO.out rfl HPn.out HWp.out BW.out
end Go.Proofs.Ytoljlpddcpdoiaa
