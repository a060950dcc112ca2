/- The mainline: the iterator's contract. Bound: at most 900000 events. -/
import Derived.Test.YtoljlpddcpdoiaaW5
import Derived.Deep.RegionHeld3
import Derived.TacticsIn
import Derived.BigFrameIn
namespace Go.Proofs.Ytoljlpddcpdoiaa
open Go Go.RowKit Go.Maps
set_option linter.unusedVariables false
set_option linter.unusedSimpArgs false

/-- The blocks that a round must leave to the iterator. -/
def SKeep (Mp c1 c2 c3 M k : Nat) : Prop := k = Mp ∨ k = c1 ∨ k = c2 ∨ k = c3 ∨ k = M
/-- What lies in the memory when the iterator begins. -/
structure Lies (W : World) (A : Option Addr) (n c : Nat) (E : Nat → Me) (Mp m c1 c2 c3 : Nat) (id : Int) : Prop where
  ev : Evm W A n E
  mp : MapI W Mp m (plc E n)
  b1 : Blk W c1 [.map (some Mp)] 53
  b2 : Blk W c2 [.int .i64 id] 3
  b3 : Blk W c3 [.slice A n c] 22
  n12 : c1 ≠ c2
  n32 : c3 ≠ c2
  nm2 : Mp ≠ c2
  wf : i64B id
/-- Where the way stands. -/
def Cur (E : Nat → Me) (n : Nat) (id : Int) (pre : List Int) (cur : Option Int) (idv : Int) : Prop := (cur = none ∧ wayL E n id = pre) ∨ (cur = some idv ∧ known E n idv = true ∧ On E n id pre (some idv))
/-- What lies in the memory between two rounds. -/
structure HI (nb : Nat) (w0 : World) (M : Nat) (A : Option Addr) (n c : Nat) (E : Nat → Me) (Mp m c1 c2 c3 : Nat) (idv : Int) (pre : List Int) (wr : World) : Prop where
  bel : Below nb w0 wr
  mp : MapI wr Mp m (plc E n)
  b1 : Blk wr c1 [.map (some Mp)] 53
  b2 : Blk wr c2 [.int .i64 idv] 3
  b3 : Blk wr c3 [.slice A n c] 22
  mj : ∃ mm, mm ≤ pre.length ∧ MapJ wr M mm (fun x => pre.contains x)
  wf : i64B idv
set_option maxRecDepth 100000 in
set_option maxHeartbeats 8000000 in
theorem way35 (nl nb : Nat) (A : Option Addr) (n c : Nat) (E : Nat → Me) (Mp m c1 c2 c3 : Nat) (id : Int) (w0 W : World) (H0 : Evm w0 A n E) (hnb : w0.heap.size = nb) (hb0 : Below nb w0 W) (hn : n ≤ 900000) (hc2 : nb ≤ c2) (HL : Lies W A n c E Mp m c1 c2 c3 id) :
    SeqT Fence.wide nl Try.prog 35 #[.pointer (some ⟨c1, 0, none⟩), .pointer (some ⟨c2, 0, none⟩), .pointer (some ⟨c3, 0, none⟩)] (fun x : Int => #[.int .i64 x]) (Tw c2 W.heap.size) (Kq nb (SKeep Mp c1 c2 c3 W.heap.size)) (fun l X => W.heap.size < X.heap.size ∧ l.length ≤ n ∧ l <+: wayL E n id) (fun xs => xs = wayL E n id) (fun pre => pre <+: wayL E n id) W := by
  intro l J Jx hJ hJx hY h0
  rw [callsIn_wide]
  have h1 := Lib.hid HL
  have h2 := Lib.hid h0
  have h3 := Lib.hid hY
  have h4 := Lib.hid hJ
  have h5 := Lib.hid H0
  have h6 := Lib.hid hb0
  clear HL h0 hY hJ H0 hb0
  have q1 := (h1.out.b1.alloc (.map #[] 0)).cell (i := 0) rfl
  have q2 := (h1.out.b2.alloc (.map #[] 0)).cell (i := 0) rfl
  have hask := (h1.out.mp.alloc (.map #[] 0)).ask h1.out.wf
  have hmm := @run_makeMap Try.prog
  go_enter Try.func35, Try.ntmps35
  go_wp2
  clear q1 q2 hask hmm
  go_loopg [6, 7] (n + 1) (fun gg s6 s7 wr => ∃ (pre : List Int) (cur : Option Int) (idv : Int), n + 1 - pre.length ≤ gg ∧ s6 = .int .i64 ((plc E n idv).getD 0) ∧ s7 = .bool cur.isSome ∧ Hid (Cur E n id pre cur idv) ∧ Hid (J pre wr) ∧ Hid (HI nb w0 W.heap.size A n c E Mp m c1 c2 c3 idv pre wr))
  case atStart =>
    refine ⟨[], if known E n id = true then some id else none, id, by simp, rfl, ?_, ?_, Lib.hid (h4.out _ _ _ h2.out (Tw.below ((Below.refl _ W).alloc (Nat.le_refl _) _))), Lib.hid ?_⟩
    · unfold known
      cases plc E n id <;> rfl
    · refine Lib.hid ?_
      cases hk : known E n id
      · exact .inl ⟨rfl, On.stop (On.start E n id) (fun c hc => by cases hc; exact .inl hk)⟩
      · exact .inr ⟨rfl, hk, On.start E n id⟩
    · exact ⟨h6.out.alloc (hnb ▸ h6.out.size) _, h1.out.mp.alloc _, h1.out.b1.alloc _, h1.out.b2.alloc _, h1.out.b3.alloc _, ⟨0, Nat.le_refl _, MapJ.made W⟩, h1.out.wf⟩
  case round =>
    obtain ⟨pre, cur, idv, hg, rfl, rfl, HC, HJ, HH⟩ := hrel
    rcases HC.out with ⟨rfl, hw⟩ | ⟨rfl, hk, hon⟩
    · have HW := Lib.hid hw
      clear hw HC
      go_wp2
      go_end0
      exact ⟨⟨_, rfl⟩, .inl ⟨pre, HW.out.symm, HJ.out⟩⟩
    · have HOn := Lib.hid hon
      have HK := Lib.hid hk
      clear hon hk HC
      have q2 := HH.out.b2.cell (i := 0) rfl
      have hlk := HH.out.mj.choose_spec.2.look HH.out.wf
      by_cases hin : pre.contains idv = true
      · rw [hin] at hlk
        have HIn := Lib.hid (show idv ∈ pre by simpa using hin)
        clear hin
        go_wp2
        go_end0
        exact ⟨⟨_, rfl⟩, .inl ⟨pre, (On.stop HOn.out (fun c hc => by cases hc; exact .inr HIn.out)).symm, HJ.out⟩⟩
      · rw [Bool.not_eq_true] at hin
        rw [hin] at hlk
        have HIn := Lib.hid (show idv ∉ pre by simpa using hin)
        clear hin
        go_upto_region 3 with (fail)
        obtain ⟨fn, tmps, assign, body, hy, hR⟩ := h3.out pre idv wr HJ.out ⟨HH.out.mj.choose_spec.2.lt, (On.step HOn.out HK.out HIn.out).len, (On.step HOn.out HK.out HIn.out).pre⟩
        refine (wpIn_wide (n := nl)).1 ?_
        gi_wp2
        refine ⟨fun h => (by cases h), hR.mono ?_⟩
        clear hy hlk q2
        rintro e W3 (⟨rfl, hJ3, hk3⟩ | ⟨rfl, hx3⟩)
        · have HJ3 := Lib.hid hJ3
          have HB3 := Lib.hid (HH.out.bel.trans hk3.bel)
          have E3 := Lib.hid (h5.out.keep hnb HB3.out)
          have M3 := Lib.hid (HH.out.mp.kept (hk3.same Mp (.inl rfl) HH.out.mp.lt))
          have C13 := Lib.hid (hk3.blk HH.out.b1 (.inr (.inl rfl)))
          have C23 := Lib.hid (hk3.blk HH.out.b2 (.inr (.inr (.inl rfl))))
          have C33 := Lib.hid (hk3.blk HH.out.b3 (.inr (.inr (.inr (.inl rfl)))))
          obtain ⟨mm, hmm1, hmj⟩ := HH.out.mj
          have hmm2 := Lib.hid hmm1
          have HMl := Lib.hid hmj.lt
          have J3 := Lib.hid (hmj.kept (hk3.same W.heap.size (.inr (.inr (.inr (.inr rfl)))) hmj.lt))
          have hwf := HH.out.wf
          have HL := HOn.out.len
          have hmm3 := Lib.hid (show mm < 1000000000 by have := hmm2.out; omega)
          have HMs := Lib.hid (show n + 1 - (pre ++ [idv]).length < gk by rw [List.length_append, List.length_singleton]; omega)
          have HD := Lib.hid (show Mp ≠ c2 ∧ W.heap.size ≠ c2 ∧ c1 ≠ c2 ∧ c3 ≠ c2 from ⟨h1.out.nm2, Nat.ne_of_gt h1.out.b2.lt, h1.out.n12, h1.out.n32⟩)
          have HD2 := Lib.hid (show Mp ≠ W.heap.size ∧ c1 ≠ W.heap.size ∧ c3 ≠ W.heap.size from ⟨Nat.ne_of_lt h1.out.mp.lt, Nat.ne_of_lt h1.out.b1.lt, Nat.ne_of_lt h1.out.b3.lt⟩)
          have HCt := Lib.hid (show ∀ x : Int, (if x = idv then true else pre.contains x) = (pre ++ [idv]).contains x from fun x => by
            by_cases e : x = idv
            · subst e; simp
            · rw [if_neg e, List.contains_append]; simp [e])
          clear hmj hJ3 hmm1
          obtain ⟨iv, hpl⟩ := Option.isSome_iff_exists.1 HK.out
          obtain ⟨i', rfl, hi', _⟩ := plc_lt hpl
          obtain ⟨b, off, eA, _⟩ := E3.out.get hi'
          subst eA
          have hiz : (i' : Int) < (n : Int) := by omega
          have hi0 : (0 : Int) ≤ (i' : Int) := by omega
          have HNx : nxt E n idv = pow E n i' := by unfold nxt; rw [hpl]; rfl
          have HPw := Lib.hid (fun y (x1 : Evm y (some ⟨b, off, none⟩) n E) (x2 : MapI y Mp m (plc E n)) => powerOf36 (some ⟨b, off, none⟩) n c E Mp m b off i' y x1 x2 hi' rfl)
          unfold PowP at HPw
          have HOs := HOn.out.step HK.out HIn.out
          rw [HNx] at HOs
          have HPk := fun x => pow_known (E := E) (n := n) (j := i') (x := x)
          have HPz : ∀ x, pow E n i' = some x → i64B x := fun x hx => (E3.out.au i' hi').wf x (List.mem_of_find?_eq_some hx)
          rw [hpl]
          generalize pow E n i' = po at HPw HOs HPk HPz
          have HBo := Lib.hid (show i64B (po.getD 0) by
            cases po with
            | none => unfold i64B; simp
            | some x => exact HPz x rfl)
          have HCu : Hid (Cur E n id (pre ++ [idv]) po (po.getD 0)) := Lib.hid (by
            cases po with
            | none => exact .inl ⟨rfl, On.stop HOs (fun c hc => by cases hc)⟩
            | some x => exact .inr ⟨rfl, HPk x rfl, HOs⟩)
          clear HNx hpl HPk HPz HOs hk3 HL
          have q2 := C23.out.cell (i := 0) rfl
          gi_wp2
          go_upto_region 5 with (first
            | (at_mapUpdate; refine wpList_putJ rfl _ _ _ rfl W.heap.size mm (fun x => pre.contains x) rfl J3.out hmm3.out idv hwf rfl true rfl ?_; intro w4 hm4 hg4; have RMj_ := Lib.hid hm4; have K4 := Lib.hid (Tw.grown (c := c2) hg4); have RE_ := Lib.hid (h5.out.keep hnb (K4.out.keep HB3.out (by omega) hc2 (by have := h6.out.size; omega))); have RMp_ := Lib.hid (M3.out.kept (hg4.block Mp M3.out.lt (fun e => HD2.out.1 (by cases e; rfl)))); have RC1_ : Hid (Blk w4 c1 [.map (some Mp)] 53) := Lib.hid ⟨(hg4.block c1 C13.out.lt (fun e => HD2.out.2.1 (by cases e; rfl))).trans C13.out.heap⟩; have RC2_ : Hid (Blk w4 c2 [.int .i64 idv] 3) := Lib.hid ⟨(hg4.block c2 C23.out.lt (fun e => HD.out.2.1 (by cases e; rfl))).trans C23.out.heap⟩; have RC3_ : Hid (Blk w4 c3 [.slice (some ⟨b, off, none⟩) n c] 22) := Lib.hid ⟨(hg4.block c3 C33.out.lt (fun e => HD2.out.2.2 (by cases e; rfl))).trans C33.out.heap⟩; have DR := Lib.hid (show Below w4.heap.size w4 w4.drew from (Below.refl _ w4).drew); clear hm4 hg4 q2))
          refine wp_region_held_drew (S := (fun y => Blk y c1 [.map (some Mp)] 53 ∧ Blk y c3 [.slice (some ⟨b, off, none⟩) n c] 22)) (by kernel_rfl) (⟨RC1_.out.drew, RC3_.out.drew⟩) (fun hH0 => ?_)
          generalize hy0 : World.drew _ = y0 at hH0 ⊢
          have RE0 : Hid (Evm y0 (some ⟨b, off, none⟩) n E) := Lib.hid (hy0 ▸ RE_.out.below DR.out)
          have RMp : Hid (MapI y0 Mp m (plc E n)) := Lib.hid (hy0 ▸ RMp_.out.below DR.out)
          have RMj : Hid (MapJ y0 W.heap.size (mm + 1) (fun j => if j = idv then true else pre.contains j)) := Lib.hid (hy0 ▸ RMj_.out.below DR.out)
          have RC0 : Hid (Blk y0 c2 [.int .i64 idv] 3) := Lib.hid (hy0 ▸ RC2_.out.drew)
          have Kb : Hid (Tw c2 W.heap.size W3 y0) := Lib.hid (hy0 ▸ K4.out.trans (Tw.below DR.out))
          clear hy0
          refine wpAnyH_take (i := 0) (oi := ({ dst := some 29, op := Op.load 22 (Operand.tmp 3), type := 22, pos := "mainline.go:34", after := #[], guard := none } : Oper)) (v := .slice (some ⟨b, off, none⟩) n c) rfl (by kernel_rfl) (by kernel_rfl) (by kernel_rfl) (fun _ _ _ h => h) (Or.inl ⟨by rfl, fun w0 hw0 => by have q0 := hw0.2.cell (i := 0) rfl; go_simp⟩) (by assumption) ?_
          try simp only [Act.put, List.setIfInBounds_toArray, List.set_cons_zero, List.set_cons_succ]
          refine wpAnyH_take (i := 1) (oi := ({ dst := some 30, op := Op.load 53 (Operand.tmp 1), type := 53, pos := "mainline.go:34", after := #[], guard := none } : Oper)) (v := .map (some Mp)) rfl (by kernel_rfl) (by kernel_rfl) (by kernel_rfl) (fun _ _ _ h => h) (Or.inl ⟨by rfl, fun w0 hw0 => by have q0 := hw0.1.cell (i := 0) rfl; go_simp⟩) (by assumption) ?_
          try simp only [Act.put, List.setIfInBounds_toArray, List.set_cons_zero, List.set_cons_succ]
          refine wpAnyH_take (i := 2) (oi := ({ dst := some 31, op := Op.load 22 (Operand.tmp 3), type := 22, pos := "mainline.go:34", after := #[], guard := none } : Oper)) (v := .slice (some ⟨b, off, none⟩) n c) rfl (by kernel_rfl) (by kernel_rfl) (by kernel_rfl) (fun _ _ _ h => h) (Or.inl ⟨by rfl, fun w0 hw0 => by have q0 := hw0.2.cell (i := 0) rfl; go_simp⟩) (by assumption) ?_
          try simp only [Act.put, List.setIfInBounds_toArray, List.set_cons_zero, List.set_cons_succ]
          refine wpAnyH_take (i := 3) (oi := ({ dst := some 32, op := Op.move (Operand.tmp 6), type := 3, pos := "mainline.go:34", after := #[], guard := none } : Oper)) (v := ?hv1) rfl (by kernel_rfl) (by kernel_rfl) (by kernel_rfl) (fun _ _ _ h => h) (Or.inl ⟨by rfl, ?hy1⟩) (by assumption) ?hr1
          case hy1 => (intro w hSw; (try dsimp only at hSw); go_simp; (try with_reducible rfl))
          try simp only [Act.put, List.setIfInBounds_toArray, List.set_cons_zero, List.set_cons_succ]
          refine wpAnyH_take (i := 4) (oi := ({ dst := some 33, op := Op.indexAddr 22 (Operand.tmp 31) (Operand.tmp 32), type := 0, pos := "mainline.go:34", after := #[{ on := 2, ground := Ground.data }, { on := 3, ground := Ground.data }], guard := none } : Oper)) (v := ?hv2) rfl (by kernel_rfl) (by kernel_rfl) (by kernel_rfl) (fun _ _ _ h => h) (Or.inl ⟨by rfl, ?hy2⟩) (by assumption) ?hr2
          case hy2 => (intro w hSw; (try dsimp only at hSw); go_simp; (try with_reducible rfl))
          try simp only [Act.put, List.setIfInBounds_toArray, List.set_cons_zero, List.set_cons_succ]
          refine wpAnyH_ready (rs := [5]) (by kernel_rfl) (by simp) ?_
          refine AllReadyH.cons (o := ({ dst := some 34, op := Op.call { callee := Callee.value (Operand.func 36), args := #[Operand.tmp 29, Operand.tmp 30, Operand.tmp 33], argTypes := #[22, 53, 73] }, type := 55, pos := "mainline.go:34", after := #[{ on := 0, ground := Ground.data }, { on := 1, ground := Ground.data }, { on := 4, ground := Ground.data }], guard := none } : Oper)) rfl (fun KK hKK => ?_) AllReadyH.nil
          go_simp
          (with_reducible refine (HPw.out y0 RE0.out RMp.out).mono ?_)
          rintro e0 y1 ⟨rfl, hb⟩
          have R1 := Lib.hid (Kb.out.trans (Tw.below hb))
          have RMp1 := Lib.hid (RMp.out.below hb)
          have RMj1 := Lib.hid (RMj.out.below hb)
          have RC1 := Lib.hid (RC0.out.below hb)
          have RE1 := Lib.hid (RE0.out.below hb)
          have RS1 : Hid (Blk y1 c1 [.map (some Mp)] 53 ∧ Blk y1 c3 [.slice (some ⟨b, off, none⟩) n c] 22) := Lib.hid ⟨hH0.1.below hb, hH0.2.below hb⟩
          clear hb
          refine hKK.out _ _ (RS1.out) (fun hH1 => ?_)
          clear hKK KK
          try simp only [Act.put, List.setIfInBounds_toArray, List.set_cons_zero, List.set_cons_succ]
          refine wpAnyH_take (i := 6) (oi := ({ dst := some 28, op := Op.move (Operand.tmp 34), type := 55, pos := "mainline.go:34", after := #[{ on := 5, ground := Ground.data }], guard := none } : Oper)) (v := ?hv3) rfl (by kernel_rfl) (by kernel_rfl) (by kernel_rfl) (fun _ _ _ h => h) (Or.inl ⟨by rfl, ?hy3⟩) (by assumption) ?hr3
          case hy3 => (intro w hSw; (try dsimp only at hSw); go_simp; (try with_reducible rfl))
          try simp only [Act.put, List.setIfInBounds_toArray, List.set_cons_zero, List.set_cons_succ]
          refine wpAnyH_take (i := 7) (oi := ({ dst := some 35, op := Op.extract (Operand.tmp 28) 0, type := 3, pos := "mainline.go:34", after := #[{ on := 6, ground := Ground.data }], guard := none } : Oper)) (v := ?hv4) rfl (by kernel_rfl) (by kernel_rfl) (by kernel_rfl) (fun _ _ _ h => h) (Or.inl ⟨by rfl, ?hy4⟩) (by assumption) ?hr4
          case hy4 => (intro w hSw; (try dsimp only at hSw); go_simp; (try with_reducible rfl))
          try simp only [Act.put, List.setIfInBounds_toArray, List.set_cons_zero, List.set_cons_succ]
          refine wpAnyH_take (i := 8) (oi := ({ dst := some 36, op := Op.extract (Operand.tmp 28) 1, type := 4, pos := "mainline.go:34", after := #[{ on := 6, ground := Ground.data }, { on := 9, ground := Ground.gcOnly Departure.lateStores }], guard := none } : Oper)) (v := ?hv5) rfl (by kernel_rfl) (by kernel_rfl) (by kernel_rfl) (fun _ _ _ h => h) (Or.inl ⟨by rfl, ?hy5⟩) (by assumption) ?hr5
          case hy5 => (intro w hSw; (try dsimp only at hSw); go_simp; (try with_reducible rfl))
          try simp only [Act.put, List.setIfInBounds_toArray, List.set_cons_zero, List.set_cons_succ]
          refine wpAnyH_ready (rs := [9]) (by kernel_rfl) (by simp) ?_
          refine AllReadyH.cons (o := ({ dst := none, op := Op.store 3 (Operand.tmp 2) (Operand.tmp 35), type := 0, pos := "mainline.go:34", after := #[{ on := 7, ground := Ground.data }, { on := 5, ground := Ground.chain }, { on := 0, ground := Ground.phase }, { on := 1, ground := Ground.phase }, { on := 2, ground := Ground.phase }, { on := 3, ground := Ground.phase }, { on := 4, ground := Ground.phase }, { on := 5, ground := Ground.phase }, { on := 6, ground := Ground.phase }, { on := 7, ground := Ground.phase }, { on := 8, ground := Ground.textOnly Departure.lateStores }], guard := none } : Oper)) rfl (fun KK hKK => ?_) AllReadyH.nil
          have ct := RC1.out.cell (i := 0) rfl
          have cf := RC1.out.free 0
          go_simp
          have R2 := Lib.hid (R1.out.trans (Tw.set 0 none (.int .i64 (po.getD 0))))
          have RMp2 := Lib.hid (RMp1.out.set ⟨c2, 0, none⟩ (.int .i64 (po.getD 0)) HD.out.1)
          have RMj2 := Lib.hid (RMj1.out.set ⟨c2, 0, none⟩ (.int .i64 (po.getD 0)) HD.out.2.1)
          have RC2 := Lib.hid (blk_set1 RC1.out (v := .int .i64 (po.getD 0)))
          have RS2 : Hid (Blk (y1.setCell ⟨c2, 0, none⟩ (.int .i64 (po.getD 0))) c1 [.map (some Mp)] 53 ∧ Blk (y1.setCell ⟨c2, 0, none⟩ (.int .i64 (po.getD 0))) c3 [.slice (some ⟨b, off, none⟩) n c] 22) := Lib.hid ⟨RS1.out.1.other ⟨c2, 0, none⟩ (.int .i64 (po.getD 0)) HD.out.2.2.1, RS1.out.2.other ⟨c2, 0, none⟩ (.int .i64 (po.getD 0)) HD.out.2.2.2⟩
          clear ct cf
          refine hKK.out _ _ (RS2.out) (fun hH2 => ?_)
          clear hKK KK
          try simp only [Act.put, List.setIfInBounds_toArray, List.set_cons_zero, List.set_cons_succ]
          refine wpAnyH_take (i := 10) (oi := ({ dst := some 7, op := Op.assign (Operand.tmp 36), type := 4, pos := "mainline.go:34", after := #[{ on := 8, ground := Ground.data }, { on := 9, ground := Ground.chain }, { on := 0, ground := Ground.phase }, { on := 1, ground := Ground.phase }, { on := 2, ground := Ground.phase }, { on := 3, ground := Ground.phase }, { on := 4, ground := Ground.phase }, { on := 5, ground := Ground.phase }, { on := 6, ground := Ground.phase }, { on := 7, ground := Ground.phase }, { on := 8, ground := Ground.phase }, { on := 9, ground := Ground.phase }], guard := none } : Oper)) (v := ?hv6) rfl (by kernel_rfl) (by kernel_rfl) (by kernel_rfl) (fun _ _ _ h => h) (Or.inl ⟨by rfl, ?hy6⟩) (by assumption) ?hr6
          case hy6 => (intro w hSw; (try dsimp only at hSw); go_simp; (try with_reducible rfl))
          try simp only [Act.put, List.setIfInBounds_toArray, List.set_cons_zero, List.set_cons_succ]
          refine wpAnyH_done (by kernel_rfl) ?_ _
          generalize hy2 : World.setCell y1 _ _ = y2 at R2 RMp2 RMj2 RC2 RS2 hH2 ⊢
          have cc1 := RS2.out.1.cell (i := 0) rfl
          have cc2 := RC2.out.cell (i := 0) rfl
          have hlk := RMp2.out.look HBo.out
          clear hy2
          go_wp2
          go_roundg (n + 1 - (pre ++ [idv]).length)
          case measure => exact HMs.out
          case rel => exact ⟨pre ++ [idv], po, po.getD 0, Nat.le_refl _, rfl, rfl, HCu, Lib.hid (h4.out _ _ _ HJ3.out R2.out), Lib.hid ⟨R2.out.keep HB3.out (by omega) hc2 (by have := h6.out.size; omega), RMp2.out, RS2.out.1, RC2.out, RS2.out.2, ⟨mm + 1, by rw [List.length_append, List.length_singleton]; have := hmm2.out; omega, RMj2.out.same HCt.out⟩, HBo.out⟩⟩
        · gi_wp2
          go_wp2
          refine bodyPost_ret (results_none rfl _ _ _) rfl ?_
          exact ⟨⟨_, rfl⟩, .inr ⟨pre ++ [idv], (On.step HOn.out HK.out HIn.out).pre, hx3⟩⟩
end Go.Proofs.Ytoljlpddcpdoiaa
