/- The mainline: Order of the program. Bound: at most 900000 events and numbers. -/
import Derived.Test.YtoljlpddcpdoiaaP19
import Derived.Test.YtoljlpddcpdoiaaS19
import Derived.OwnWalk
namespace Go.Proofs.Ytoljlpddcpdoiaa
open Go Go.RowKit Go.Maps
set_option linter.unusedVariables false
set_option linter.unusedSimpArgs false

theorem info62 : (Try.prog.info? 62).map (fun i => (i.zero, i.size, i.bytes)) = some (some (.agg #[.int .i64 0, .int .i64 0, .int .i64 0]), 3, 24) := by kernel_rfl
theorem own_map {X Y : World} {B : Nat} {e : TypeId} {sz : Nat} {v : Value} {n : Nat} {xs : List Value} {M m : Nat} {f : Int → Option Int} (ho : X.ownsRow B e sz v n xs) (hm : MapI X M m f) (hg : X.grownBy Y v.ownBlock) : MapI Y M m f := by
  refine hm.kept (hg.block M hm.lt fun e => ?_)
  rcases ho.2 with ⟨rfl, _⟩ | ⟨g, cap, cur, rfl, _, hgc, _⟩
  · cases e
  · cases e
    exact hm.ne (show Blk X g cur.toList _ from ⟨by rw [Array.toArray_toList]; exact hgc⟩) rfl
theorem Its.grew {X Y : World} {A : Option Addr} {n c : Nat} {zs : List Int} {row : Option Nat} (h : Its X A n c zs) (hg : X.grownBy Y row) (hne : ∀ b off, A = some ⟨b, off, none⟩ → row ≠ some b) : Its Y A n c zs := by
  refine ⟨⟨h.rws.len, h.rws.one, h.rws.big, h.rws.nil, h.rws.at_.imp id fun ⟨b, off, e, hlt, hc⟩ => ⟨b, off, e, Nat.lt_of_lt_of_le hlt hg.size, fun j hj i v hv => ?_⟩⟩, h.len, h.cap, h.wf⟩
  exact (World.cell?_of_block (a := ⟨b, off + j * 1 + i, none⟩) (hg.block b hlt (fun h => hne b off e h.symm))).trans (hc j hj i v hv)
/-- The block of the row: the first one, or one behind s. -/
def OBk (q0 s : Nat) (v : Value) : Prop := ∃ q, v.ownBlock = some q ∧ (q = q0 ∨ s ≤ q)
theorem obk_step {q0 s sz : Nat} {v v' : Value} (h : OBk q0 s v) (ha : v'.ownBlock = v.ownBlock ∨ v'.ownBlock = some sz) (hs : s ≤ sz) : OBk q0 s v' := by
  rcases ha with ha | ha
  · obtain ⟨q, h1, h2⟩ := h
    exact ⟨q, ha.trans h1, h2⟩
  · exact ⟨sz, ha, .inr hs⟩
theorem OBk.ne {q0 s b : Nat} {v : Value} (h : OBk q0 s v) (h1 : q0 < b) (h2 : b < s) : v.ownBlock ≠ some b := by
  obtain ⟨q, e, h3⟩ := h
  rw [e]
  intro h4
  cases h4
  omega
theorem Pl.Rcs.setOther {w : World} {A : Option Addr} {n c g : Nat} {zs : List Pl.Rc} (h : Pl.Rcs w A n c zs) (o : Nat) (v : Value) (hne : ∀ b off, A = some ⟨b, off, none⟩ → b ≠ g) : Pl.Rcs (w.setCell ⟨g, o, none⟩ v) A n c zs := by
  have hb := (Below.refl 0 w).setCell (p := ⟨g, o, none⟩) (Nat.zero_le _) v
  exact h.grew (row := some g) ⟨hb.os, hb.tape, hb.output, hb.size, fun k hk hn => Below.heap_setCell w ⟨g, o, none⟩ v k (fun e => hn (by rw [e]))⟩ (fun b off e h => by cases h; exact hne _ _ e rfl)
theorem Pl.blk_src {w : World} {g : Nat} {p : Pl.Rc} (h : Blk w g (Pl.enc p) 62) : Src w (some ⟨g, 0, none⟩) 1 1 3 (Pl.enc p) :=
  ⟨rfl, (fun e => by cases e), .inr ⟨g, 0, rfl, h.lt, fun j u hu => by rw [Nat.zero_add]; exact h.cell hu⟩, Pl.enc_one p⟩
theorem take_set {α : Type} {cs : List α} {k : Nat} (v : α) (h : k < cs.length) : (cs.set k v).take (k + 1) = cs.take k ++ [v] := by
  rw [List.take_succ_eq_append_getElem (by rw [List.length_set]; exact h), List.take_set_of_le (Nat.le_refl _), List.getElem_set_self]
set_option maxRecDepth 100000 in
set_option maxHeartbeats 8000000 in
theorem order15 (A : Option Addr) (n c : Nat) (E : Nat → Me) (A1 : Option Addr) (n1 c1 : Nat) (ms : List Int) (A2 : Option Addr) (n2 c2 : Nat) (zs : List Int) (w : World) (h : Evm w A n E) (hn : n ≤ 900000) (h1 : Its w A1 n1 c1 ms) (hn1 : n1 ≤ 900000) (h2 : Its w A2 n2 c2 zs) (hn2 : n2 ≤ 900000) : Calls Try.prog 15 #[.slice A n c, .slice A1 n1 c1, .slice A2 n2 c2] w (IntsP w (ordL E n ms n1 zs)) := by
  have H := Lib.hid h
  have HX := Lib.hid (index22 A n c E w h hn)
  have HR := Lib.hid (fun v (hb : Below w.heap.size w v) => ranks25 A1 n1 c1 ms v (h1.below hb) hn1)
  have HS := Lib.hid (fun v (hb : Below w.heap.size w v) => sorted27 A2 n2 c2 zs v (h2.below hb) (by omega) (fun z hz => h2.wf z ((Q.M.mem_st _ _).1 hz)))
  have HCl := Lib.hid (fun Mp m Mr mr id (hw : i64B id) v (hb : Below w.heap.size w v) (x1 : MapI v Mp m (plc E n)) (x2 : MapI v Mr mr (rk ms)) => closest24 A n c E Mp m Mr mr (rk ms) n1 id v (h.below hb) hn hw x1 x2)
  obtain ⟨i0, hi, hz0, hz1, hz2⟩ := info_parts info62
  have HI := Lib.hid (And.intro hi (And.intro hz0 (And.intro hz1 hz2)))
  obtain ⟨i1, hi1, hz3, hz4, hz5⟩ := info_parts info3
  have HI1 := Lib.hid (And.intro hi1 (And.intro hz3 (And.intro hz4 hz5)))
  have hwf0 : ∀ x ∈ Q.M.st zs, i64B x := fun z hz => h2.wf z ((Q.M.mem_st _ _).1 hz)
  have HWf := Lib.hid hwf0
  have HNd := Lib.hid (Q.M.srt_nodup (Q.M.srt_st zs))
  have hsl : (Q.M.st zs).length ≤ 900000 := by have := Q.M.len_st zs; have := h2.len; omega
  have HOd := Lib.hid (show ordL E n ms n1 zs = (Pl.srtP (ps E n ms n1 (Q.M.st zs))).map (·.id) from rfl)
  have HWo := Lib.hid (fun z (hz : z ∈ ordL E n ms n1 zs) => h2.wf z (mem_ordL.1 hz).1)
  unfold IntsP
  generalize ordL E n ms n1 zs = od at HOd HWo ⊢
  generalize Q.M.st zs = ss at HS HWf HNd hsl HOd
  clear h h1 h2 hi hz0 hz1 hz2 hwf0 hi1 hz3 hz4 hz5
  go_enter Try.func15, Try.ntmps15
  go_wp2_with (first
    | (go_at_call 22; (with_reducible refine HX.out.mono ?_); rintro e w1 ⟨rfl, ⟨m, hm, hmi⟩, hb⟩; have M1 := Lib.hid hmi; have B1 := Lib.hid hb; clear hmi hb hm)
    | (go_at_call 25; (with_reducible refine (HR.out _ B1.out).mono ?_); rintro e w2 ⟨rfl, ⟨mr, hm, hmi⟩, hb⟩; have M2 := Lib.hid (M1.out.below hb); have R2 := Lib.hid hmi; have B2 := Lib.hid (B1.out.trans (hb.mono B1.out.size)); clear hmi hb hm)
    | (go_at_call 27; (with_reducible refine (HS.out _ (B2.out.alloc B2.out.size _)).mono ?_); rintro e w3 ⟨A3, c3, rfl, hi3, hb, hf3⟩; have I3 := Lib.hid hi3; have B3 := Lib.hid ((B2.out.alloc B2.out.size _).trans (hb.mono (B2.out.alloc B2.out.size _).size)); have M3 := Lib.hid ((M2.out.alloc _).below hb); have R3 := Lib.hid ((R2.out.alloc _).below hb); have O3 := Lib.hid (own_keep (World.ownsRow_made (base := w.heap.size) (e := 62) (size := 3) w2 #[] 0 B2.out.size (by decide) (by simp)) (fun b _ hl => hb.block b hl)); have HF3 := Lib.hid (fun b off (e : A3 = some ⟨b, off, none⟩) => show w2.heap.size < b by have := hf3 b off e; rw [World.size_alloc] at this; omega); clear hi3 hb hf3))
  go_loopg [9, 11, 12, 13, 25] ss.length (fun gg s9 _ _ _ s25 wr => ∃ (kk : Nat) (v : Value), kk ≤ ss.length ∧ ss.length - kk ≤ gg ∧ v = s9 ∧ s25 = .int .i64 kk ∧ Hid (wr.ownsRow w.heap.size 62 3 v (ps E n ms n1 (ss.take kk)).length (Pl.cl (ps E n ms n1 (ss.take kk)))) ∧ Hid (Below w.heap.size w wr) ∧ Hid (MapI wr w.heap.size m (plc E n)) ∧ Hid (MapI wr w1.heap.size mr (rk ms)) ∧ Hid (Its wr A3 ss.length c3 ss) ∧ Hid (w3.heap.size ≤ wr.heap.size) ∧ Hid (OBk w2.heap.size w3.heap.size v))
  case atStart => exact ⟨0, _, Nat.zero_le _, by omega, rfl, rfl, O3, B3, M3, R3, I3, Lib.hid (Nat.le_refl _), Lib.hid ⟨_, rfl, .inl rfl⟩⟩
  case round =>
    obtain ⟨kk, v, hkk, hg, rfl, rfl, HO, BW, HM, HMr, I4, HZ, HOB⟩ := hrel
    have hpl : (ps E n ms n1 (ss.take kk)).length ≤ kk := by have := ps_len E n ms n1 (ss.take kk); rw [List.length_take] at this; omega
    by_cases hlt : kk < ss.length
    · have hltz : (kk : Int) < (ss.length : Int) := by omega
      have hk0 : (0 : Int) ≤ (kk : Int) := by omega
      obtain ⟨bb, oo, e3, hb3, _⟩ := I3.out.at_ hlt
      obtain ⟨b3, off3, rfl, hl3, q0, hwf⟩ := I4.out.at_ hlt
      simp only [Option.some.injEq, Addr.mk.injEq, and_true] at e3
      obtain ⟨rfl, rfl⟩ := e3
      have HNE := Lib.hid (HOB.out.ne (HF3.out b3 off3 rfl) hb3)
      have HPs0 := Lib.hid (ps_succ E n ms n1 (ss := ss) hlt)
      have HC := Lib.hid (fun v hb x1 x2 => HCl.out w.heap.size m w1.heap.size mr (ss.getD kk 0) hwf v hb x1 x2)
      have HPl := Lib.hid (show plOf E n ms n1 (ss.getD kk 0) = (match plc E n (ss.getD kk 0) with | some i => some ⟨clo (wayL E n (ss.getD kk 0)) (rk ms) n1, (E i.toNat).tm, ss.getD kk 0⟩ | none => none) from rfl)
      have hask := HM.out.ask hwf
      generalize ss.getD kk 0 = id at q0 hwf HPs0 HC hask HPl
      generalize clo (wayL E n id) (rk ms) n1 = x at HC HPl
      cases hp : plc E n id with
      | none =>
        rw [hp] at hask HPl
        have HPs := Lib.hid (show ps E n ms n1 (ss.take (kk + 1)) = ps E n ms n1 (ss.take kk) by rw [HPs0.out, HPl.out]; simp)
        clear hp HPs0 HPl
        go_wp2
        go_roundg (ss.length - (kk + 1))
        case measure => omega
        case rel => exact ⟨kk + 1, v, by omega, by omega, rfl, by go_num, Lib.hid (by rw [HPs.out]; exact HO.out), BW, HM, HMr, I4, HZ, HOB⟩
      | some i =>
        obtain ⟨i', rfl, hi', _⟩ := plc_lt hp
        rw [hp] at hask HPl
        have HTm0 := Lib.hid (fun w0 (hb : Below w.heap.size w w0) => (H.out.below hb).get hi')
        obtain ⟨b, off, rfl, hbl, _, _, k6, _⟩ := H.out.get hi'
        have HPs := Lib.hid (show ps E n ms n1 (ss.take (kk + 1)) = ps E n ms n1 (ss.take kk) ++ [⟨x, (E i').tm, id⟩] by rw [HPs0.out, HPl.out]; rfl)
        have hiz : (i' : Int) < (n : Int) := by omega
        have hi0 : (0 : Int) ≤ (i' : Int) := by omega
        have HTm := Lib.hid (fun w0 (hb : Below w.heap.size w w0) => (hb.cell (p := ⟨b, off + i' * 29 + 6, none⟩) hbl).trans k6)
        generalize (E i').tm = tm at HTm HPs k6
        generalize ps E n ms n1 (ss.take kk) = l at HO HPs hpl
        clear hp HPs0 HPl HTm0 k6
        go_upto_region 8 with (fail)
        refine wp_region_held_drew (S := (fun y => Below w.heap.size w y)) (by kernel_rfl) (BW.out.drew) (fun hH0 => ?_)
        generalize hy0 : World.drew _ = y0 at hH0 ⊢
        have RB0 : Hid (Below w.heap.size w y0) := Lib.hid hH0
        have RO0 : Hid (World.ownsRow y0 w.heap.size 62 3 v l.length (Pl.cl l)) := Lib.hid (hy0 ▸ own_keep HO.out (fun b _ hl => (show _ = _ from rfl)))
        have RM0 : Hid (MapI y0 w.heap.size m (plc E n)) := Lib.hid (hy0 ▸ HM.out.kept rfl)
        have RR0 : Hid (MapI y0 w1.heap.size mr (rk ms)) := Lib.hid (hy0 ▸ HMr.out.kept rfl)
        have RI0 : Hid (Its y0 (some ⟨b3, off3, none⟩) ss.length c3 ss) := Lib.hid (hy0 ▸ I4.out.below ((Below.refl _ _).drew))
        have RZ0 : Hid (w3.heap.size ≤ y0.heap.size) := Lib.hid (hy0 ▸ HZ.out)
        clear hy0
        refine wpAnyH_take (i := 0) (oi := ({ dst := some 36, op := Op.move (Operand.tmp 9), type := 60, pos := "mainline.go:81", after := #[], guard := none } : Oper)) (v := ?hv1) rfl (by kernel_rfl) (by kernel_rfl) (by kernel_rfl) (fun _ _ _ h => h) (Or.inl ⟨by rfl, ?hy1⟩) (by assumption) ?hr1
        case hy1 => (intro w hSw; (try dsimp only at hSw); go_simp; (try with_reducible rfl))
        try simp only [Act.put, List.setIfInBounds_toArray, List.set_cons_zero, List.set_cons_succ]
        refine wpAnyH_take (i := 1) (oi := ({ dst := some 37, op := Op.move (Operand.tmp 0), type := 22, pos := "mainline.go:81", after := #[], guard := none } : Oper)) (v := ?hv2) rfl (by kernel_rfl) (by kernel_rfl) (by kernel_rfl) (fun _ _ _ h => h) (Or.inl ⟨by rfl, ?hy2⟩) (by assumption) ?hr2
        case hy2 => (intro w hSw; (try dsimp only at hSw); go_simp; (try with_reducible rfl))
        try simp only [Act.put, List.setIfInBounds_toArray, List.set_cons_zero, List.set_cons_succ]
        refine wpAnyH_take (i := 2) (oi := ({ dst := some 38, op := Op.move (Operand.tmp 7), type := 53, pos := "mainline.go:81", after := #[], guard := none } : Oper)) (v := ?hv3) rfl (by kernel_rfl) (by kernel_rfl) (by kernel_rfl) (fun _ _ _ h => h) (Or.inl ⟨by rfl, ?hy3⟩) (by assumption) ?hr3
        case hy3 => (intro w hSw; (try dsimp only at hSw); go_simp; (try with_reducible rfl))
        try simp only [Act.put, List.setIfInBounds_toArray, List.set_cons_zero, List.set_cons_succ]
        refine wpAnyH_take (i := 3) (oi := ({ dst := some 39, op := Op.move (Operand.tmp 8), type := 53, pos := "mainline.go:81", after := #[], guard := none } : Oper)) (v := ?hv4) rfl (by kernel_rfl) (by kernel_rfl) (by kernel_rfl) (fun _ _ _ h => h) (Or.inl ⟨by rfl, ?hy4⟩) (by assumption) ?hr4
        case hy4 => (intro w hSw; (try dsimp only at hSw); go_simp; (try with_reducible rfl))
        try simp only [Act.put, List.setIfInBounds_toArray, List.set_cons_zero, List.set_cons_succ]
        refine wpAnyH_take (i := 4) (oi := ({ dst := some 40, op := Op.move (Operand.tmp 1), type := 26, pos := "mainline.go:81", after := #[], guard := none } : Oper)) (v := ?hv5) rfl (by kernel_rfl) (by kernel_rfl) (by kernel_rfl) (fun _ _ _ h => h) (Or.inl ⟨by rfl, ?hy5⟩) (by assumption) ?hr5
        case hy5 => (intro w hSw; (try dsimp only at hSw); go_simp; (try with_reducible rfl))
        try simp only [Act.put, List.setIfInBounds_toArray, List.set_cons_zero, List.set_cons_succ]
        refine wpAnyH_take (i := 5) (oi := ({ dst := some 41, op := Op.call { callee := Callee.builtin Builtin.len, args := #[Operand.tmp 40], argTypes := #[26] }, type := 3, pos := "mainline.go:81", after := #[{ on := 4, ground := Ground.data }], guard := none } : Oper)) (v := ?hv6) rfl (by kernel_rfl) (by kernel_rfl) (by kernel_rfl) (fun _ _ _ h => h) (Or.inl ⟨by rfl, ?hy6⟩) (by assumption) ?hr6
        case hy6 => (intro w hSw; (try dsimp only at hSw); go_simp; (try with_reducible rfl))
        try simp only [Act.put, List.setIfInBounds_toArray, List.set_cons_zero, List.set_cons_succ]
        refine wpAnyH_take (i := 6) (oi := ({ dst := some 42, op := Op.move (Operand.tmp 11), type := 3, pos := "mainline.go:81", after := #[], guard := none } : Oper)) (v := ?hv7) rfl (by kernel_rfl) (by kernel_rfl) (by kernel_rfl) (fun _ _ _ h => h) (Or.inl ⟨by rfl, ?hy7⟩) (by assumption) ?hr7
        case hy7 => (intro w hSw; (try dsimp only at hSw); go_simp; (try with_reducible rfl))
        try simp only [Act.put, List.setIfInBounds_toArray, List.set_cons_zero, List.set_cons_succ]
        refine wpAnyH_take (i := 8) (oi := ({ dst := some 44, op := Op.move (Operand.tmp 0), type := 22, pos := "mainline.go:81", after := #[], guard := none } : Oper)) (v := ?hv8) rfl (by kernel_rfl) (by kernel_rfl) (by kernel_rfl) (fun _ _ _ h => h) (Or.inl ⟨by rfl, ?hy8⟩) (by assumption) ?hr8
        case hy8 => (intro w hSw; (try dsimp only at hSw); go_simp; (try with_reducible rfl))
        try simp only [Act.put, List.setIfInBounds_toArray, List.set_cons_zero, List.set_cons_succ]
        refine wpAnyH_take (i := 9) (oi := ({ dst := some 45, op := Op.move (Operand.tmp 12), type := 3, pos := "mainline.go:81", after := #[], guard := none } : Oper)) (v := ?hv9) rfl (by kernel_rfl) (by kernel_rfl) (by kernel_rfl) (fun _ _ _ h => h) (Or.inl ⟨by rfl, ?hy9⟩) (by assumption) ?hr9
        case hy9 => (intro w hSw; (try dsimp only at hSw); go_simp; (try with_reducible rfl))
        try simp only [Act.put, List.setIfInBounds_toArray, List.set_cons_zero, List.set_cons_succ]
        refine wpAnyH_take (i := 10) (oi := ({ dst := some 46, op := Op.indexAddr 22 (Operand.tmp 44) (Operand.tmp 45), type := 0, pos := "mainline.go:81", after := #[{ on := 8, ground := Ground.data }, { on := 9, ground := Ground.data }], guard := none } : Oper)) (v := ?hv10) rfl (by kernel_rfl) (by kernel_rfl) (by kernel_rfl) (fun _ _ _ h => h) (Or.inl ⟨by rfl, ?hy10⟩) (by assumption) ?hr10
        case hy10 => (intro w hSw; (try dsimp only at hSw); go_simp; (try with_reducible rfl))
        try simp only [Act.put, List.setIfInBounds_toArray, List.set_cons_zero, List.set_cons_succ]
        refine wpAnyH_take (i := 11) (oi := ({ dst := some 47, op := Op.fieldAddr 44 (Operand.tmp 46) 6, type := 0, pos := "mainline.go:81", after := #[{ on := 10, ground := Ground.data }], guard := none } : Oper)) (v := ?hv11) rfl (by kernel_rfl) (by kernel_rfl) (by kernel_rfl) (fun _ _ _ h => h) (Or.inl ⟨by rfl, ?hy11⟩) (by assumption) ?hr11
        case hy11 => (intro w hSw; (try dsimp only at hSw); go_simp; (try with_reducible rfl))
        try simp only [Act.put, List.setIfInBounds_toArray, List.set_cons_zero, List.set_cons_succ]
        refine wpAnyH_take (i := 12) (oi := ({ dst := some 48, op := Op.load 3 (Operand.tmp 47), type := 3, pos := "mainline.go:81", after := #[{ on := 11, ground := Ground.data }], guard := none } : Oper)) (v := .int .i64 tm) rfl (by kernel_rfl) (by kernel_rfl) (by kernel_rfl) (fun _ _ _ h => h) (Or.inl ⟨by rfl, fun w0 hw0 => by have q0 := HTm.out w0 hw0; go_simp⟩) (by assumption) ?_
        try simp only [Act.put, List.setIfInBounds_toArray, List.set_cons_zero, List.set_cons_succ]
        refine wpAnyH_take (i := 13) (oi := ({ dst := some 49, op := Op.move (Operand.tmp 11), type := 3, pos := "mainline.go:81", after := #[], guard := none } : Oper)) (v := ?hv12) rfl (by kernel_rfl) (by kernel_rfl) (by kernel_rfl) (fun _ _ _ h => h) (Or.inl ⟨by rfl, ?hy12⟩) (by assumption) ?hr12
        case hy12 => (intro w hSw; (try dsimp only at hSw); go_simp; (try with_reducible rfl))
        try simp only [Act.put, List.setIfInBounds_toArray, List.set_cons_zero, List.set_cons_succ]
        refine wpAnyH_ready (rs := [7]) (by kernel_rfl) (by simp) ?_
        refine AllReadyH.cons (o := ({ dst := some 43, op := Op.call { callee := Callee.value (Operand.func 24), args := #[Operand.tmp 37, Operand.tmp 38, Operand.tmp 39, Operand.tmp 41, Operand.tmp 42], argTypes := #[22, 53, 53, 3, 3] }, type := 3, pos := "mainline.go:81", after := #[{ on := 1, ground := Ground.data }, { on := 2, ground := Ground.data }, { on := 3, ground := Ground.data }, { on := 5, ground := Ground.data }, { on := 6, ground := Ground.data }], guard := none } : Oper)) rfl (fun KK hKK => ?_) AllReadyH.nil
        go_simp
        (with_reducible refine (HC.out _ RB0.out RM0.out RR0.out).mono ?_)
        rintro e0 y1 ⟨rfl, hb⟩
        have RB1 := Lib.hid (RB0.out.trans (hb.mono RB0.out.size)); have RO1 := Lib.hid (own_keep RO0.out (fun b _ hl => hb.block b hl)); have RM1 := Lib.hid (RM0.out.below hb); have RR1 := Lib.hid (RR0.out.below hb); have RI1 := Lib.hid (RI0.out.below hb); have RZ1 := Lib.hid (Nat.le_trans RZ0.out hb.size)
        clear hb
        refine hKK.out _ _ (RB1.out) (fun hH1 => ?_)
        clear hKK KK
        try simp only [Act.put, List.setIfInBounds_toArray, List.set_cons_zero, List.set_cons_succ]
        refine wpAnyH_take (i := 14) (oi := ({ dst := some 50, op := Op.build 62 #[(0, Operand.tmp 43), (1, Operand.tmp 48), (2, Operand.tmp 49)], type := 62, pos := "mainline.go:81", after := #[{ on := 7, ground := Ground.data }, { on := 12, ground := Ground.data }, { on := 13, ground := Ground.data }], guard := none } : Oper)) (v := ?hv13) rfl (by kernel_rfl) (by kernel_rfl) (by kernel_rfl) (fun _ _ _ h => h) (Or.inl ⟨by rfl, ?hy13⟩) (by assumption) ?hr13
        case hy13 => (intro w hSw; (try dsimp only at hSw); go_simp; (try with_reducible rfl))
        try simp only [Act.put, List.setIfInBounds_toArray, List.set_cons_zero, List.set_cons_succ]
        refine wpAnyH_ready (rs := [15]) (by kernel_rfl) (by simp) ?_
        refine AllReadyH.cons (o := ({ dst := some 51, op := Op.buildSlice 60 1 #[(0, Operand.tmp 50)], type := 60, pos := "mainline.go:81", after := #[{ on := 14, ground := Ground.data }], guard := none } : Oper)) rfl (fun KK hKK => ?_) AllReadyH.nil
        go_simp
        generalize hy2 : World.alloc y1 _ = y2
        have hba := (Below.refl y1.heap.size y1).alloc (Nat.le_refl _) (.cells (Pl.enc ⟨x, tm, id⟩).toArray 62)
        replace hba : Below y1.heap.size y1 y2 := by rw [← hy2]; exact hba
        have RB2 := Lib.hid (RB1.out.trans (hba.mono RB1.out.size)); have RO2 := Lib.hid (own_keep RO1.out (fun b _ hl => hba.block b hl)); have RM2 := Lib.hid (RM1.out.below hba); have RR2 := Lib.hid (RR1.out.below hba); have RI2 := Lib.hid (RI1.out.below hba); have RZ2 := Lib.hid (Nat.le_trans RZ1.out hba.size)
        have RS := Lib.hid (show Src y2 (some ⟨y1.heap.size, 0, none⟩) 1 1 3 (Pl.enc ⟨x, tm, id⟩) by rw [← hy2]; exact Pl.blk_src (p := ⟨x, tm, id⟩) (blk_new y1 (Pl.enc ⟨x, tm, id⟩) 62))
        clear hy2 hba
        refine hKK.out _ _ (RB2.out) (fun hH2 => ?_)
        clear hKK KK
        try simp only [Act.put, List.setIfInBounds_toArray, List.set_cons_zero, List.set_cons_succ]
        refine wpAnyH_ready (rs := [16]) (by kernel_rfl) (by simp) ?_
        refine AllReadyH.cons (o := ({ dst := some 52, op := Op.call { callee := Callee.builtin Builtin.append, args := #[Operand.tmp 36, Operand.tmp 51], argTypes := #[60, 60] }, type := 60, pos := "mainline.go:81", after := #[{ on := 0, ground := Ground.data }, { on := 15, ground := Ground.data }, { on := 7, ground := Ground.chain }], guard := none } : Oper)) rfl (fun KK hKK => ?_) AllReadyH.nil
        refine step_append_any _ rfl (.tmp 36) (.tmp 51) 60 rfl w.heap.size 62 i0 _ 3 24 Try.underlying60 HI.out.1 HI.out.2.1 HI.out.2.2.1 HI.out.2.2.2 rfl (by decide) v l.length (Pl.cl l) rfl RO2.out _ 1 1 (Pl.enc ⟨x, tm, id⟩) rfl RS.out (by unfold maxLen; omega) (by omega) RB2.out.size ?_
        intro v3 y3 hgr
        have RB3 := Lib.hid (hgr.below RB2.out RO2.out); have RV := Lib.hid hgr.own; have RM3 := Lib.hid (own_map RO2.out RM2.out hgr.grow); have RR3 := Lib.hid (own_map RO2.out RR2.out hgr.grow)
        have RI3 := Lib.hid (RI2.out.grew hgr.grow (fun b off e => by cases e; exact HNE.out)); have RZ3 := Lib.hid (Nat.le_trans RZ2.out hgr.grow.size); have ROB := Lib.hid (obk_step HOB.out hgr.at_ RZ2.out); clear hgr
        refine hKK.out _ _ (RB3.out) (fun hH3 => ?_)
        clear hKK KK
        try simp only [Act.put, List.setIfInBounds_toArray, List.set_cons_zero, List.set_cons_succ]
        refine wpAnyH_take (i := 17) (oi := ({ dst := some 9, op := Op.assign (Operand.tmp 52), type := 60, pos := "mainline.go:81", after := #[{ on := 16, ground := Ground.data }, { on := 16, ground := Ground.chain }, { on := 0, ground := Ground.phase }, { on := 1, ground := Ground.phase }, { on := 2, ground := Ground.phase }, { on := 3, ground := Ground.phase }, { on := 4, ground := Ground.phase }, { on := 5, ground := Ground.phase }, { on := 6, ground := Ground.phase }, { on := 7, ground := Ground.phase }, { on := 8, ground := Ground.phase }, { on := 9, ground := Ground.phase }, { on := 10, ground := Ground.phase }, { on := 11, ground := Ground.phase }, { on := 12, ground := Ground.phase }, { on := 13, ground := Ground.phase }, { on := 14, ground := Ground.phase }, { on := 15, ground := Ground.phase }, { on := 16, ground := Ground.phase }], guard := none } : Oper)) (v := ?hv14) rfl (by kernel_rfl) (by kernel_rfl) (by kernel_rfl) (fun _ _ _ h => h) (Or.inl ⟨by rfl, ?hy14⟩) (by assumption) ?hr14
        case hy14 => (intro w hSw; (try dsimp only at hSw); go_simp; (try with_reducible rfl))
        try simp only [Act.put, List.setIfInBounds_toArray, List.set_cons_zero, List.set_cons_succ]
        refine wpAnyH_done (by kernel_rfl) ?_ _
        go_wp2
        go_roundg (ss.length - (kk + 1))
        case measure => omega
        case rel => exact ⟨kk + 1, v3, by omega, by omega, rfl, by go_num, Lib.hid (by rw [HPs.out, List.length_append, List.length_singleton, Pl.cl_append, ← Pl.cl_one1]; exact RV.out), RB3, RM3, RR3, RI3, RZ3, ROB⟩
    · have hltz : ¬ (kk : Int) < (ss.length : Int) := by omega
      obtain rfl : kk = ss.length := by omega
      rw [List.take_length] at HO hpl
      have HNd2 := Lib.hid (ps_nodup (E := E) (n := n) (ms := ms) (n1 := n1) HNd.out)
      generalize ps E n ms n1 ss = l at HO HOd HNd2 hpl
      obtain ⟨A5, c5, rfl⟩ := own_slice HO.out
      have HA5 : Hid (A5 ≠ none) := Lib.hid (by rintro rfl; obtain ⟨q, e, _⟩ := HOB.out; cases e)
      have HSo := Lib.hid (sortRow28 w.heap.size A5 l.length c5 l wr HO.out BW.out.size HA5.out HNd2.out rfl (by omega))
      have hsl2 := Pl.srtP_len l
      have HOl := Lib.hid (show od.length = l.length by rw [HOd.out, List.length_map, hsl2])
      generalize Pl.srtP l = sl at HSo HOd hsl2
      clear HNd2 HO
      go_wp2_with (first
        | (go_at_call 28; (with_reducible refine HSo.out.mono ?_); rintro e w5 ⟨rfl, hr5, hb⟩; have R5 := Lib.hid hr5; have B5 := Lib.hid (BW.out.trans hb); clear hr5 hb)
        | (at_make; refine wpList_make_full _ rfl _ _ 26 rfl w.heap.size 3 i1 (.int .i64 0) 1 Try.underlying26 HI1.out.1 HI1.out.2.1 HI1.out.2.2.1 _ _ _ _ l.length rfl rfl rfl rfl (by rw [HI1.out.2.2.2]; omega) (by unfold maxLen; omega) B5.out.size ?_; intro w6 hown6 hg6; have O6 := Lib.hid hown6; have R6 := Lib.hid (R5.out.grew hg6 (fun b off e => by simp)); have B6 := Lib.hid (B5.out.grown hg6 B5.out.size (fun k hk => by cases hk)); clear hown6 hg6)
        | go_in)
      obtain ⟨cu0, hcu0, hcl0⟩ : ∃ cu, Blk w6 w5.heap.size cu 3 ∧ cu.length = l.length := by
        rcases O6.out.2 with ⟨hv, _⟩ | ⟨g, cap, cur, hv, hB, hg, hnc, hcm, hs, ht⟩
        · cases hv
        · simp only [Value.slice.injEq, Option.some.injEq, Addr.mk.injEq, and_true, true_and] at hv
          obtain ⟨rfl, rfl⟩ := hv
          exact ⟨cur.toList, ⟨by rw [Array.toArray_toList]; exact hg⟩, by rw [Array.length_toList]; omega⟩
      have K6 := Lib.hid hcu0
      have hA5 : Hid (∀ b off, A5 = some ⟨b, off, none⟩ → 0 < l.length → b < w5.heap.size) := Lib.hid (fun b off e h0 => by
        obtain ⟨b', off', e', hl', _⟩ := R5.out.get h0
        rw [e] at e'
        cases e'
        exact hl')
      have hg5 := hcu0.lt
      have B5s := Lib.hid B5.out.size
      clear hcu0 O6 B5 R5 HSo
      generalize w5.heap.size = g5 at K6 hA5 hg5 B5s
      go_loopg [15, 16, 61] l.length (fun gg _ _ s61 wr => ∃ (kk : Nat) (cu : List Value), kk ≤ l.length ∧ l.length - kk ≤ gg ∧ s61 = .int .i64 kk ∧ Hid (Blk wr g5 cu 3) ∧ cu.length = l.length ∧ Hid (cu.take kk = (sl.take kk).map (fun p => Value.int .i64 p.id)) ∧ Hid (Pl.Rcs wr A5 l.length c5 sl) ∧ Hid (Below w.heap.size w wr))
      case atStart => exact ⟨0, cu0, Nat.zero_le _, by omega, rfl, K6, hcl0, Lib.hid (by simp), R6, B6⟩
      case round =>
        obtain ⟨kk, cu, hkk, hg, rfl, K7, hcu, HT, R7, B7⟩ := hrel
        by_cases hlt : kk < l.length
        · have hltz : (kk : Int) < (l.length : Int) := by omega
          have hk0 : (0 : Int) ≤ (kk : Int) := by omega
          obtain ⟨b, off, rfl, hbl, hr, _⟩ := R7.out.get hlt
          have hbg := Lib.hid (hA5.out b off rfl (by omega))
          have HTk := Lib.hid (show (sl.take (kk + 1)).map (fun p => Value.int .i64 p.id) = (sl.take kk).map (fun p => Value.int .i64 p.id) ++ [.int .i64 (sl.getD kk Pl.t0).id] by
            rw [List.take_succ_eq_append_getElem (by omega), Pl.getD_at (by omega), List.map_append]; rfl)
          obtain ⟨pc, hpc⟩ : ∃ p, sl.getD kk Pl.t0 = p := ⟨_, rfl⟩
          rw [hpc] at hr HTk
          have q0 : wr.cell? ⟨b, off + kk * 3, none⟩ = some (.int .i64 pc.cl0) := hr 0 _ rfl
          have q1 : wr.cell? ⟨b, off + kk * 3 + 1, none⟩ = some (.int .i64 pc.tm) := hr 1 _ rfl
          have q2 : wr.cell? ⟨b, off + kk * 3 + 2, none⟩ = some (.int .i64 pc.id) := hr 2 _ rfl
          obtain ⟨x, hx⟩ : ∃ x, pc.id = x := ⟨_, rfl⟩
          rw [hx] at q2 HTk
          have k0 := K7.out.cell (List.getElem?_eq_getElem (show kk < cu.length by omega))
          have z0 := K7.out.free kk
          have hgl := K7.out.lt
          generalize cu[kk] = old at k0
          clear hr hpc hx
          go_wp2
          go_roundg (l.length - (kk + 1))
          case measure => omega
          case rel => 
            refine ⟨kk + 1, cu.set kk (.int .i64 x), by omega, by omega, by go_num, Lib.hid ((K7.out.set kk _).alloc _), by rw [List.length_set]; exact hcu, Lib.hid (by rw [take_set _ (by omega), HT.out, HTk.out]), Lib.hid ((R7.out.setOther (g := g5) kk (.int .i64 x) (fun b' off' e => by cases e; exact Nat.ne_of_lt hbg.out)).below ((Below.refl _ _).alloc (Nat.le_refl _) _)), Lib.hid ((B7.out.setCell (p := ⟨g5, kk, none⟩) B5s.out _).alloc (B7.out.setCell (p := ⟨g5, kk, none⟩) B5s.out _).size _)⟩
        · have hltz : ¬ (kk : Int) < (l.length : Int) := by omega
          obtain rfl : kk = l.length := by omega
          go_wp2
          go_ret
          have hK := K7.out
          have e1 : cu = od.map (Value.int .i64) := by
            have := HT.out
            rw [List.take_of_length_le (by omega), List.take_of_length_le (by omega)] at this
            rw [this, HOd.out, List.map_map]
            rfl
          rw [e1] at hK
          have hi := its_blk hK (by rw [HOl.out]; omega) HWo.out
          rw [HOl.out]
          rw [HOl.out] at hi
          exact ⟨_, _, rfl, hi, B7.out, fun b off e => by cases e; exact B5s.out⟩
end Go.Proofs.Ytoljlpddcpdoiaa
