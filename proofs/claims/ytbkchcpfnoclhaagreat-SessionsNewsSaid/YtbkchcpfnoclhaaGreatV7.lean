/- Sessions: maps of holders; Stale. Bounds: as holders; at most 900000 shares. -/
import Derived.Test.YtbkchcpfnoclhaaGreatV6
import Derived.Test.YtbkchcpfnoclhaaGreatMK
namespace Go.Proofs.YtbkchcpfnoclhaaGreat
set_option maxRecDepth 100000
open Go Go.RowKit
open Go.Maps (Keyed)
set_option linter.unusedVariables false
set_option linter.unusedSimpArgs false
set_option maxRecDepth 100000

theorem laidOut61 : laidOutB Tryz.prog = true := by kernel_rfl
theorem row61 : (39 : TypeId) < Tryz.prog.types.size := of_decide_eq_true (by kernel_rfl)
theorem wide61 : (match Tryz.prog.underlying 39 with | some (.array _ _) | some (.struct _) => true | _ => false) = true := by rw [Tryz.underlying39]
theorem law61 : Keyed Tryz.prog 39 := Keyed.of_law (deep_law_laid laidOut61 (m := 2) (by omega) row61 (by kernel_rfl) wide61)
theorem keyT61 : Tryz.prog.keyType 39 = true := by kernel_rfl
theorem cells61 : Tryz.prog.cellsOf 39 = 2 := by kernel_rfl
theorem cells9 : Tryz.prog.cellsOf 9 = 1 := by kernel_rfl
theorem lits61 (m : Nat) (u d : ByteArray) (hu : u.size ≤ maxLen) (hd : d.size ≤ maxLen) : Tryz.prog.keyLits (m + 2) 39 [.string u, .string d] = some [.string u.data.toList, .string d.data.toList] := by
  simp [Program.keyLits, Tryz.underlying39, Tryz.underlying9, cells61, cells9, hu, hd]
theorem types61 : ∃ m, Tryz.prog.types.size + 1 = m + 2 := by
  have h : 0 < Tryz.prog.types.size := Nat.lt_of_le_of_lt (Nat.zero_le 39) row61
  exact ⟨Tryz.prog.types.size - 1, by rw [show Tryz.prog.types.size - 1 + 2 = (Tryz.prog.types.size - 1 + 1) + 1 from rfl, Nat.sub_add_cancel h]⟩
/-- A device as a key. -/
def mkK (x : ByteArray × ByteArray) : Value := .agg #[.string x.1, .string x.2]
def kL (u d : ByteArray) : Lit := .string (keyBytes [.string u.data.toList, .string d.data.toList])
theorem key61 {u d : ByteArray} (hu : u.size ≤ maxLen) (hd : d.size ≤ maxLen) : keyOf Tryz.prog 39 (.agg #[.string u, .string d]) = some (kL u d) := by
  obtain ⟨m, hm⟩ := types61
  unfold keyOf
  rw [Tryz.underlying39]
  simp only [keyT61, hm]
  have hf : Value.formed Tryz.prog 39 (.agg #[.string u, .string d]) = true := by simp [Value.formed, Tryz.underlying39, cells61]
  rw [hf]
  have hc : (Value.agg #[.string u, .string d]).cells.toList = [.string u, .string d] := rfl
  rw [hc, lits61 m u d hu hd]
  rfl
theorem kL_inj {u d u' d' : ByteArray} (hu : u.size ≤ maxLen) (hd : d.size ≤ maxLen) (hu' : u'.size ≤ maxLen) (hd' : d'.size ≤ maxLen) (h : kL u d = kL u' d') : u = u' ∧ d = d' := by
  have := law61.inj (key61 hu hd) (h ▸ key61 hu' hd')
  simpa using this

theorem invK {key : Value} {kl : Lit} (h : keyOf Tryz.prog 39 key = some kl) : ∃ x : ByteArray × ByteArray, key = mkK x := by
  obtain ⟨m, hm⟩ := types61
  unfold keyOf at h
  rw [Tryz.underlying39] at h
  simp only [keyT61, hm, Bool.true_and] at h
  split at h
  · rename_i hf
    cases key <;> simp [Value.formed, Tryz.underlying39, cells61] at hf
    rename_i xs
    obtain ⟨l⟩ := xs
    match l, hf with
    | [a, b], _ =>
      simp only [Value.cells] at h
      have hl : ∃ ls, Tryz.prog.keyLits (m + 2) 39 [a, b] = some ls := by
        cases hk : Tryz.prog.keyLits (m + 2) 39 [a, b] with
        | none => simp [hk] at h
        | some ls => exact ⟨ls, rfl⟩
      obtain ⟨ls, hl⟩ := hl
      cases a <;> cases b <;> simp [Program.keyLits, Tryz.underlying39, Tryz.underlying9, cells61, cells9] at hl
      exact ⟨(_, _), rfl⟩
  · cases h
/-- Keys that are pairs of texts. -/
noncomputable def kPair : MK.KK Tryz.prog 39 (ByteArray × ByteArray) where
  val := mkK
  lit x := kL x.1 x.2
  ok x := x.1.size ≤ maxLen ∧ x.2.size ≤ maxLen
  law := law61
  key a ha := key61 ha.1 ha.2
  inj a b ha hb h := by
    obtain ⟨h1, h2⟩ := kL_inj ha.1 ha.2 hb.1 hb.2 h
    exact Prod.ext h1 h2
  isk _ := trivial
  mkinj a b h := by
    unfold mkK at h
    simp only [Value.agg.injEq, Array.mk.injEq, List.cons.injEq, Value.string.injEq, and_true] at h
    exact Prod.ext h.1 h.2
  inv v kl h1 := invK h1
noncomputable abbrev eB : MK.EK Tryz.prog 4 Bool := MK.eBool zero4
theorem under69 : Tryz.prog.underlying 71 = some (.map 39 4) := by kernel_rfl
set_option maxHeartbeats 1000000 in
theorem index33 (q : Rc → Bool) (c1 : Nat) (A : Option Addr) (n c : Nat) (zs : List Rc) (w : World) (h : Rcs w A n c zs) (hp : ∀ (p : Rc) (u : World), fitR p → Below w.heap.size w u → Calls Tryz.prog 38 #[.agg #[.string p.us, .string p.dv, .int .i64 p.ix], .pointer (some ⟨c1, 0, none⟩)] u fun e w' => e = .returned (.bool (q p)) ∧ Below u.heap.size u w') :
    Calls Tryz.prog 30 #[.slice A n c, .func (.func 38) #[] #[.pointer (some ⟨c1, 0, none⟩)]] w fun e w' => e = .returned (.int .i64 (fidx q zs)) ∧ Below w.heap.size w w' := by
  have H := Lib.hid h
  have HP := Lib.hid hp
  have hbig := h.rws.big
  unfold maxLen at hbig
  have HL := Lib.hid h.len
  clear h hp
  go_enter Tryz.func30, Tryz.ntmps30
  go_wp2
  go_loopg [5, 8] n (fun gg _ s8 wr => ∃ kk : Nat, kk ≤ n ∧ n - kk ≤ gg ∧ s8 = .int .i64 kk ∧ Hid (Below w.heap.size w wr) ∧ Hid (∀ j, j < kk → q (zs.getD j t0) = false))
  case atStart => exact ⟨0, Nat.zero_le _, by omega, rfl, Lib.hid (Below.refl _ w), Lib.hid (fun j hj => absurd hj (Nat.not_lt_zero _))⟩
  case round =>
    obtain ⟨kk, hkk, hg, rfl, BW, O⟩ := hrel
    by_cases hlt : kk < n
    · have hltz : (kk : Int) < (n : Int) := by omega
      obtain ⟨b, off, rfl, hbl, k0, k1, k2, hft⟩ := (H.out.below BW.out).at_ hlt
      have HQ := Lib.hid (HP.out (zs.getD kk t0) wr hft BW.out)
      have HV : Hid (∀ v, q (zs.getD kk t0) = v → q (zs.getD kk t0) = v) := Lib.hid (fun v h => h)
      generalize hz : zs.getD kk t0 = p at k0 k1 k2 HQ HV
      have HZ := Lib.hid hz
      clear hz
      cases hq : q p with
      | true =>
        have HF := Lib.hid (fidx_at (q := q) (by rw [HL.out]; exact hlt) (by rw [HZ.out]; exact hq) O.out)
        rw [hq] at HQ
        clear hq HV
        go_wp2_with (go_at_call 38; (with_reducible refine HQ.out.mono ?_); rintro e w' ⟨rfl, hb'⟩)
        go_ret
        exact ⟨ret_i64 HF.out.symm, BW.out.trans (hb'.mono BW.out.size)⟩
      | false =>
        have HF := Lib.hid hq
        rw [hq] at HQ
        clear hq HV
        go_wp2_with (go_at_call 38; (with_reducible refine HQ.out.mono ?_); rintro e w' ⟨rfl, hb'⟩)
        go_roundg (n - (kk + 1))
        case measure => omega
        case rel =>
          refine ⟨kk + 1, by omega, by omega, by go_num, Lib.hid (BW.out.trans (hb'.mono BW.out.size)), Lib.hid (fun j hj => ?_)⟩
          by_cases e : j = kk
          · subst e; rw [HZ.out]; exact HF.out
          · exact O.out j (by omega)
    · have hltz : ¬ (kk : Int) < (n : Int) := by omega
      have HF := Lib.hid (fidx_no (q := q) (zs := zs) (fun j hj => O.out j (by rw [HL.out] at hj; omega)))
      go_wp2
      go_ret
      exact ⟨ret_i64 HF.out.symm, BW.out⟩
/-- The map holds what P says. -/
def HasI (P : ByteArray × ByteArray → Bool) (zs : List ((ByteArray × ByteArray) × Bool)) : Prop := ∀ p, MK.lookA false zs p = P p
theorem HasI.nil : HasI (fun _ => false) [] := fun p => rfl
theorem HasI.put {P Q : ByteArray × ByteArray → Bool} {zs : List ((ByteArray × ByteArray) × Bool)} (h : HasI P zs) (a : ByteArray × ByteArray) (hq : ∀ p, Q p = (P p || decide (a = p))) : HasI Q (MK.putA zs a true) := fun c => by
  rw [MK.look_putA, hq, h c]
  by_cases e : c = a
  · subst e; simp
  · rw [if_neg e, decide_eq_false (show ¬ a = c from fun h => e h.symm), Bool.or_false]
/-- The holder is one of the list. -/
def hsH (hl : List Hd.Rc) (p : ByteArray × ByteArray) : Bool := hl.any (fun h => decide ((h.us, h.dv) = p))
theorem hsH_succ {hl : List Hd.Rc} {k : Nat} (hk : k < hl.length) (p : ByteArray × ByteArray) : hsH (hl.take (k + 1)) p = (hsH (hl.take k) p || decide (((hl.getD k Hd.t0).us, (hl.getD k Hd.t0).dv) = p)) := by
  unfold hsH
  rw [List.take_succ_eq_append_getElem hk, List.any_append, Hd.getD_at hk]
  simp
theorem hsH_iff {hl : List Hd.Rc} {p : ByteArray × ByteArray} : hsH hl p = true ↔ (⟨p.1, p.2⟩ : Hd.Rc) ∈ hl := by
  unfold hsH
  rw [List.any_eq_true]
  constructor
  · rintro ⟨h, hm, e⟩
    have := of_decide_eq_true e
    rw [← this]
    exact hm
  · intro h
    exact ⟨_, h, decide_eq_true rfl⟩
theorem has_look {w : World} {M m : Nat} {zs : List ((ByteArray × ByteArray) × Bool)} {tx sd : ByteArray} (h : MK.MapA kPair eB w M m zs) (h1 : tx.size ≤ 9223372036854775807) (h2 : sd.size ≤ 9223372036854775807) : (Instr.lookup 71 (.map (some M)) (.agg #[.string tx, .string sd]) false).run Tryz.prog w = .ok (.bool (MK.lookA false zs (tx, sd))) w := h.look under69 (a := (tx, sd)) ⟨by unfold maxLen; exact h1, by unfold maxLen; exact h2⟩
set_option maxHeartbeats 4000000 in
theorem closure33 (a d : ByteArray) (x : Int) (c1 M m : Nat) (zs : List ((ByteArray × ByteArray) × Bool)) (u : World) (hc : Blk u c1 [.map (some M)] 71) (hM : MK.MapA kPair eB u M m zs) (h1 : a.size ≤ 9223372036854775807) (h2 : d.size ≤ 9223372036854775807) : Calls Tryz.prog 38 #[.agg #[.string a, .string d, .int .i64 x], .pointer (some ⟨c1, 0, none⟩)] u fun e w' => e = .returned (.bool (!(MK.lookA false zs (a, d)))) ∧ Below u.heap.size u w' := by
  have BA := Lib.hid ((Below.refl u.heap.size u).alloc (Nat.le_refl _) (.cells #[.string a, .string d, .int .i64 x] 36))
  have XA := Lib.hid (blk_new u [.string a, .string d, .int .i64 x] 36)
  have XC := Lib.hid (hc.alloc (.cells #[.string a, .string d, .int .i64 x] 36))
  have HLk := Lib.hid (fun (w0 : World) (hb : Below (u.alloc (.cells #[.string a, .string d, .int .i64 x] 36)).heap.size (u.alloc (.cells #[.string a, .string d, .int .i64 x] 36)) w0) => has_look (tx := a) (sd := d) ((hM.alloc (.cells #[.string a, .string d, .int .i64 x] 36)).below hb) h1 h2)
  generalize MK.lookA false zs (a, d) = b0 at HLk ⊢
  clear hc hM h1 h2
  go_enter Tryz.func38, Tryz.ntmps38
  go_upto_region 1 with (fail)
  generalize hwa : World.alloc _ _ = wa at BA XA XC HLk ⊢
  clear hwa
  refine wp_region_held_drew (S := (fun y => Below wa.heap.size wa y)) (by kernel_rfl) ((Below.refl wa.heap.size wa).drew) (fun hH0 => ?_)
  generalize hy0 : World.drew _ = y0 at hH0 ⊢
  have RB0 : Hid (Below wa.heap.size wa y0) := Lib.hid hH0
  clear hy0
  refine wpAnyH_take (i := 0) (oi := ({ dst := some 4, op := Op.load 71 (Operand.tmp 1), type := 71, pos := "sessions.go:118", after := #[], guard := none } : Oper)) (v := .map (some M)) rfl (by kernel_rfl) (by kernel_rfl) (by kernel_rfl) (fun _ _ _ h => h) (Or.inl ⟨by rfl, fun w0 hw0 => by have q0 := (XC.out.below hw0).cell (i := 0) rfl; go_simp⟩) (by assumption) ?_
  try simp only [Act.put, List.setIfInBounds_toArray, List.set_cons_zero, List.set_cons_succ]
  refine wpAnyH_take (i := 1) (oi := ({ dst := some 5, op := Op.load 36 (Operand.tmp 2), type := 36, pos := "sessions.go:118", after := #[], guard := none } : Oper)) (v := .agg #[.string a, .string d, .int .i64 x]) rfl (by kernel_rfl) (by kernel_rfl) (by kernel_rfl) (fun _ _ _ h => h) (yieldsIf_load_mid (by rfl) 36 _ rfl u.heap.size 0 rfl [.string a, .string d, .int .i64 x] _ (fun w0 hw0 => (XA.out.below hw0).range) Tryz.underlying36 rfl size55) (by assumption) ?_
  try simp only [Act.put, List.setIfInBounds_toArray, List.set_cons_zero, List.set_cons_succ]
  refine wpAnyH_ready (rs := [2]) (by kernel_rfl) (by simp) ?_
  refine AllReadyH.cons (o := ({ dst := some 6, op := Op.call { callee := Callee.value (Operand.func 17), args := #[Operand.tmp 5], argTypes := #[36] }, type := 39, pos := "sessions.go:118", after := #[{ on := 1, ground := Ground.data }], guard := none } : Oper)) rfl (fun KK hKK => ?_) AllReadyH.nil
  go_simp
  (with_reducible refine (holderOf30 a d x _).mono ?_)
  rintro e0 y1 ⟨rfl, hb⟩
  have RB1 := Lib.hid (RB0.out.trans (hb.mono RB0.out.size))
  clear hb
  refine hKK.out _ _ (RB1.out) (fun hH1 => ?_)
  clear hKK KK
  try simp only [Act.put, List.setIfInBounds_toArray, List.set_cons_zero, List.set_cons_succ]
  refine wpAnyH_take (i := 3) (oi := ({ dst := some 7, op := Op.lookup 71 (Operand.tmp 4) (Operand.tmp 6) false, type := 4, pos := "sessions.go:118", after := #[{ on := 0, ground := Ground.data }, { on := 2, ground := Ground.data }], guard := none } : Oper)) (v := .bool b0) rfl (by kernel_rfl) (by kernel_rfl) (by kernel_rfl) (fun _ _ _ h => h) (Or.inl ⟨by rfl, fun w0 hw0 => by have q0 := HLk.out w0 hw0; go_simp⟩) (by assumption) ?_
  try simp only [Act.put, List.setIfInBounds_toArray, List.set_cons_zero, List.set_cons_succ]
  refine wpAnyH_take (i := 4) (oi := ({ dst := some 8, op := Op.unOp UnOp.not 4 (Operand.tmp 7), type := 4, pos := "sessions.go:118", after := #[{ on := 3, ground := Ground.data }], guard := none } : Oper)) (v := ?hv1) rfl (by kernel_rfl) (by kernel_rfl) (by kernel_rfl) (fun _ _ _ h => h) (Or.inl ⟨by rfl, ?hy1⟩) (by assumption) ?hr1
  case hy1 => (intro w hSw; (try dsimp only at hSw); go_simp; (try with_reducible rfl))
  try simp only [Act.put, List.setIfInBounds_toArray, List.set_cons_zero, List.set_cons_succ]
  refine wpAnyH_take (i := 5) (oi := ({ dst := some 3, op := Op.assign (Operand.tmp 8), type := 4, pos := "sessions.go:118", after := #[{ on := 4, ground := Ground.data }, { on := 2, ground := Ground.chain }, { on := 0, ground := Ground.phase }, { on := 1, ground := Ground.phase }, { on := 2, ground := Ground.phase }, { on := 3, ground := Ground.phase }, { on := 4, ground := Ground.phase }], guard := none } : Oper)) (v := ?hv2) rfl (by kernel_rfl) (by kernel_rfl) (by kernel_rfl) (fun _ _ _ h => h) (Or.inl ⟨by rfl, ?hy2⟩) (by assumption) ?hr2
  case hy2 => (intro w hSw; (try dsimp only at hSw); go_simp; (try with_reducible rfl))
  try simp only [Act.put, List.setIfInBounds_toArray, List.set_cons_zero, List.set_cons_succ]
  refine wpAnyH_done (by kernel_rfl) ?_ _
  go_wp2
  go_ret
  exact ⟨rfl, BA.out.trans (RB1.out.mono BA.out.size)⟩
/-- A share is of none of the holders. -/
def stlB (l : List Rc) (hl : List Hd.Rc) : Bool := l.any (fun p => !(hsH hl (p.us, p.dv)))
theorem fidx_any (q : Rc → Bool) (zs : List Rc) : decide ((0 : Int) ≤ fidx q zs) = zs.any q := by
  rcases fidx_cases q zs with ⟨e, hno⟩ | ⟨k, hk, e, hq, _⟩
  · rw [e, List.any_eq_false.2 (fun p hp => by rw [hno p hp]; decide)]; rfl
  · rw [e, List.any_eq_true.2 ⟨_, by rw [getD_at hk] at hq; exact List.getElem_mem hk, by rw [getD_at hk] at hq; exact hq⟩]
    exact decide_eq_true (by omega)
set_option maxHeartbeats 4000000 in
theorem contains32 (q : Rc → Bool) (c1 : Nat) (A : Option Addr) (n c : Nat) (zs : List Rc) (w : World) (h : Rcs w A n c zs) (hp : ∀ (p : Rc) (u : World), fitR p → Below w.heap.size w u → Calls Tryz.prog 38 #[.agg #[.string p.us, .string p.dv, .int .i64 p.ix], .pointer (some ⟨c1, 0, none⟩)] u fun e w' => e = .returned (.bool (q p)) ∧ Below u.heap.size u w') :
    Calls Tryz.prog 37 #[.slice A n c, .func (.func 38) #[] #[.pointer (some ⟨c1, 0, none⟩)]] w fun e w' => e = .returned (.bool (zs.any q)) ∧ Below w.heap.size w w' := by
  have HI := Lib.hid (index33 q c1 A n c zs w h hp)
  have HQ := Lib.hid (fidx_any q zs)
  generalize zs.any q = b at HQ ⊢
  generalize fidx q zs = k at HI HQ
  clear h hp
  go_enter Tryz.func37, Tryz.ntmps37
  go_wp2_with (first
    | (go_at_call 30; (with_reducible refine HI.out.mono ?_); rintro e w' ⟨rfl, hb⟩)
    | go_in)
  go_ret
  exact ⟨ret_bl HQ.out, hb⟩
theorem blk_grownK {w w1 : World} {t : Nat} {cs : List Value} {T : TypeId} {row : Option Nat} (h : Blk w t cs T) (hg : w.grownBy w1 row) (hne : some t ≠ row) : Blk w1 t cs T := ⟨(hg.block t h.lt hne).trans h.heap⟩
theorem nmB_len (ls : List ByteArray) : (nmB ls).length ≤ ls.length := by
  unfold nmB bs
  rw [List.length_map]
  have := I.length_nm (tx ls)
  rwa [tx_len] at this
theorem hold_len {w : World} {A1 : Option Addr} {n1 : Nat} {ms : List ByteArray} {A : Option Addr} {n : Nat} {K : Nat → Kd} (hm : Strs w A1 n1 ms) (hn : n1 ≤ 1000) (h : Kys w A n K) (hd : ∀ j, j < n → (K j).ds.length ≤ 900) : (holdL ms (dvI K n)).length ≤ 900000 := by
  have h1 := rkH_len (L := nmB ms) (f := fun u => nmB (dvI K n u)) (fun u => Nat.le_trans (nmB_len _) (dvI_len h hd u)) (nmB ms).length (Nat.le_refl _)
  have h2 := nmB_len ms
  rw [hm.1] at h2
  unfold rkH at h1
  rw [List.take_length] at h1
  unfold holdL
  exact Nat.le_trans h1 (by omega)
theorem below_put {w0 w w' : World} {M : Nat} (h : Below w0.heap.size w0 w) (hg : w.grownBy w' (some M)) (hB : w0.heap.size ≤ M) : Below w0.heap.size w0 w' := h.grown hg h.size (fun k e => by cases e; exact hB)
set_option maxHeartbeats 16000000 in
theorem stale20 (id : Int) (rm : ByteArray) (nx : Int) (A0 : Option Addr) (n0 c0 : Nat) (l : List Rc) (A1 : Option Addr) (n1 c1 : Nat) (ms : List ByteArray) (A : Option Addr) (n c : Nat) (K : Nat → Kd) (w : World) (h0 : Rcs w A0 n0 c0 l) (hm : Strs w A1 n1 ms) (hc1 : n1 ≤ c1) (hn1 : n1 ≤ 1000) (h : Kys w A n K) (hd : ∀ j, j < n → (K j).ds.length ≤ 900) : Calls Tryz.prog 26 #[.agg #[.int .i64 id, .string rm, .int .i64 nx, .slice A0 n0 c0], .slice A1 n1 c1, .slice A n c] w fun r w' => r = .returned (.bool (stlB l (holdL ms (dvI K n)))) ∧ Below w.heap.size w w' := by
  have XS := Lib.hid (((blk_new w (sC id rm nx A0 n0 c0) 24).alloc (.map #[] 0)).alloc (.cells #[.map none] 71))
  have M1 := Lib.hid (MK.MapA.made (K := kPair) (E := eB) (w.alloc (.cells #[.int .i64 id, .string rm, .int .i64 nx, .slice A0 n0 c0] 24)))
  have BA := Lib.hid (((Below.refl w.heap.size w).alloc (Nat.le_refl _) (.cells #[.int .i64 id, .string rm, .int .i64 nx, .slice A0 n0 c0] 24)).alloc (by simp) (.map #[] 0))
  have HH := Lib.hid (fun u (hb : Below w.heap.size w u) => holders31 A1 n1 c1 ms A n c K u (hm.below hb) hc1 hn1 (h.below hb) hd)
  have HHl : Hid ((holdL ms (dvI K n)).length ≤ 900000) := Lib.hid (hold_len hm hn1 h hd)
  have H0 := Lib.hid h0
  unfold HoldP at HH
  generalize holdL ms (dvI K n) = hl at HH HHl ⊢
  clear h0 hm h hd
  have hmm := @run_makeMap Tryz.prog
  go_enter Tryz.func26, Tryz.ntmps26
  go_upto_region 2 with (fail)
  have XSd := Lib.hid (show Blk (((w.alloc (.cells #[.int .i64 id, .string rm, .int .i64 nx, .slice A0 n0 c0] 24)).alloc (.map #[] 0)).alloc (.cells #[.map (some (w.heap.size + 1))] 71)) w.heap.size (sC id rm nx A0 n0 c0) 24 from ((blk_new w (sC id rm nx A0 n0 c0) 24).alloc (.map #[] 0)).alloc _)
  have XMd := Lib.hid (show Blk (((w.alloc (.cells #[.int .i64 id, .string rm, .int .i64 nx, .slice A0 n0 c0] 24)).alloc (.map #[] 0)).alloc (.cells #[.map (some (w.heap.size + 1))] 71)) (w.heap.size + 1 + 1) [.map (some (w.heap.size + 1))] 71 by
    have h1 := blk_new2 (w.alloc (.cells #[.int .i64 id, .string rm, .int .i64 nx, .slice A0 n0 c0] 24)) (.map #[] 0) [.map (some (w.heap.size + 1))] 71
    simp only [World.size_alloc] at h1
    exact h1)
  have Md := Lib.hid (show MK.MapA kPair eB (((w.alloc (.cells #[.int .i64 id, .string rm, .int .i64 nx, .slice A0 n0 c0] 24)).alloc (.map #[] 0)).alloc (.cells #[.map (some (w.heap.size + 1))] 71)) (w.heap.size + 1) 0 [] by
    have h1 := M1.out.alloc (.cells #[.map (some (w.heap.size + 1))] 71)
    rw [World.size_alloc] at h1
    exact h1)
  have Bd := Lib.hid (BA.out.alloc BA.out.size (.cells #[.map (some (w.heap.size + 1))] 71))
  generalize hwd : World.alloc _ _ = wd at XSd XMd Md Bd ⊢
  clear hwd XS M1 BA hmm
  go_upto_region 3 with (first
    | (go_at_call 36; (with_reducible refine (HH.out _ Bd.out).mono ?_); rintro e w2 ⟨AH, cH, rfl, hr, hnw, hb⟩; have R2 := Lib.hid hr; have NW := Lib.hid (show ∀ b off, AH = some ⟨b, off, none⟩ → some b ≠ some (w.heap.size + 1) from fun b off e e1 => by have h1 := hnw b off e; have h2 := Md.out.lt; have h3 : b = w.heap.size + 1 := Option.some.inj e1; omega); have X2 := Lib.hid (XSd.out.below hb); have Y2 := Lib.hid (XMd.out.below hb); have M2 := Lib.hid (Md.out.below hb); have B2 := Lib.hid (Bd.out.trans (hb.mono Bd.out.size)); clear hr hnw hb)
    | fail)
  have hhl := HHl.out
  clear XSd XMd Md Bd HH
  go_wp2
  go_loopg [9, 15] hl.length (fun gg _ s15 wr => ∃ (k m : Nat) (zs : List ((ByteArray × ByteArray) × Bool)), k ≤ hl.length ∧ hl.length - k ≤ gg ∧ m ≤ k ∧ s15 = .int .i64 (k : Int) ∧ Hid (MK.MapA kPair eB wr (w.heap.size + 1) m zs) ∧ Hid (HasI (hsH (hl.take k)) zs) ∧ Hid (Blk wr w.heap.size (sC id rm nx A0 n0 c0) 24) ∧ Hid (Blk wr (w.heap.size + 1 + 1) [.map (some (w.heap.size + 1))] 71) ∧ Hid (Hd.Rcs wr AH hl.length cH hl) ∧ Hid (Below w.heap.size w wr))
  case atStart => exact ⟨0, 0, [], Nat.zero_le _, by omega, Nat.le_refl _, rfl, M2, Lib.hid HasI.nil, X2, Y2, R2, B2⟩
  case round =>
    clear M2 X2 Y2 R2 B2
    obtain ⟨k, m, zs, hk, hg, hmk, rfl, HM, HI, XS, XM, HR, BW⟩ := hrel
    by_cases hlt : k < hl.length
    · have hltz : (k : Int) < (hl.length : Int) := by omega
      have hk0 : (0 : Int) ≤ (k : Int) := by omega
      obtain ⟨bh, oh, eh, hbh, hr, hft⟩ := HR.out.get hlt
      have HI2 := Lib.hid (HI.out.put (Q := hsH (hl.take (k + 1))) ((hl.getD k Hd.t0).us, (hl.getD k Hd.t0).dv) (fun p => hsH_succ hlt p))
      have HRg := Lib.hid hr
      have HFt := Lib.hid hft
      subst eh
      clear hr hft HI
      generalize hl.getD k Hd.t0 = hh at HI2 HRg HFt
      go_upto_region 5 with (first
        | (refine wpList_load_mid rfl 39 _ rfl bh (oh + k * 2) rfl (Hd.enc hh) _ HRg.out Tryz.underlying39 rfl size61 ?_)
        | (refine store_as61 rfl 39 _ _ rfl [.string ⟨#[]⟩, .string ⟨#[]⟩] (Hd.enc hh) rfl rfl rfl size61 (by simp [Hd.enc, Value.oneCell']) ?_; intro w4 hx hb; have X4 := Lib.hid hx; have C4 := Lib.hid hb; clear hx hb)
        | fail)
      have S4 := Lib.hid (XS.out.below C4.out)
      have Y4 := Lib.hid (XM.out.below C4.out)
      have M4 := Lib.hid (HM.out.below C4.out)
      have R4 := Lib.hid (HR.out.below C4.out)
      have B4 := Lib.hid (BW.out.trans (C4.out.mono BW.out.size))
      have y0 := Y4.out.cell (i := 0) rfl
      have RG4 := Lib.hid X4.out.range
      clear XS XM HM HR BW HRg
      go_wp2_with (first
        | (refine wpList_load_mid rfl 39 _ rfl wr.heap.size 0 rfl (Hd.enc hh) _ RG4.out Tryz.underlying39 rfl size61 ?_)
        | (at_mapUpdate; refine MK.wpList_putA rfl _ _ _ 71 rfl under69 (w.heap.size + 1) m zs rfl M4.out (by omega) (hh.us, hh.dv) true HFt.out trivial rfl rfl ?_; intro w5 hm5 hg5; have M5 := Lib.hid hm5; have S5 := Lib.hid (blk_grownK S4.out hg5 (by simp)); have Y5 := Lib.hid (blk_grownK Y4.out hg5 (by simp)); have R5 := Lib.hid (R4.out.grew hg5 NW.out); have B5 := Lib.hid (below_put B4.out hg5 (Nat.le_succ _)); clear hm5 hg5 y0)
        | go_in)
      go_roundg (hl.length - (k + 1))
      case measure => omega
      case rel => exact ⟨k + 1, m + 1, _, by omega, by omega, by omega, by go_num, M5, HI2, S5, Y5, R5, B5⟩
    · have hltz : ¬ (k : Int) < (hl.length : Int) := by omega
      obtain rfl : k = hl.length := by omega
      rw [List.take_length] at HI
      have y3 := XS.out.cell (i := 3) rfl
      have HC := Lib.hid (contains32 (fun p => !(hsH hl (p.us, p.dv))) (w.heap.size + 1 + 1) A0 n0 c0 l wr (H0.out.below BW.out) (fun p u hf hb => by
        have h1 := closure33 p.us p.dv p.ix (w.heap.size + 1 + 1) (w.heap.size + 1) m zs u (XM.out.below hb) (HM.out.below hb) hf.1 hf.2
        rw [HI.out (p.us, p.dv)] at h1
        exact h1))
      clear XS XM HM HR
      go_wp2_with (first
        | (go_at_call 37; (with_reducible refine HC.out.mono ?_); rintro e w' ⟨rfl, hb⟩)
        | go_in)
      go_ret
      exact ⟨rfl, BW.out.trans (hb.mono BW.out.size)⟩
end Go.Proofs.YtbkchcpfnoclhaaGreat
