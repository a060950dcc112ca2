/- From: the events that authorize an event. Bounds: a million parents, short lists. -/
import Derived.Test.YtbedibiodlgegaaK12
import Derived.Test.YtbedibiodlgegaaK13
namespace Go.Proofs.Ytbedibiodlgegaa
open Go Go.RowKit
set_option linter.unusedVariables false
set_option linter.unusedSimpArgs false

/-- The place of the event that z names, if its key is q. -/
def hit (E : Nat → Evd) (n : Nat) (q : Ky.Rc) (z : Int) : Option Nat := (pl E n z).bind fun k => if isEq (kyE (E k)) q then some k else none
def firstK (E : Nat → Evd) (n : Nat) (ps : List Int) (q : Ky.Rc) : Option Nat := ps.findSome? (hit E n q)
/-- What From gives for some keys. -/
def fromK (E : Nat → Evd) (n : Nat) (ps : List Int) (kl : List Ky.Rc) : List Evd := kl.filterMap fun q => (firstK E n ps q).map fun k => dat (E k)
def fromD (E : Nat → Evd) (n : Nat) (e : Evd) : List Evd := fromK E n e.p9 (keysE e)
theorem fromK_snoc {E : Nat → Evd} {n : Nat} {ps : List Int} {kl : List Ky.Rc} {k : Nat} (h : k < kl.length) : fromK E n ps (kl.take (k + 1)) = fromK E n ps (kl.take k) ++ ((firstK E n ps (kl.getD k Ky.t0)).map fun k => dat (E k)).toList := by
  unfold fromK
  rw [List.take_succ_eq_append_getElem h, List.filterMap_append, Ky.getD_at h]
  cases e : firstK E n ps kl[k] <;> simp [e]
theorem fromK_len (E : Nat → Evd) (n : Nat) (ps : List Int) (kl : List Ky.Rc) : (fromK E n ps kl).length ≤ kl.length := List.length_filterMap_le _ _
theorem first_hit {E : Nat → Evd} {n : Nat} {q : Ky.Rc} {k : Nat} : ∀ {ps : List Int} {j : Nat}, j < ps.length → (∀ i, i < j → hit E n q (ps.getD i 0) = none) → hit E n q (ps.getD j 0) = some k → firstK E n ps q = some k
  | [], _, h, _, _ => by simp at h
  | z :: zs, 0, _, _, h => by
    have h' : hit E n q z = some k := h
    show List.findSome? (hit E n q) (z :: zs) = _
    rw [List.findSome?_cons, h']
  | z :: zs, j + 1, hj, h1, h => by
    have h0 : hit E n q z = none := h1 0 (Nat.succ_pos _)
    show List.findSome? (hit E n q) (z :: zs) = _
    rw [List.findSome?_cons, h0]
    exact first_hit (ps := zs) (j := j) (by simpa using hj) (fun i hi => h1 (i + 1) (by omega)) h
theorem first_no {E : Nat → Evd} {n : Nat} {q : Ky.Rc} {ps : List Int} (h : ∀ i, i < ps.length → hit E n q (ps.getD i 0) = none) : firstK E n ps q = none := by
  unfold firstK
  rw [List.findSome?_eq_none_iff]
  intro z hz
  obtain ⟨i, hi, rfl⟩ := List.getElem_of_mem hz
  have := h i hi
  rwa [List.getD_eq_getElem?_getD, List.getElem?_eq_getElem hi] at this
theorem hit_none {E : Nat → Evd} {n : Nat} {q : Ky.Rc} {z : Int} (h : pl E n z = none) : hit E n q z = none := by unfold hit; rw [h]; rfl
theorem hit_some {E : Nat → Evd} {n : Nat} {q : Ky.Rc} {z : Int} {k : Nat} (h : pl E n z = some k) (e : kyE (E k) = q) : hit E n q z = some k := by
  unfold hit; rw [h]; show (if isEq (kyE (E k)) q then _ else _) = _; rw [if_pos (show isEq (kyE (E k)) q = true from decide_eq_true e)]
theorem hit_miss {E : Nat → Evd} {n : Nat} {q : Ky.Rc} {z : Int} {k : Nat} (h : pl E n z = some k) (e : ¬ kyE (E k) = q) : hit E n q z = none := by
  unfold hit; rw [h]; show (if isEq (kyE (E k)) q then _ else _) = _; rw [if_neg (by unfold isEq; rw [decide_eq_false e]; decide)]
theorem blk_grown {w w1 : World} {t : Nat} {cs : List Value} {T : TypeId} {row : Option Nat} (h : Blk w t cs T) (hg : w.grownBy w1 row) (hne : some t ≠ row) : Blk w1 t cs T := ⟨(hg.block t h.lt hne).trans h.heap⟩
set_option maxRecDepth 100000 in
set_option maxHeartbeats 8000000 in
theorem from22 (A : Option Addr) (n c : Nat) (E : Nat → Evd) (e : Evd) (w : World) (h : Evx w A n E) (hw : Wfe e) (h9 : Its w e.a9 e.n9 e.c9 e.p9) (hn : e.n9 ≤ 1000000) (hfe : ∀ j, j < n → Fe (E j)) : Calls Try.prog 22 #[.slice A n c, .agg (cellsE e).toArray] w (EvsP w (fromD E n e)) := by
  show Calls Try.prog 22 #[.slice A n c, .agg #[.int .i64 e.e0, .string e.e1, .string e.e2, .int .i64 e.e3, .bool e.e4, .string e.e5, .int .i64 e.e6, .int .i64 e.e7, .slice e.a8 e.n8 e.c8, .slice e.a9 e.n9 e.c9, .string e.C.tx, .int .i64 e.C.n, .int .i64 e.C.tg, .bool e.C.th, .string e.C.via, .slice e.a.aA e.C.nA e.a.aC, .slice e.a.dA e.C.nD e.a.dC, .slice e.a.uA e.C.lv.nU e.a.uC, .slice e.a.kA e.C.lv.nK e.a.kC, .int .i64 e.C.lv.d, .int .i64 e.C.lv.x3, .int .i64 e.C.lv.x4, .int .i64 e.C.lv.x5, .int .i64 e.C.lv.x6, .int .i64 e.C.lv.x7, .int .i64 e.C.lv.x8, .int .i64 e.e26, .string e.e27, .int .i64 e.e28]] w _
  generalize ha9 : e.a9 = a9
  rw [ha9] at h9
  obtain ⟨b0, off0, hA⟩ : ∃ b off, 0 < n → A = some ⟨b, off, none⟩ := by
    by_cases h0 : 0 < n
    · obtain ⟨b, off, e1, _⟩ := h.at_ h0; exact ⟨b, off, fun _ => e1⟩
    · exact ⟨0, 0, fun h1 => absurd h1 h0⟩
  have HA := Lib.hid hA
  have H := Lib.hid h
  have H9 := Lib.hid h9
  have HFe := Lib.hid hfe
  have hbig := h.big
  have HL9 := Lib.hid h9.len
  have hc9 := h9.cap
  have BA := Lib.hid (((Below.refl w.heap.size w).alloc (Nat.le_refl _) (.cells #[.int .i64 e.e0, .string e.e1, .string e.e2, .int .i64 e.e3, .bool e.e4, .string e.e5, .int .i64 e.e6, .int .i64 e.e7, .slice e.a8 e.n8 e.c8, .slice a9 e.n9 e.c9, .string e.C.tx, .int .i64 e.C.n, .int .i64 e.C.tg, .bool e.C.th, .string e.C.via, .slice e.a.aA e.C.nA e.a.aC, .slice e.a.dA e.C.nD e.a.dC, .slice e.a.uA e.C.lv.nU e.a.uC, .slice e.a.kA e.C.lv.nK e.a.kC, .int .i64 e.C.lv.d, .int .i64 e.C.lv.x3, .int .i64 e.C.lv.x4, .int .i64 e.C.lv.x5, .int .i64 e.C.lv.x6, .int .i64 e.C.lv.x7, .int .i64 e.C.lv.x8, .int .i64 e.e26, .string e.e27, .int .i64 e.e28] 34)).alloc (by simp) (.cells #[] 34))
  have XA : Hid (Blk ((w.alloc (.cells #[.int .i64 e.e0, .string e.e1, .string e.e2, .int .i64 e.e3, .bool e.e4, .string e.e5, .int .i64 e.e6, .int .i64 e.e7, .slice e.a8 e.n8 e.c8, .slice a9 e.n9 e.c9, .string e.C.tx, .int .i64 e.C.n, .int .i64 e.C.tg, .bool e.C.th, .string e.C.via, .slice e.a.aA e.C.nA e.a.aC, .slice e.a.dA e.C.nD e.a.dC, .slice e.a.uA e.C.lv.nU e.a.uC, .slice e.a.kA e.C.lv.nK e.a.kC, .int .i64 e.C.lv.d, .int .i64 e.C.lv.x3, .int .i64 e.C.lv.x4, .int .i64 e.C.lv.x5, .int .i64 e.C.lv.x6, .int .i64 e.C.lv.x7, .int .i64 e.C.lv.x8, .int .i64 e.e26, .string e.e27, .int .i64 e.e28] 34)).alloc (.cells #[] 34)) w.heap.size (#[.int .i64 e.e0, .string e.e1, .string e.e2, .int .i64 e.e3, .bool e.e4, .string e.e5, .int .i64 e.e6, .int .i64 e.e7, .slice e.a8 e.n8 e.c8, .slice a9 e.n9 e.c9, .string e.C.tx, .int .i64 e.C.n, .int .i64 e.C.tg, .bool e.C.th, .string e.C.via, .slice e.a.aA e.C.nA e.a.aC, .slice e.a.dA e.C.nD e.a.dC, .slice e.a.uA e.C.lv.nU e.a.uC, .slice e.a.kA e.C.lv.nK e.a.kC, .int .i64 e.C.lv.d, .int .i64 e.C.lv.x3, .int .i64 e.C.lv.x4, .int .i64 e.C.lv.x5, .int .i64 e.C.lv.x6, .int .i64 e.C.lv.x7, .int .i64 e.C.lv.x8, .int .i64 e.e26, .string e.e27, .int .i64 e.e28] : Array Value).toList 34) := Lib.hid (by rw [← ha9]; exact (blk_new w (cellsE e) 34).alloc _)
  have HK := Lib.hid (keysOf29 w.heap.size 0 e.e3 e.e2 e.e5 e.C.n _ ⟨XA.out.lt, XA.out.cell (i := 2) rfl, XA.out.cell (i := 3) rfl, XA.out.cell (i := 5) rfl, XA.out.cell (i := 11) rfl⟩ hw.s2 hw.s5)
  have OM : Hid (((w.alloc (.cells #[.int .i64 e.e0, .string e.e1, .string e.e2, .int .i64 e.e3, .bool e.e4, .string e.e5, .int .i64 e.e6, .int .i64 e.e7, .slice e.a8 e.n8 e.c8, .slice a9 e.n9 e.c9, .string e.C.tx, .int .i64 e.C.n, .int .i64 e.C.tg, .bool e.C.th, .string e.C.via, .slice e.a.aA e.C.nA e.a.aC, .slice e.a.dA e.C.nD e.a.dC, .slice e.a.uA e.C.lv.nU e.a.uC, .slice e.a.kA e.C.lv.nK e.a.kC, .int .i64 e.C.lv.d, .int .i64 e.C.lv.x3, .int .i64 e.C.lv.x4, .int .i64 e.C.lv.x5, .int .i64 e.C.lv.x6, .int .i64 e.C.lv.x7, .int .i64 e.C.lv.x8, .int .i64 e.e26, .string e.e27, .int .i64 e.e28] 34)).alloc (.cells #[] 34)).ownsRow w.heap.size 34 29 (.slice (some ⟨w.heap.size + 1, 0, none⟩) 0 0) 0 []) := Lib.hid (by
    have := World.ownsRow_made (base := w.heap.size) (e := 34) (size := 29) (w.alloc (.cells #[.int .i64 e.e0, .string e.e1, .string e.e2, .int .i64 e.e3, .bool e.e4, .string e.e5, .int .i64 e.e6, .int .i64 e.e7, .slice e.a8 e.n8 e.c8, .slice a9 e.n9 e.c9, .string e.C.tx, .int .i64 e.C.n, .int .i64 e.C.tg, .bool e.C.th, .string e.C.via, .slice e.a.aA e.C.nA e.a.aC, .slice e.a.dA e.C.nD e.a.dC, .slice e.a.uA e.C.lv.nU e.a.uC, .slice e.a.kA e.C.lv.nK e.a.kC, .int .i64 e.C.lv.d, .int .i64 e.C.lv.x3, .int .i64 e.C.lv.x4, .int .i64 e.C.lv.x5, .int .i64 e.C.lv.x6, .int .i64 e.C.lv.x7, .int .i64 e.C.lv.x8, .int .i64 e.e26, .string e.e27, .int .i64 e.e28] 34)) #[] 0 (by simp) (by decide) (by simp)
    rw [World.size_alloc] at this
    exact this)
  have HL := Lib.hid (keys_len e)
  obtain ⟨i0, hi, hz0, hz1, hz2⟩ := info_parts info34s
  have HI := Lib.hid (And.intro hi (And.intro hz0 (And.intro hz1 hz2)))
  unfold KeysP at HK
  rw [show Ky.keysL e.e3 e.e2 e.e5 e.C.n = keysE e from rfl] at HK
  unfold fromD
  generalize keysE e = kl at HK HL ⊢
  have HLF := Lib.hid (fromK_len E n e.p9 kl)
  clear hA h h9 hw hfe hi hz0 hz1 hz2 ha9
  go_enter Try.func22, Try.ntmps22
  go_wp2_with (first
    | (go_at_call 29; (with_reducible refine HK.out.mono ?_); rintro e1 w3 ⟨A3, c3, rfl, hr, hb, hf3⟩; have R3 := Lib.hid hr; have HF3 := Lib.hid (show ∀ b off, A3 = some ⟨b, off, none⟩ → w.heap.size + 1 < b from fun b off e => by have := hf3 b off e; simp only [World.size_alloc] at this; omega); have O3 := Lib.hid (own_keep OM.out (fun b _ hl => hb.block b hl)); have B3 := Lib.hid (BA.out.trans (hb.mono BA.out.size)); have X3 := Lib.hid (XA.out.below hb); have S3 := Lib.hid (show w.heap.size < w3.heap.size by have := hb.size; simp only [World.size_alloc] at this; omega); clear hr hb hf3)
    | go_in)
  have hll := HL.out
  go_loopg [5, 7, 9, 10, 14] kl.length (fun gg s5 _ _ _ s14 wr => ∃ (kk nf : Nat) (v : Value) (es : List Evd), kk ≤ kl.length ∧ kl.length - kk ≤ gg ∧ v = s5 ∧ s14 = .int .i64 (kk : Int) ∧ nf ≤ kk ∧ Hid (es.length = nf) ∧ Hid (wr.ownsRow w.heap.size 34 29 v nf (clE es)) ∧ Hid (es.map dat = fromK E n e.p9 (kl.take kk)) ∧ Hid (Kept wr v es) ∧ Hid (w3.heap.size ≤ wr.heap.size ∧ OBk (w.heap.size + 1) w3.heap.size v) ∧ Hid (Below w.heap.size w wr) ∧ Hid (Ky.Rcs wr A3 kl.length c3 kl) ∧ Hid (Blk wr w.heap.size (#[.int .i64 e.e0, .string e.e1, .string e.e2, .int .i64 e.e3, .bool e.e4, .string e.e5, .int .i64 e.e6, .int .i64 e.e7, .slice e.a8 e.n8 e.c8, .slice a9 e.n9 e.c9, .string e.C.tx, .int .i64 e.C.n, .int .i64 e.C.tg, .bool e.C.th, .string e.C.via, .slice e.a.aA e.C.nA e.a.aC, .slice e.a.dA e.C.nD e.a.dC, .slice e.a.uA e.C.lv.nU e.a.uC, .slice e.a.kA e.C.lv.nK e.a.kC, .int .i64 e.C.lv.d, .int .i64 e.C.lv.x3, .int .i64 e.C.lv.x4, .int .i64 e.C.lv.x5, .int .i64 e.C.lv.x6, .int .i64 e.C.lv.x7, .int .i64 e.C.lv.x8, .int .i64 e.e26, .string e.e27, .int .i64 e.e28] : Array Value).toList 34))
  case atStart => exact ⟨0, 0, _, [], Nat.zero_le _, by omega, rfl, rfl, Nat.le_refl _, Lib.hid rfl, O3, Lib.hid rfl, Lib.hid (Kept.nil _ _), Lib.hid ⟨Nat.le_refl _, _, rfl, .inl rfl⟩, B3, R3, X3⟩
  case round =>
    obtain ⟨kk, nf, v, es, hkk, hg, rfl, rfl, hnf, HEl, HO, HEs, HKe, HZ, BW, HR, HBe⟩ := hrel
    by_cases hlt : kk < kl.length
    · obtain ⟨wo, rfl⟩ : ∃ x : World, x = wr := ⟨_, rfl⟩
      have hltz : (kk : Int) < (kl.length : Int) := by omega
      have hk0 : (0 : Int) ≤ (kk : Int) := by omega
      obtain ⟨bk, ok, e0, hb0, _⟩ := R3.out.get hlt
      obtain ⟨b3, off3, e3, hl3, hr, _⟩ := HR.out.get hlt
      have HNE := Lib.hid (HZ.out.2.ne (HF3.out bk ok e0) hb0)
      have HNEe : Hid (some w.heap.size ≠ v.ownBlock) := Lib.hid (by
        obtain ⟨g, h1, h2⟩ := HZ.out.2
        rw [h1]
        intro h3
        cases h3
        have := S3.out
        omega)
      have HTk := Lib.hid (fromK_snoc (E := E) (n := n) (ps := e.p9) hlt)
      rw [e0] at e3
      simp only [Option.some.injEq, Addr.mk.injEq, and_true] at e3
      obtain ⟨rfl, rfl⟩ := e3
      have hzz := HZ.out.1
      generalize kl.getD kk Ky.t0 = q at hr HTk
      have q0 : wo.cell? ⟨bk, ok + kk * 3, none⟩ = some (.int .i64 q.k) := hr 0 _ rfl
      have q1 : wo.cell? ⟨bk, ok + kk * 3 + 1, none⟩ = some (.string q.key) := hr 1 _ rfl
      have q2 : wo.cell? ⟨bk, ok + kk * 3 + 2, none⟩ = some (.int .i64 q.id) := hr 2 _ rfl
      have XK := Lib.hid (show Blk (wo.alloc (.cells #[.int .i64 q.k, .string q.key, .int .i64 q.id] 64)) wo.heap.size (Ky.enc q) 64 from blk_new wo (Ky.enc q) 64)
      have BK := Lib.hid ((Below.refl wo.heap.size wo).alloc (Nat.le_refl _) (.cells #[.int .i64 q.k, .string q.key, .int .i64 q.id] 64))
      have k9 := (HBe.out.alloc (.cells #[.int .i64 q.k, .string q.key, .int .i64 q.id] 64)).cell (i := 9) (v := .slice a9 e.n9 e.c9) rfl
      clear hr
      subst e0
      go_wp2
      go_loopg [5, 9, 10, 21] e.n9 (fun gg s5 _ _ s21 WQ => ∃ jj : Nat, jj ≤ e.n9 ∧ e.n9 - jj ≤ gg ∧ v = s5 ∧ s21 = .int .i64 (jj : Int) ∧ Hid (∀ j, j < jj → hit E n q (e.p9.getD j 0) = none) ∧ Hid (Below (wo.alloc (.cells #[.int .i64 q.k, .string q.key, .int .i64 q.id] 64)).heap.size (wo.alloc (.cells #[.int .i64 q.k, .string q.key, .int .i64 q.id] 64)) WQ))
      case atStart => exact ⟨0, Nat.zero_le _, by omega, rfl, rfl, Lib.hid (fun j hj => absurd hj (Nat.not_lt_zero _)), Lib.hid (Below.refl _ _)⟩
      case round =>
        obtain ⟨jj, hjj, hgg, rfl, rfl, HJ, BQ⟩ := hrel
        have CQ := Lib.hid (BK.out.trans (BQ.out.mono BK.out.size))
        have BWQ := Lib.hid (BW.out.trans (CQ.out.mono BW.out.size))
        by_cases hl2 : jj < e.n9
        · have hl2z : (jj : Int) < (e.n9 : Int) := by omega
          have hj0 : (0 : Int) ≤ (jj : Int) := by omega
          obtain ⟨b9, o9, rfl, hb9, q9, _⟩ := (H9.out.below BWQ.out).get hl2
          have CF := Lib.hid (find35 A n c (e.p9.getD jj 0) E wr (H.out.below BWQ.out))
          have HF0 := Lib.hid (fun k h2 => first_hit (E := E) (n := n) (q := q) (k := k) (ps := e.p9) (j := jj) (by rw [HL9.out]; exact hl2) HJ.out h2)
          have HJ1 : Hid (hit E n q (e.p9.getD jj 0) = none → ∀ j, j < jj + 1 → hit E n q (e.p9.getD j 0) = none) := Lib.hid (fun h1 j hj => by
            by_cases e1 : j = jj
            · subst e1; exact h1
            · exact HJ.out j (by omega))
          generalize e.p9.getD jj 0 = z at q9 CF HF0 HJ1
          cases hp : pl E n z with
          | none =>
            rw [hp, show plI none = -1 from rfl] at CF
            have HJ2 := Lib.hid (HJ1.out (hit_none hp))
            clear hp HJ1 HF0
            go_upto_region 9 with (first
              | (go_at_call 35; (with_reducible refine CF.out.mono ?_); rintro r w' ⟨rfl, rfl⟩)
              | fail)
            refine wp_region_held_drew (S := (fun y => Below wr.heap.size wr y)) (by kernel_rfl) ((Below.refl wr.heap.size wr).drew) (fun hH0 => ?_)
            generalize hy0 : World.drew _ = y0 at hH0 ⊢
            have RB0 : Hid (Below wr.heap.size wr y0) := Lib.hid hH0
            clear hy0
            refine wpAnyH_take (i := 0) (oi := ({ dst := some 28, op := Op.move (Operand.tmp 10), type := 3, pos := "authset.go:106", after := #[], guard := none } : Oper)) (v := ?hv1) rfl (by kernel_rfl) (by kernel_rfl) (by kernel_rfl) (fun _ _ _ h => h) (Or.inl ⟨by rfl, ?hy1⟩) (by assumption) ?hr1
            case hy1 => (intro w hSw; (try dsimp only at hSw); go_simp; (try with_reducible rfl))
            try simp only [Act.put, List.setIfInBounds_toArray, List.set_cons_zero, List.set_cons_succ]
            refine wpAnyH_take (i := 1) (oi := ({ dst := some 29, op := Op.binOp BinOp.geq 3 (Operand.tmp 28) (Operand.const (Value.int IntKind.i64 0)) 3, type := 4, pos := "authset.go:106", after := #[{ on := 0, ground := Ground.data }], guard := none } : Oper)) (v := ?hv2) rfl (by kernel_rfl) (by kernel_rfl) (by kernel_rfl) (fun _ _ _ h => h) (Or.inl ⟨by rfl, ?hy2⟩) (by assumption) ?hr2
            case hy2 => (intro w hSw; (try dsimp only at hSw); go_simp; (try with_reducible rfl))
            try simp only [Act.put, List.setIfInBounds_toArray, List.set_cons_zero, List.set_cons_succ]
            refine wpAnyH_take (i := 2) (oi := ({ dst := some 30, op := Op.move (Operand.tmp 29), type := 4, pos := "authset.go:106", after := #[{ on := 1, ground := Ground.data }], guard := none } : Oper)) (v := ?hv3) rfl (by kernel_rfl) (by kernel_rfl) (by kernel_rfl) (fun _ _ _ h => h) (Or.inl ⟨by rfl, ?hy3⟩) (by assumption) ?hr3
            case hy3 => (intro w hSw; (try dsimp only at hSw); go_simp; (try with_reducible rfl))
            try simp only [Act.put, List.setIfInBounds_toArray, List.set_cons_zero, List.set_cons_succ]
            refine wpAnyH_take (i := 3) (oi := ({ dst := some 31, op := Op.move (Operand.tmp 0), type := 44, pos := "authset.go:106", after := #[{ on := 2, ground := Ground.guard }], guard := some (2, true) } : Oper)) (v := undef) rfl (by kernel_rfl) (by kernel_rfl) (by kernel_rfl) (fun _ _ _ h => h) (Or.inr ⟨by rfl, rfl⟩) (by assumption) ?_
            try simp only [Act.put, List.setIfInBounds_toArray, List.set_cons_zero, List.set_cons_succ]
            refine wpAnyH_take (i := 4) (oi := ({ dst := some 32, op := Op.move (Operand.tmp 10), type := 3, pos := "authset.go:106", after := #[{ on := 2, ground := Ground.guard }], guard := some (2, true) } : Oper)) (v := undef) rfl (by kernel_rfl) (by kernel_rfl) (by kernel_rfl) (fun _ _ _ h => h) (Or.inr ⟨by rfl, rfl⟩) (by assumption) ?_
            try simp only [Act.put, List.setIfInBounds_toArray, List.set_cons_zero, List.set_cons_succ]
            refine wpAnyH_take (i := 5) (oi := ({ dst := some 33, op := Op.indexAddr 44 (Operand.tmp 31) (Operand.tmp 32), type := 0, pos := "authset.go:106", after := #[{ on := 3, ground := Ground.data }, { on := 4, ground := Ground.data }, { on := 2, ground := Ground.guard }], guard := some (2, true) } : Oper)) (v := undef) rfl (by kernel_rfl) (by kernel_rfl) (by kernel_rfl) (fun _ _ _ h => h) (Or.inr ⟨by rfl, rfl⟩) (by assumption) ?_
            try simp only [Act.put, List.setIfInBounds_toArray, List.set_cons_zero, List.set_cons_succ]
            refine wpAnyH_take (i := 7) (oi := ({ dst := some 35, op := Op.load 64 (Operand.tmp 7), type := 64, pos := "authset.go:106", after := #[{ on := 2, ground := Ground.guard }], guard := some (2, true) } : Oper)) (v := undef) rfl (by kernel_rfl) (by kernel_rfl) (by kernel_rfl) (fun _ _ _ h => h) (Or.inr ⟨by rfl, rfl⟩) (by assumption) ?_
            try simp only [Act.put, List.setIfInBounds_toArray, List.set_cons_zero, List.set_cons_succ]
            refine wpAnyH_ready (rs := [6]) (by kernel_rfl) (by simp) ?_
            refine AllReadyH.cons (o := ({ dst := some 34, op := Op.call { callee := Callee.value (Operand.func 36), args := #[Operand.tmp 33], argTypes := #[63] }, type := 64, pos := "authset.go:106", after := #[{ on := 5, ground := Ground.data }, { on := 2, ground := Ground.chain }, { on := 2, ground := Ground.guard }], guard := some (2, true) } : Oper)) rfl (fun KK hKK => ?_) AllReadyH.nil
            go_simp
            refine hKK.out _ _ (hH0) (fun hH1 => ?_)
            clear hKK KK
            try simp only [Act.put, List.setIfInBounds_toArray, List.set_cons_zero, List.set_cons_succ]
            refine wpAnyH_take (i := 8) (oi := ({ dst := some 36, op := Op.binOp BinOp.eql 64 (Operand.tmp 34) (Operand.tmp 35) 64, type := 4, pos := "authset.go:106", after := #[{ on := 6, ground := Ground.data }, { on := 7, ground := Ground.data }, { on := 2, ground := Ground.guard }], guard := some (2, true) } : Oper)) (v := undef) rfl (by kernel_rfl) (by kernel_rfl) (by kernel_rfl) (fun _ _ _ h => h) (Or.inr ⟨by rfl, rfl⟩) (by assumption) ?_
            try simp only [Act.put, List.setIfInBounds_toArray, List.set_cons_zero, List.set_cons_succ]
            refine wpAnyH_take (i := 9) (oi := ({ dst := some 37, op := Op.pick (Operand.tmp 30) (Operand.tmp 36) (Operand.const (Value.bool false)), type := 4, pos := "authset.go:106", after := #[{ on := 2, ground := Ground.data }, { on := 8, ground := Ground.data }], guard := none } : Oper)) (v := ?hv4) rfl (by kernel_rfl) (by kernel_rfl) (by kernel_rfl) (fun _ _ _ h => h) (Or.inl ⟨by rfl, ?hy4⟩) (by assumption) ?hr4
            case hy4 => (intro w hSw; (try dsimp only at hSw); go_simp; (try with_reducible rfl))
            try simp only [Act.put, List.setIfInBounds_toArray, List.set_cons_zero, List.set_cons_succ]
            refine wpAnyH_done (by kernel_rfl) ?_ _
            go_wp2
            go_roundg (e.n9 - (jj + 1))
            case measure => omega
            case rel => exact ⟨jj + 1, by omega, by omega, rfl, by go_num, HJ2, Lib.hid (BQ.out.trans (RB0.out.mono BQ.out.size))⟩
          | some k =>
            have hkn := pl_lt hp
            have hA' := HA.out (by omega)
            rw [hp, show plI (some k) = (k : Int) from rfl] at CF
            have hkz : (k : Int) < (n : Int) := by omega
            have hkz0 : (0 : Int) ≤ (k : Int) := by omega
            subst hA'
            have HEv := Lib.hid (fun u (hb : Below wr.heap.size wr u) => keyOf36 b0 (off0 + k * 29) (E k).e3 (E k).e2 (E k).e5 (E k).C.n u (((H.out.below BWQ.out).below hb).parts hkn).1)
            have HKB := Lib.hid (show ∀ u, Below wr.heap.size wr u → u.cell? ⟨wo.heap.size, 0, none⟩ = some (.int .i64 q.k) ∧ u.cell? ⟨wo.heap.size, 1, none⟩ = some (.string q.key) ∧ u.cell? ⟨wo.heap.size, 2, none⟩ = some (.int .i64 q.id) from fun u hb => ⟨((XK.out.below BQ.out).below hb).cell (i := 0) rfl, ((XK.out.below BQ.out).below hb).cell (i := 1) rfl, ((XK.out.below BQ.out).below hb).cell (i := 2) rfl⟩)
            by_cases hq : kyE (E k) = q
            · have HD := Lib.hid (show decide (Ky.kz (E k).e3 (E k).e5 = q) = true from decide_eq_true hq)
              have HE0 := Lib.hid hq
              have HF1 := Lib.hid (HF0.out k (hit_some hp hq))
              clear hp hq HJ1 HF0
              go_upto_region 9 with (first
                | (go_at_call 35; (with_reducible refine CF.out.mono ?_); rintro r w' ⟨rfl, rfl⟩)
                | fail)
              refine wp_region_held_drew (S := (fun y => Below wr.heap.size wr y)) (by kernel_rfl) ((Below.refl wr.heap.size wr).drew) (fun hH0 => ?_)
              generalize hy0 : World.drew _ = y0 at hH0 ⊢
              have RB0 : Hid (Below wr.heap.size wr y0) := Lib.hid hH0
              clear hy0
              refine wpAnyH_take (i := 0) (oi := ({ dst := some 28, op := Op.move (Operand.tmp 10), type := 3, pos := "authset.go:106", after := #[], guard := none } : Oper)) (v := ?hv12) rfl (by kernel_rfl) (by kernel_rfl) (by kernel_rfl) (fun _ _ _ h => h) (Or.inl ⟨by rfl, ?hy12⟩) (by assumption) ?hr12
              case hy12 => (intro w hSw; (try dsimp only at hSw); go_simp; (try with_reducible rfl))
              try simp only [Act.put, List.setIfInBounds_toArray, List.set_cons_zero, List.set_cons_succ]
              refine wpAnyH_take (i := 1) (oi := ({ dst := some 29, op := Op.binOp BinOp.geq 3 (Operand.tmp 28) (Operand.const (Value.int IntKind.i64 0)) 3, type := 4, pos := "authset.go:106", after := #[{ on := 0, ground := Ground.data }], guard := none } : Oper)) (v := ?hv13) rfl (by kernel_rfl) (by kernel_rfl) (by kernel_rfl) (fun _ _ _ h => h) (Or.inl ⟨by rfl, ?hy13⟩) (by assumption) ?hr13
              case hy13 => (intro w hSw; (try dsimp only at hSw); go_simp; (try with_reducible rfl))
              try simp only [Act.put, List.setIfInBounds_toArray, List.set_cons_zero, List.set_cons_succ]
              refine wpAnyH_take (i := 2) (oi := ({ dst := some 30, op := Op.move (Operand.tmp 29), type := 4, pos := "authset.go:106", after := #[{ on := 1, ground := Ground.data }], guard := none } : Oper)) (v := ?hv14) rfl (by kernel_rfl) (by kernel_rfl) (by kernel_rfl) (fun _ _ _ h => h) (Or.inl ⟨by rfl, ?hy14⟩) (by assumption) ?hr14
              case hy14 => (intro w hSw; (try dsimp only at hSw); go_simp; (try with_reducible rfl))
              try simp only [Act.put, List.setIfInBounds_toArray, List.set_cons_zero, List.set_cons_succ]
              refine wpAnyH_take (i := 3) (oi := ({ dst := some 31, op := Op.move (Operand.tmp 0), type := 44, pos := "authset.go:106", after := #[{ on := 2, ground := Ground.guard }], guard := some (2, true) } : Oper)) (v := ?hv15) rfl (by kernel_rfl) (by kernel_rfl) (by kernel_rfl) (fun _ _ _ h => h) (Or.inl ⟨by rfl, ?hy15⟩) (by assumption) ?hr15
              case hy15 => (intro w hSw; (try dsimp only at hSw); go_simp; (try with_reducible rfl))
              try simp only [Act.put, List.setIfInBounds_toArray, List.set_cons_zero, List.set_cons_succ]
              refine wpAnyH_take (i := 4) (oi := ({ dst := some 32, op := Op.move (Operand.tmp 10), type := 3, pos := "authset.go:106", after := #[{ on := 2, ground := Ground.guard }], guard := some (2, true) } : Oper)) (v := ?hv16) rfl (by kernel_rfl) (by kernel_rfl) (by kernel_rfl) (fun _ _ _ h => h) (Or.inl ⟨by rfl, ?hy16⟩) (by assumption) ?hr16
              case hy16 => (intro w hSw; (try dsimp only at hSw); go_simp; (try with_reducible rfl))
              try simp only [Act.put, List.setIfInBounds_toArray, List.set_cons_zero, List.set_cons_succ]
              refine wpAnyH_take (i := 5) (oi := ({ dst := some 33, op := Op.indexAddr 44 (Operand.tmp 31) (Operand.tmp 32), type := 0, pos := "authset.go:106", after := #[{ on := 3, ground := Ground.data }, { on := 4, ground := Ground.data }, { on := 2, ground := Ground.guard }], guard := some (2, true) } : Oper)) (v := ?hv17) rfl (by kernel_rfl) (by kernel_rfl) (by kernel_rfl) (fun _ _ _ h => h) (Or.inl ⟨by rfl, ?hy17⟩) (by assumption) ?hr17
              case hy17 => (intro w hSw; (try dsimp only at hSw); go_simp; (try with_reducible rfl))
              try simp only [Act.put, List.setIfInBounds_toArray, List.set_cons_zero, List.set_cons_succ]
              refine wpAnyH_take (i := 7) (oi := ({ dst := some 35, op := Op.load 64 (Operand.tmp 7), type := 64, pos := "authset.go:106", after := #[{ on := 2, ground := Ground.guard }], guard := some (2, true) } : Oper)) (v := .agg #[.int .i64 q.k, .string q.key, .int .i64 q.id]) rfl (by kernel_rfl) (by kernel_rfl) (by kernel_rfl) (fun _ _ _ h => h) (Or.inl ⟨by rfl, fun w0 hw0 => by obtain ⟨q0, q1, q2⟩ := HKB.out w0 hw0; go_simp⟩) (by assumption) ?_
              try simp only [Act.put, List.setIfInBounds_toArray, List.set_cons_zero, List.set_cons_succ]
              refine wpAnyH_ready (rs := [6]) (by kernel_rfl) (by simp) ?_
              refine AllReadyH.cons (o := ({ dst := some 34, op := Op.call { callee := Callee.value (Operand.func 36), args := #[Operand.tmp 33], argTypes := #[63] }, type := 64, pos := "authset.go:106", after := #[{ on := 5, ground := Ground.data }, { on := 2, ground := Ground.chain }, { on := 2, ground := Ground.guard }], guard := some (2, true) } : Oper)) rfl (fun KK hKK => ?_) AllReadyH.nil
              go_simp
              (with_reducible refine (HEv.out _ RB0.out).mono ?_)
              rintro e0 y1 ⟨rfl, hb⟩
              have RB1 := Lib.hid (RB0.out.trans (hb.mono RB0.out.size))
              clear hb
              refine hKK.out _ _ (RB1.out) (fun hH1 => ?_)
              clear hKK KK
              try simp only [Act.put, List.setIfInBounds_toArray, List.set_cons_zero, List.set_cons_succ]
              refine wpAnyH_take (i := 8) (oi := ({ dst := some 36, op := Op.binOp BinOp.eql 64 (Operand.tmp 34) (Operand.tmp 35) 64, type := 4, pos := "authset.go:106", after := #[{ on := 6, ground := Ground.data }, { on := 7, ground := Ground.data }, { on := 2, ground := Ground.guard }], guard := some (2, true) } : Oper)) (v := .bool true) rfl (by kernel_rfl) (by kernel_rfl) (by kernel_rfl) (fun _ _ _ h => h) (Or.inl ⟨by rfl, fun w0 hw0 => by go_simp; first | exact (Ky.eq_ifs (Ky.kz (E k).e3 (E k).e5) q (fun b => Result.ok (Next.value (.bool b)) w0)).trans (by rw [HD.out]) | exact fun a b c => HE0.out ((Ky.eq_iff3 (Ky.kz (E k).e3 (E k).e5) q).2 ⟨a, b, c⟩)⟩) (by assumption) ?_
              try simp only [Act.put, List.setIfInBounds_toArray, List.set_cons_zero, List.set_cons_succ]
              refine wpAnyH_take (i := 9) (oi := ({ dst := some 37, op := Op.pick (Operand.tmp 30) (Operand.tmp 36) (Operand.const (Value.bool false)), type := 4, pos := "authset.go:106", after := #[{ on := 2, ground := Ground.data }, { on := 8, ground := Ground.data }], guard := none } : Oper)) (v := ?hv18) rfl (by kernel_rfl) (by kernel_rfl) (by kernel_rfl) (fun _ _ _ h => h) (Or.inl ⟨by rfl, ?hy18⟩) (by assumption) ?hr18
              case hy18 => (intro w hSw; (try dsimp only at hSw); go_simp; (try with_reducible rfl))
              try simp only [Act.put, List.setIfInBounds_toArray, List.set_cons_zero, List.set_cons_succ]
              refine wpAnyH_done (by kernel_rfl) ?_ _
              have CY := Lib.hid (BK.out.trans ((BQ.out.trans (RB1.out.mono BQ.out.size)).mono BK.out.size))
              have BY := Lib.hid (BW.out.trans (CY.out.mono BW.out.size))
              have HEk := Lib.hid ((H.out.below BY.out))
              obtain ⟨bE, oE, eE, R⟩ := HEk.out.get hkn
              simp only [Option.some.injEq, Addr.mk.injEq, and_true] at eE
              obtain ⟨rfl, rfl⟩ := eE
              have HC := Lib.hid (clone43e (E k) y1 (HEk.out.ct k hkn) (HEk.out.pa k hkn).1 (HEk.out.pa k hkn).2 (HFe.out k hkn))
              have HWk := Lib.hid (HEk.out.wf k hkn)
              go_wp2_with (first
                | (refine wpList_load_mid rfl 34 _ rfl b0 (off0 + k * 29) rfl (cellsE (E k)) _ R.out Try.underlying34 rfl size39 ?_)
                | (go_at_call 43; (with_reducible refine HC.out.mono ?_); rintro e1 w5 ⟨A8, d8, A9, d9, aN, rfl, hic, hi8, hi9, hb, hap⟩; have HBx := Lib.hid (show Beh w5 (mvE (E k) A8 d8 A9 d9 aN) from ⟨hic, hi8, hi9⟩); have HWx := Lib.hid (wfe_mv HWk.out A8 d8 A9 d9 aN); have HDx := Lib.hid (dat_mv (E k) A8 d8 A9 d9 aN); have HAx := Lib.hid hap; have C5 := Lib.hid (CY.out.trans (hb.mono CY.out.size)); clear hic hi8 hi9 hap hb; generalize mvE (E k) A8 d8 A9 d9 aN = x at HBx HWx HDx HAx ⊢; have C5a := Lib.hid (C5.out.alloc C5.out.size (.cells (cellsE x).toArray 34)); have B5a := Lib.hid (BW.out.trans (C5a.out.mono BW.out.size)); have O5a := Lib.hid (own_keep HO.out (fun b _ hl => C5a.out.block b hl)))
                | (refine wpList_buildSliceTo rfl 44 34 1 _ rfl w5.heap.size rfl _ rfl Try.underlying44 (cellsE x).toArray (built34 x) ?_)
                | (at_builtin; refine wpList_append_any _ rfl _ _ 44 rfl w.heap.size 34 i0 _ 29 376 Try.underlying44 HI.out.1 HI.out.2.1 HI.out.2.2.1 HI.out.2.2.2 rfl (by decide) _ nf (clE es) rfl O5a.out (some ⟨w5.heap.size, 0, none⟩) 1 1 (cellsE x) rfl (srcE w5 x) (by unfold maxLen; omega) (by omega) B5a.out.size ?_; intro v6 w6 hgr; have B6 := Lib.hid (hgr.below B5a.out O5a.out); have O6 := Lib.hid hgr.own; have K6 := Lib.hid (((HKe.out.below C5a.out).snoc (HBx.out.below ((Below.refl _ w5).alloc (Nat.le_refl _) _)) HWx.out (fun g hg => HAx.out g (Nat.lt_of_lt_of_le (HO.out.lt g hg).2 CY.out.size))).grew hgr); have R6 := Lib.hid ((HR.out.below C5a.out).grew hgr.grow (fun b off e => by cases e; exact HNE.out)); have X6 := Lib.hid (blk_grown (HBe.out.below C5a.out) hgr.grow HNEe.out); have Z6 := Lib.hid (show w3.heap.size ≤ w6.heap.size ∧ OBk (w.heap.size + 1) w3.heap.size v6 from ⟨Nat.le_trans HZ.out.1 (Nat.le_trans C5a.out.size hgr.grow.size), obk_step HZ.out.2 hgr.at_ (Nat.le_trans HZ.out.1 C5a.out.size)⟩); clear hgr; rw [clE_snoc] at O6)
                | go_in)
              go_roundg (kl.length - (kk + 1))
              case measure => omega
              case rel => exact ⟨kk + 1, nf + 1, v6, es ++ [x], by omega, by omega, rfl, by go_num, by omega, Lib.hid (by rw [List.length_append, HEl.out]; rfl), O6, Lib.hid (by rw [List.map_append, HEs.out, HTk.out, HF1.out, List.map_cons, HDx.out]; rfl), K6, Z6, B6, R6, X6⟩
            · have HD := Lib.hid (show decide (Ky.kz (E k).e3 (E k).e5 = q) = false from decide_eq_false hq)
              have HE0 := Lib.hid hq
              have HJ2 := Lib.hid (HJ1.out (hit_miss hp hq))
              clear hp hq HJ1 HF0
              go_upto_region 9 with (first
                | (go_at_call 35; (with_reducible refine CF.out.mono ?_); rintro r w' ⟨rfl, rfl⟩)
                | fail)
              refine wp_region_held_drew (S := (fun y => Below wr.heap.size wr y)) (by kernel_rfl) ((Below.refl wr.heap.size wr).drew) (fun hH0 => ?_)
              generalize hy0 : World.drew _ = y0 at hH0 ⊢
              have RB0 : Hid (Below wr.heap.size wr y0) := Lib.hid hH0
              clear hy0
              refine wpAnyH_take (i := 0) (oi := ({ dst := some 28, op := Op.move (Operand.tmp 10), type := 3, pos := "authset.go:106", after := #[], guard := none } : Oper)) (v := ?hv5) rfl (by kernel_rfl) (by kernel_rfl) (by kernel_rfl) (fun _ _ _ h => h) (Or.inl ⟨by rfl, ?hy5⟩) (by assumption) ?hr5
              case hy5 => (intro w hSw; (try dsimp only at hSw); go_simp; (try with_reducible rfl))
              try simp only [Act.put, List.setIfInBounds_toArray, List.set_cons_zero, List.set_cons_succ]
              refine wpAnyH_take (i := 1) (oi := ({ dst := some 29, op := Op.binOp BinOp.geq 3 (Operand.tmp 28) (Operand.const (Value.int IntKind.i64 0)) 3, type := 4, pos := "authset.go:106", after := #[{ on := 0, ground := Ground.data }], guard := none } : Oper)) (v := ?hv6) rfl (by kernel_rfl) (by kernel_rfl) (by kernel_rfl) (fun _ _ _ h => h) (Or.inl ⟨by rfl, ?hy6⟩) (by assumption) ?hr6
              case hy6 => (intro w hSw; (try dsimp only at hSw); go_simp; (try with_reducible rfl))
              try simp only [Act.put, List.setIfInBounds_toArray, List.set_cons_zero, List.set_cons_succ]
              refine wpAnyH_take (i := 2) (oi := ({ dst := some 30, op := Op.move (Operand.tmp 29), type := 4, pos := "authset.go:106", after := #[{ on := 1, ground := Ground.data }], guard := none } : Oper)) (v := ?hv7) rfl (by kernel_rfl) (by kernel_rfl) (by kernel_rfl) (fun _ _ _ h => h) (Or.inl ⟨by rfl, ?hy7⟩) (by assumption) ?hr7
              case hy7 => (intro w hSw; (try dsimp only at hSw); go_simp; (try with_reducible rfl))
              try simp only [Act.put, List.setIfInBounds_toArray, List.set_cons_zero, List.set_cons_succ]
              refine wpAnyH_take (i := 3) (oi := ({ dst := some 31, op := Op.move (Operand.tmp 0), type := 44, pos := "authset.go:106", after := #[{ on := 2, ground := Ground.guard }], guard := some (2, true) } : Oper)) (v := ?hv8) rfl (by kernel_rfl) (by kernel_rfl) (by kernel_rfl) (fun _ _ _ h => h) (Or.inl ⟨by rfl, ?hy8⟩) (by assumption) ?hr8
              case hy8 => (intro w hSw; (try dsimp only at hSw); go_simp; (try with_reducible rfl))
              try simp only [Act.put, List.setIfInBounds_toArray, List.set_cons_zero, List.set_cons_succ]
              refine wpAnyH_take (i := 4) (oi := ({ dst := some 32, op := Op.move (Operand.tmp 10), type := 3, pos := "authset.go:106", after := #[{ on := 2, ground := Ground.guard }], guard := some (2, true) } : Oper)) (v := ?hv9) rfl (by kernel_rfl) (by kernel_rfl) (by kernel_rfl) (fun _ _ _ h => h) (Or.inl ⟨by rfl, ?hy9⟩) (by assumption) ?hr9
              case hy9 => (intro w hSw; (try dsimp only at hSw); go_simp; (try with_reducible rfl))
              try simp only [Act.put, List.setIfInBounds_toArray, List.set_cons_zero, List.set_cons_succ]
              refine wpAnyH_take (i := 5) (oi := ({ dst := some 33, op := Op.indexAddr 44 (Operand.tmp 31) (Operand.tmp 32), type := 0, pos := "authset.go:106", after := #[{ on := 3, ground := Ground.data }, { on := 4, ground := Ground.data }, { on := 2, ground := Ground.guard }], guard := some (2, true) } : Oper)) (v := ?hv10) rfl (by kernel_rfl) (by kernel_rfl) (by kernel_rfl) (fun _ _ _ h => h) (Or.inl ⟨by rfl, ?hy10⟩) (by assumption) ?hr10
              case hy10 => (intro w hSw; (try dsimp only at hSw); go_simp; (try with_reducible rfl))
              try simp only [Act.put, List.setIfInBounds_toArray, List.set_cons_zero, List.set_cons_succ]
              refine wpAnyH_take (i := 7) (oi := ({ dst := some 35, op := Op.load 64 (Operand.tmp 7), type := 64, pos := "authset.go:106", after := #[{ on := 2, ground := Ground.guard }], guard := some (2, true) } : Oper)) (v := .agg #[.int .i64 q.k, .string q.key, .int .i64 q.id]) rfl (by kernel_rfl) (by kernel_rfl) (by kernel_rfl) (fun _ _ _ h => h) (Or.inl ⟨by rfl, fun w0 hw0 => by obtain ⟨q0, q1, q2⟩ := HKB.out w0 hw0; go_simp⟩) (by assumption) ?_
              try simp only [Act.put, List.setIfInBounds_toArray, List.set_cons_zero, List.set_cons_succ]
              refine wpAnyH_ready (rs := [6]) (by kernel_rfl) (by simp) ?_
              refine AllReadyH.cons (o := ({ dst := some 34, op := Op.call { callee := Callee.value (Operand.func 36), args := #[Operand.tmp 33], argTypes := #[63] }, type := 64, pos := "authset.go:106", after := #[{ on := 5, ground := Ground.data }, { on := 2, ground := Ground.chain }, { on := 2, ground := Ground.guard }], guard := some (2, true) } : Oper)) rfl (fun KK hKK => ?_) AllReadyH.nil
              go_simp
              (with_reducible refine (HEv.out _ RB0.out).mono ?_)
              rintro e0 y1 ⟨rfl, hb⟩
              have RB1 := Lib.hid (RB0.out.trans (hb.mono RB0.out.size))
              clear hb
              refine hKK.out _ _ (RB1.out) (fun hH1 => ?_)
              clear hKK KK
              try simp only [Act.put, List.setIfInBounds_toArray, List.set_cons_zero, List.set_cons_succ]
              refine wpAnyH_take (i := 8) (oi := ({ dst := some 36, op := Op.binOp BinOp.eql 64 (Operand.tmp 34) (Operand.tmp 35) 64, type := 4, pos := "authset.go:106", after := #[{ on := 6, ground := Ground.data }, { on := 7, ground := Ground.data }, { on := 2, ground := Ground.guard }], guard := some (2, true) } : Oper)) (v := .bool false) rfl (by kernel_rfl) (by kernel_rfl) (by kernel_rfl) (fun _ _ _ h => h) (Or.inl ⟨by rfl, fun w0 hw0 => by go_simp; first | exact (Ky.eq_ifs (Ky.kz (E k).e3 (E k).e5) q (fun b => Result.ok (Next.value (.bool b)) w0)).trans (by rw [HD.out]) | exact fun a b c => HE0.out ((Ky.eq_iff3 (Ky.kz (E k).e3 (E k).e5) q).2 ⟨a, b, c⟩)⟩) (by assumption) ?_
              try simp only [Act.put, List.setIfInBounds_toArray, List.set_cons_zero, List.set_cons_succ]
              refine wpAnyH_take (i := 9) (oi := ({ dst := some 37, op := Op.pick (Operand.tmp 30) (Operand.tmp 36) (Operand.const (Value.bool false)), type := 4, pos := "authset.go:106", after := #[{ on := 2, ground := Ground.data }, { on := 8, ground := Ground.data }], guard := none } : Oper)) (v := ?hv11) rfl (by kernel_rfl) (by kernel_rfl) (by kernel_rfl) (fun _ _ _ h => h) (Or.inl ⟨by rfl, ?hy11⟩) (by assumption) ?hr11
              case hy11 => (intro w hSw; (try dsimp only at hSw); go_simp; (try with_reducible rfl))
              try simp only [Act.put, List.setIfInBounds_toArray, List.set_cons_zero, List.set_cons_succ]
              refine wpAnyH_done (by kernel_rfl) ?_ _
              go_wp2
              go_roundg (e.n9 - (jj + 1))
              case measure => omega
              case rel => exact ⟨jj + 1, by omega, by omega, rfl, by go_num, HJ2, Lib.hid (BQ.out.trans (RB1.out.mono BQ.out.size))⟩
        · have hl2z : ¬ (jj : Int) < (e.n9 : Int) := by omega
          have HF1 := Lib.hid (first_no (E := E) (n := n) (q := q) (ps := e.p9) (fun i hi => HJ.out i (by rw [HL9.out] at hi; omega)))
          have O9 := Lib.hid (own_keep HO.out (fun b _ hl => CQ.out.block b hl))
          have K9 := Lib.hid (HKe.out.below CQ.out)
          have R9 := Lib.hid (HR.out.below CQ.out)
          have X9 := Lib.hid (HBe.out.below CQ.out)
          have Z9 := Lib.hid (show w3.heap.size ≤ wr.heap.size ∧ OBk (w.heap.size + 1) w3.heap.size v from ⟨Nat.le_trans HZ.out.1 CQ.out.size, HZ.out.2⟩)
          have E9 := Lib.hid (show es.map dat = fromK E n e.p9 (kl.take (kk + 1)) by rw [HEs.out, HTk.out, HF1.out]; simp)
          clear q0 q1 q2 k9
          go_wp2
          go_roundg (kl.length - (kk + 1))
          case measure => omega
          case rel => exact ⟨kk + 1, nf, v, es, by omega, by omega, rfl, by go_num, by omega, HEl, O9, E9, K9, Z9, BWQ, R9, X9⟩
    · have hltz : ¬ (kk : Int) < (kl.length : Int) := by omega
      have HTa := Lib.hid (show kl.take kk = kl from List.take_of_length_le (by omega))
      go_wp2
      obtain ⟨A4, c4, hv4⟩ := own_slice HO.out
      subst hv4
      go_ret
      rw [HTa.out] at HEs
      exact evs_end HO.out HEl.out (by omega) HKe.out HEs.out BW.out
end Go.Proofs.Ytbedibiodlgegaa
