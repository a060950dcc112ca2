/- The keys of events: Keys of both; R10.Same at equal lists; Is. Bound: none beyond a slice's. -/
import Derived.Test.YtbedibiodlgegaaK6
namespace Go.Proofs.Ytbedibiodlgegaa
open Go Go.RowKit
set_option linter.unusedVariables false
set_option linter.unusedSimpArgs false

def keysE (e : Evd) : List Ky.Rc := Ky.keysL e.e3 e.e2 e.e5 e.C.n
theorem keys_len (e : Evd) : (keysE e).length ≤ 5 := by
  unfold keysE Ky.keysL
  have h0 : (Ky.base3 e.e2).length ≤ 3 := by
    unfold Ky.base3
    have := Ky.putK_len (Ky.kz 2 e.e2) (Ky.putK (Ky.kz 3 Ky.eS) (Ky.putK (Ky.kz 1 Ky.eS) []))
    have := Ky.putK_len (Ky.kz 3 Ky.eS) (Ky.putK (Ky.kz 1 Ky.eS) [])
    have := Ky.putK_len (Ky.kz 1 Ky.eS) []
    simp only [List.length_nil] at this
    omega
  have h1 := Ky.putK_len (Ky.kz 2 e.e5) (Ky.base3 e.e2)
  have h2 := Ky.putK_len (Ky.kz 4 Ky.eS) (Ky.putK (Ky.kz 2 e.e5) (Ky.base3 e.e2))
  split
  · simp
  · split
    · split <;> omega
    · omega
theorem base3_fit {sn : ByteArray} (h : sn.size ≤ 9223372036854775807) : ∀ p ∈ Ky.base3 sn, Ky.fitR p := by
  have h0 : (⟨#[]⟩ : ByteArray).size ≤ 9223372036854775807 := by decide
  exact Ky.putK_fit (show Ky.fitR (Ky.kz 2 sn) from h) (Ky.putK_fit (show Ky.fitR (Ky.kz 3 Ky.eS) from h0) (Ky.putK_fit (show Ky.fitR (Ky.kz 1 Ky.eS) from h0) (fun q hq => by simp at hq)))
/-- The block of the row: the first one, or one behind s. -/
def OBk (q0 s : Nat) (v : Value) : Prop := ∃ q, v.ownBlock = some q ∧ (q = q0 ∨ s ≤ q)
theorem obk_step {q0 s sz : Nat} {v v' : Value} (h : OBk q0 s v) (ha : v'.ownBlock = v.ownBlock ∨ v'.ownBlock = some sz) (hs : s ≤ sz) : OBk q0 s v' := by
  rcases ha with ha | ha
  · obtain ⟨q, h1, h2⟩ := h
    exact ⟨q, ha.trans h1, h2⟩
  · exact ⟨sz, ha, .inr hs⟩
theorem OBk.ne {q0 s b : Nat} {v : Value} (h : OBk q0 s v) (h1 : q0 < b) (h2 : b < s) : some b ≠ v.ownBlock := by
  obtain ⟨q, e, h3⟩ := h
  rw [e]
  intro h4
  cases h4
  omega
theorem one56b (w : World) (o : Obj) (p : Ky.Rc) : Src ((w.alloc o).alloc (.cells #[.int .i64 p.k, .string p.key, .int .i64 p.id] 56)) (some ⟨w.heap.size + 1, 0, none⟩) 1 1 3 (En.enc (toE p)) := En.blk_src (p := toE p) (blk_new2 w o (En.enc (toE p)) 56)
theorem take_snoc {l : List Ky.Rc} {k : Nat} (h : k < l.length) : clK (l.take (k + 1)) = clK (l.take k) ++ En.enc (toE (l.getD k Ky.t0)) := by
  rw [List.take_succ_eq_append_getElem h, clK_append, ← clK_one, Ky.getD_at h]
theorem ev_box {e : Evd} (w : World) : EvP (w.alloc (.cells (cellsE e).toArray 34)) w.heap.size 0 e.e3 e.e2 e.e5 e.C.n :=
  ⟨by simp, (blk_new w (cellsE e) 34).cell (i := 2) rfl, (blk_new w (cellsE e) 34).cell (i := 3) rfl, (blk_new w (cellsE e) 34).cell (i := 5) rfl, (blk_new w (cellsE e) 34).cell (i := 11) rfl⟩
set_option maxRecDepth 100000 in
set_option maxHeartbeats 8000000 in
theorem keys12 (e : Evd) (w : World) (h : Wfe e) : Calls Try.prog 12 #[.agg (cellsE e).toArray] w (EnsP w (keysE e)) := by
  show Calls Try.prog 12 #[.agg #[.int .i64 e.e0, .string e.e1, .string e.e2, .int .i64 e.e3, .bool e.e4, .string e.e5, .int .i64 e.e6, .int .i64 e.e7, .slice e.a8 e.n8 e.c8, .slice e.a9 e.n9 e.c9, .string e.C.tx, .int .i64 e.C.n, .int .i64 e.C.tg, .bool e.C.th, .string e.C.via, .slice e.a.aA e.C.nA e.a.aC, .slice e.a.dA e.C.nD e.a.dC, .slice e.a.uA e.C.lv.nU e.a.uC, .slice e.a.kA e.C.lv.nK e.a.kC, .int .i64 e.C.lv.d, .int .i64 e.C.lv.x3, .int .i64 e.C.lv.x4, .int .i64 e.C.lv.x5, .int .i64 e.C.lv.x6, .int .i64 e.C.lv.x7, .int .i64 e.C.lv.x8, .int .i64 e.e26, .string e.e27, .int .i64 e.e28]] w _
  have BA := Lib.hid (((Below.refl w.heap.size w).alloc (Nat.le_refl _) (.cells #[.int .i64 e.e0, .string e.e1, .string e.e2, .int .i64 e.e3, .bool e.e4, .string e.e5, .int .i64 e.e6, .int .i64 e.e7, .slice e.a8 e.n8 e.c8, .slice e.a9 e.n9 e.c9, .string e.C.tx, .int .i64 e.C.n, .int .i64 e.C.tg, .bool e.C.th, .string e.C.via, .slice e.a.aA e.C.nA e.a.aC, .slice e.a.dA e.C.nD e.a.dC, .slice e.a.uA e.C.lv.nU e.a.uC, .slice e.a.kA e.C.lv.nK e.a.kC, .int .i64 e.C.lv.d, .int .i64 e.C.lv.x3, .int .i64 e.C.lv.x4, .int .i64 e.C.lv.x5, .int .i64 e.C.lv.x6, .int .i64 e.C.lv.x7, .int .i64 e.C.lv.x8, .int .i64 e.e26, .string e.e27, .int .i64 e.e28] 34)).alloc (by simp) (.cells #[] 56))
  have HK := Lib.hid (keysOf29 w.heap.size 0 e.e3 e.e2 e.e5 e.C.n ((w.alloc (.cells #[.int .i64 e.e0, .string e.e1, .string e.e2, .int .i64 e.e3, .bool e.e4, .string e.e5, .int .i64 e.e6, .int .i64 e.e7, .slice e.a8 e.n8 e.c8, .slice e.a9 e.n9 e.c9, .string e.C.tx, .int .i64 e.C.n, .int .i64 e.C.tg, .bool e.C.th, .string e.C.via, .slice e.a.aA e.C.nA e.a.aC, .slice e.a.dA e.C.nD e.a.dC, .slice e.a.uA e.C.lv.nU e.a.uC, .slice e.a.kA e.C.lv.nK e.a.kC, .int .i64 e.C.lv.d, .int .i64 e.C.lv.x3, .int .i64 e.C.lv.x4, .int .i64 e.C.lv.x5, .int .i64 e.C.lv.x6, .int .i64 e.C.lv.x7, .int .i64 e.C.lv.x8, .int .i64 e.e26, .string e.e27, .int .i64 e.e28] 34)).alloc (.cells #[] 56)) ((ev_box w).below ((Below.refl _ _).alloc (Nat.le_refl _) _)) h.s2 h.s5)
  have OM : Hid (((w.alloc (.cells #[.int .i64 e.e0, .string e.e1, .string e.e2, .int .i64 e.e3, .bool e.e4, .string e.e5, .int .i64 e.e6, .int .i64 e.e7, .slice e.a8 e.n8 e.c8, .slice e.a9 e.n9 e.c9, .string e.C.tx, .int .i64 e.C.n, .int .i64 e.C.tg, .bool e.C.th, .string e.C.via, .slice e.a.aA e.C.nA e.a.aC, .slice e.a.dA e.C.nD e.a.dC, .slice e.a.uA e.C.lv.nU e.a.uC, .slice e.a.kA e.C.lv.nK e.a.kC, .int .i64 e.C.lv.d, .int .i64 e.C.lv.x3, .int .i64 e.C.lv.x4, .int .i64 e.C.lv.x5, .int .i64 e.C.lv.x6, .int .i64 e.C.lv.x7, .int .i64 e.C.lv.x8, .int .i64 e.e26, .string e.e27, .int .i64 e.e28] 34)).alloc (.cells #[] 56)).ownsRow w.heap.size 56 3 (.slice (some ⟨w.heap.size + 1, 0, none⟩) 0 0) 0 []) := Lib.hid (by
    have := World.ownsRow_made (base := w.heap.size) (e := 56) (size := 3) (w.alloc (.cells #[.int .i64 e.e0, .string e.e1, .string e.e2, .int .i64 e.e3, .bool e.e4, .string e.e5, .int .i64 e.e6, .int .i64 e.e7, .slice e.a8 e.n8 e.c8, .slice e.a9 e.n9 e.c9, .string e.C.tx, .int .i64 e.C.n, .int .i64 e.C.tg, .bool e.C.th, .string e.C.via, .slice e.a.aA e.C.nA e.a.aC, .slice e.a.dA e.C.nD e.a.dC, .slice e.a.uA e.C.lv.nU e.a.uC, .slice e.a.kA e.C.lv.nK e.a.kC, .int .i64 e.C.lv.d, .int .i64 e.C.lv.x3, .int .i64 e.C.lv.x4, .int .i64 e.C.lv.x5, .int .i64 e.C.lv.x6, .int .i64 e.C.lv.x7, .int .i64 e.C.lv.x8, .int .i64 e.e26, .string e.e27, .int .i64 e.e28] 34)) #[] 0 (by simp) (by decide) (by simp)
    rw [World.size_alloc] at this
    exact this)
  have HL := Lib.hid (keys_len e)
  obtain ⟨i0, hi, hz0, hz1, hz2⟩ := info_parts info56
  have HI := Lib.hid (And.intro hi (And.intro hz0 (And.intro hz1 hz2)))
  unfold KeysP at HK
  rw [show Ky.keysL e.e3 e.e2 e.e5 e.C.n = keysE e from rfl] at HK
  generalize keysE e = kl at HK HL ⊢
  clear h hi hz0 hz1 hz2
  go_enter Try.func12, Try.ntmps12
  go_wp2_with (first
    | (go_at_call 29; (with_reducible refine HK.out.mono ?_); rintro e1 w3 ⟨A3, c3, rfl, hr, hb, hf3⟩; have R3 := Lib.hid hr; have HF3 := Lib.hid (show ∀ b off, A3 = some ⟨b, off, none⟩ → w.heap.size + 1 < b from fun b off e => by have := hf3 b off e; simp only [World.size_alloc] at this; omega); have O3 := Lib.hid (own_keep OM.out (fun b _ hl => hb.block b hl)); have B3 := Lib.hid (BA.out.trans (hb.mono BA.out.size)); clear hr hb hf3)
    | go_in)
  have hll := HL.out
  go_loopg [3, 5, 9] kl.length (fun gg s3 _ s9 wr => ∃ (kk : Nat) (v : Value), kk ≤ kl.length ∧ kl.length - kk ≤ gg ∧ v = s3 ∧ s9 = .int .i64 (kk : Int) ∧ Hid (wr.ownsRow w.heap.size 56 3 v kk (clK (kl.take kk))) ∧ Hid (w3.heap.size ≤ wr.heap.size ∧ OBk (w.heap.size + 1) w3.heap.size v) ∧ Hid (Below w.heap.size w wr) ∧ Hid (Ky.Rcs wr A3 kl.length c3 kl))
  case atStart => exact ⟨0, _, Nat.zero_le _, by omega, rfl, rfl, O3, Lib.hid ⟨Nat.le_refl _, _, rfl, .inl rfl⟩, B3, R3⟩
  case round =>
    obtain ⟨kk, v, hkk, hg, rfl, rfl, HO, HZ, BW, HR⟩ := hrel
    by_cases hlt : kk < kl.length
    · have hltz : (kk : Int) < (kl.length : Int) := by omega
      have hk0 : (0 : Int) ≤ (kk : Int) := by omega
      obtain ⟨b0, off0, e0, hb0, _⟩ := R3.out.get hlt
      obtain ⟨b3, off3, e3, hl3, hr, _⟩ := HR.out.get hlt
      have HNE := Lib.hid (HZ.out.2.ne (HF3.out b0 off0 e0) hb0)
      have HTk := Lib.hid (take_snoc hlt)
      rw [e0] at e3
      simp only [Option.some.injEq, Addr.mk.injEq, and_true] at e3
      obtain ⟨rfl, rfl⟩ := e3
      have hzz := HZ.out.1
      generalize kl.getD kk Ky.t0 = q at hr HTk
      have q0 : wr.cell? ⟨b0, off0 + kk * 3, none⟩ = some (.int .i64 q.k) := hr 0 _ rfl
      have q1 : wr.cell? ⟨b0, off0 + kk * 3 + 1, none⟩ = some (.string q.key) := hr 1 _ rfl
      have q2 : wr.cell? ⟨b0, off0 + kk * 3 + 2, none⟩ = some (.int .i64 q.id) := hr 2 _ rfl
      clear hr
      subst e0
      go_wp2_with (first
        | (at_builtin; refine wpList_append_any _ rfl _ _ 37 rfl w.heap.size 56 i0 _ 3 32 Try.underlying37 HI.out.1 HI.out.2.1 HI.out.2.2.1 HI.out.2.2.2 rfl (by decide) _ kk (clK (kl.take kk)) rfl ((HO.out.alloc _).alloc _) _ 1 1 (En.enc (toE q)) rfl (one56b _ _ q) (by unfold maxLen; omega) (by omega) ((BW.out.alloc BW.out.size _).alloc (BW.out.alloc BW.out.size _).size _).size ?_; intro v4 w4 hgr; have B4 := Lib.hid (hgr.below ((BW.out.alloc BW.out.size _).alloc (BW.out.alloc BW.out.size _).size _) ((HO.out.alloc _).alloc _)); have O4 := Lib.hid hgr.own; have R4 := Lib.hid (((HR.out.below ((Below.refl _ _).alloc (Nat.le_refl _) _)).below ((Below.refl _ _).alloc (Nat.le_refl _) _)).grew hgr.grow (fun b off e => by cases e; exact HNE.out)); have Z4 := Lib.hid (show w3.heap.size ≤ w4.heap.size ∧ OBk (w.heap.size + 1) w3.heap.size v4 from ⟨by have := hgr.grow.size; simp only [World.size_alloc] at this; omega, obk_step HZ.out.2 hgr.at_ (by simp only [World.size_alloc]; omega)⟩); clear hgr)
        | go_in)
      go_roundg (kl.length - (kk + 1))
      case measure => omega
      case rel => exact ⟨kk + 1, v4, by omega, by omega, rfl, by go_num, Lib.hid (by rw [HTk.out]; exact O4.out), Z4, B4, R4⟩
    · have hltz : ¬ (kk : Int) < (kl.length : Int) := by omega
      have HTa := Lib.hid (show kl.take kk = kl from List.take_of_length_le (by omega))
      have HKe := Lib.hid (show kl.length = kk by omega)
      have HFk := Lib.hid (show ∀ p ∈ kl, Ky.fitR p from HR.out.fit)
      go_wp2
      obtain ⟨A4, c4, hv4, _⟩ := Q.own_slice HO.out
      subst hv4
      go_ret
      rw [HTa.out] at HO
      exact ensP_own HO.out HKe.out (by omega) HFk.out BW.out
set_option maxRecDepth 100000 in
set_option maxHeartbeats 8000000 in
theorem rkeys13 (e : Evd) (w : World) (h : Wfe e) : Calls Try.prog 13 #[.agg (cellsE e).toArray] w (EnsP w (keysE e)) := by
  show Calls Try.prog 13 #[.agg #[.int .i64 e.e0, .string e.e1, .string e.e2, .int .i64 e.e3, .bool e.e4, .string e.e5, .int .i64 e.e6, .int .i64 e.e7, .slice e.a8 e.n8 e.c8, .slice e.a9 e.n9 e.c9, .string e.C.tx, .int .i64 e.C.n, .int .i64 e.C.tg, .bool e.C.th, .string e.C.via, .slice e.a.aA e.C.nA e.a.aC, .slice e.a.dA e.C.nD e.a.dC, .slice e.a.uA e.C.lv.nU e.a.uC, .slice e.a.kA e.C.lv.nK e.a.kC, .int .i64 e.C.lv.d, .int .i64 e.C.lv.x3, .int .i64 e.C.lv.x4, .int .i64 e.C.lv.x5, .int .i64 e.C.lv.x6, .int .i64 e.C.lv.x7, .int .i64 e.C.lv.x8, .int .i64 e.e26, .string e.e27, .int .i64 e.e28]] w _
  have BA := Lib.hid ((Below.refl w.heap.size w).alloc (Nat.le_refl _) (.cells #[.int .i64 e.e0, .string e.e1, .string e.e2, .int .i64 e.e3, .bool e.e4, .string e.e5, .int .i64 e.e6, .int .i64 e.e7, .slice e.a8 e.n8 e.c8, .slice e.a9 e.n9 e.c9, .string e.C.tx, .int .i64 e.C.n, .int .i64 e.C.tg, .bool e.C.th, .string e.C.via, .slice e.a.aA e.C.nA e.a.aC, .slice e.a.dA e.C.nD e.a.dC, .slice e.a.uA e.C.lv.nU e.a.uC, .slice e.a.kA e.C.lv.nK e.a.kC, .int .i64 e.C.lv.d, .int .i64 e.C.lv.x3, .int .i64 e.C.lv.x4, .int .i64 e.C.lv.x5, .int .i64 e.C.lv.x6, .int .i64 e.C.lv.x7, .int .i64 e.C.lv.x8, .int .i64 e.e26, .string e.e27, .int .i64 e.e28] 34))
  have XA := Lib.hid (show Blk (w.alloc (.cells #[.int .i64 e.e0, .string e.e1, .string e.e2, .int .i64 e.e3, .bool e.e4, .string e.e5, .int .i64 e.e6, .int .i64 e.e7, .slice e.a8 e.n8 e.c8, .slice e.a9 e.n9 e.c9, .string e.C.tx, .int .i64 e.C.n, .int .i64 e.C.tg, .bool e.C.th, .string e.C.via, .slice e.a.aA e.C.nA e.a.aC, .slice e.a.dA e.C.nD e.a.dC, .slice e.a.uA e.C.lv.nU e.a.uC, .slice e.a.kA e.C.lv.nK e.a.kC, .int .i64 e.C.lv.d, .int .i64 e.C.lv.x3, .int .i64 e.C.lv.x4, .int .i64 e.C.lv.x5, .int .i64 e.C.lv.x6, .int .i64 e.C.lv.x7, .int .i64 e.C.lv.x8, .int .i64 e.e26, .string e.e27, .int .i64 e.e28] 34)) w.heap.size (cellsE e) 34 from blk_new w (cellsE e) 34)
  have h0 : (⟨#[]⟩ : ByteArray).size ≤ 9223372036854775807 := by decide
  have HP := Lib.hid (fun A n c l k ks v (x : EnR v A n c l) (hn : n < 1000000) (hs : ks.size ≤ 9223372036854775807) => put30 A n c l k ks v x hn hs)
  have L1 := Lib.hid (Ky.putK_len ⟨1, ⟨#[]⟩, 0⟩ [])
  have L2 := Lib.hid (Ky.putK_len ⟨3, ⟨#[]⟩, 0⟩ (Ky.putK ⟨1, ⟨#[]⟩, 0⟩ []))
  have L3 := Lib.hid (Ky.putK_len ⟨2, e.e2, 0⟩ (Ky.putK ⟨3, ⟨#[]⟩, 0⟩ (Ky.putK ⟨1, ⟨#[]⟩, 0⟩ [])))
  have L4 := Lib.hid (Ky.putK_len ⟨2, e.e5, 0⟩ (Ky.putK ⟨2, e.e2, 0⟩ (Ky.putK ⟨3, ⟨#[]⟩, 0⟩ (Ky.putK ⟨1, ⟨#[]⟩, 0⟩ []))))
  have HN := Lib.hid (show EnR (w.alloc (.cells #[.int .i64 e.e0, .string e.e1, .string e.e2, .int .i64 e.e3, .bool e.e4, .string e.e5, .int .i64 e.e6, .int .i64 e.e7, .slice e.a8 e.n8 e.c8, .slice e.a9 e.n9 e.c9, .string e.C.tx, .int .i64 e.C.n, .int .i64 e.C.tg, .bool e.C.th, .string e.C.via, .slice e.a.aA e.C.nA e.a.aC, .slice e.a.dA e.C.nD e.a.dC, .slice e.a.uA e.C.lv.nU e.a.uC, .slice e.a.kA e.C.lv.nK e.a.kC, .int .i64 e.C.lv.d, .int .i64 e.C.lv.x3, .int .i64 e.C.lv.x4, .int .i64 e.C.lv.x5, .int .i64 e.C.lv.x6, .int .i64 e.C.lv.x7, .int .i64 e.C.lv.x8, .int .i64 e.e26, .string e.e27, .int .i64 e.e28] 34)) none 0 0 [] from En.Rcs.nil _)
  have H2 := Lib.hid h.s2
  have H5 := Lib.hid h.s5
  have HKe := Lib.hid (show keysE e = Ky.keysL e.e3 e.e2 e.e5 e.C.n from rfl)
  unfold EnsP at HP ⊢
  generalize keysE e = kl at HKe ⊢
  clear h
  have hc3 := XA.out.cell (i := 3) (v := .int .i64 e.e3) rfl
  by_cases h1 : e.e3 = 1
  · have HKn := Lib.hid (show kl = [] by rw [HKe.out]; unfold Ky.keysL; rw [if_pos h1])
    have z1 : (e.e3 == 1) = true := beq_iff_eq.2 h1
    clear h1
    go_enter Try.func13, Try.ntmps13
    go_wp2
    go_ret
    rw [HKn.out]
    exact ⟨none, 0, rfl, En.Rcs.nil _, BA.out⟩
  · have z1 : (e.e3 == 1) = false := beq_eq_false_iff_ne.2 h1
    by_cases h2 : e.e3 = 2
    · have z2 : (e.e3 == 2) = true := beq_iff_eq.2 h2
      by_cases h3 : e.C.n = 3 ∨ e.C.n = 1 ∨ e.C.n = 2
      · have HKn := Lib.hid (show kl = Ky.putK (Ky.kz 4 Ky.eS) (Ky.putK (Ky.kz 2 e.e5) (Ky.base3 e.e2)) by rw [HKe.out]; unfold Ky.keysL; rw [if_neg h1, if_pos h2, if_pos h3])
        clear h1 h2
        rcases h3 with h3 | h3 | h3
        · have nv : (e.C.n == 3) = true := by simp; omega
          clear h3
          go_enter Try.func13, Try.ntmps13
          go_wp2_with (first
            | (go_at_call 30; (with_reducible refine (HP.out _ _ _ _ 4 ⟨#[]⟩ _ R4.out (by have := L4.out; have := L3.out; have := L2.out; have := L1.out; simp only [List.length_nil] at this; omega) h0).mono ?_); rintro e1 w5 ⟨A5, c5, rfl, hr, hb⟩; have R5 := Lib.hid hr; have B5 := Lib.hid (B4.out.trans (hb.mono B4.out.size)); have X5 := Lib.hid (X4.out.below hb);  clear hr hb)
            | (go_at_call 30; (with_reducible refine (HP.out _ _ _ _ 2 e.e5 _ R3.out (by have := L3.out; have := L2.out; have := L1.out; simp only [List.length_nil] at this; omega) H5.out).mono ?_); rintro e1 w4 ⟨A4, c4, rfl, hr, hb⟩; have R4 := Lib.hid hr; have B4 := Lib.hid (B3.out.trans (hb.mono B3.out.size)); have X4 := Lib.hid (X3.out.below hb); have c11 := X4.out.cell (i := 11) (v := .int .i64 e.C.n) rfl; clear hr hb)
            | (go_at_call 30; (with_reducible refine (HP.out _ _ _ _ 2 e.e2 _ R2.out (by have := L2.out; have := L1.out; simp only [List.length_nil] at this; omega) H2.out).mono ?_); rintro e1 w3 ⟨A3, c3, rfl, hr, hb⟩; have R3 := Lib.hid hr; have B3 := Lib.hid (B2.out.trans (hb.mono B2.out.size)); have X3 := Lib.hid (X2.out.below hb); have c3 := X3.out.cell (i := 3) (v := .int .i64 e.e3) rfl; have c5 := X3.out.cell (i := 5) (v := .string e.e5) rfl; clear hr hb)
            | (go_at_call 30; (with_reducible refine (HP.out _ _ _ _ 3 ⟨#[]⟩ _ R1.out (by have := L1.out; simp only [List.length_nil] at this; omega) h0).mono ?_); rintro e1 w2 ⟨A2, c2, rfl, hr, hb⟩; have R2 := Lib.hid hr; have B2 := Lib.hid (B1.out.trans (hb.mono B1.out.size)); have X2 := Lib.hid (X1.out.below hb); have c2 := X2.out.cell (i := 2) (v := .string e.e2) rfl; clear hr hb)
            | (go_at_call 30; (with_reducible refine (HP.out _ _ _ _ 1 ⟨#[]⟩ _ HN.out (by omega) h0).mono ?_); rintro e1 w1 ⟨A1, c1, rfl, hr, hb⟩; have R1 := Lib.hid hr; have B1 := Lib.hid (BA.out.trans (hb.mono BA.out.size)); have X1 := Lib.hid (XA.out.below hb);  clear hr hb)
            | go_in)
          go_ret
          rw [HKn.out]
          exact ⟨_, _, rfl, R5.out, B5.out⟩
        · have n1 : (e.C.n == 3) = false := by simp; omega
          have nv : (e.C.n == 1) = true := by simp; omega
          clear h3
          go_enter Try.func13, Try.ntmps13
          go_wp2_with (first
            | (go_at_call 30; (with_reducible refine (HP.out _ _ _ _ 4 ⟨#[]⟩ _ R4.out (by have := L4.out; have := L3.out; have := L2.out; have := L1.out; simp only [List.length_nil] at this; omega) h0).mono ?_); rintro e1 w5 ⟨A5, c5, rfl, hr, hb⟩; have R5 := Lib.hid hr; have B5 := Lib.hid (B4.out.trans (hb.mono B4.out.size)); have X5 := Lib.hid (X4.out.below hb);  clear hr hb)
            | (go_at_call 30; (with_reducible refine (HP.out _ _ _ _ 2 e.e5 _ R3.out (by have := L3.out; have := L2.out; have := L1.out; simp only [List.length_nil] at this; omega) H5.out).mono ?_); rintro e1 w4 ⟨A4, c4, rfl, hr, hb⟩; have R4 := Lib.hid hr; have B4 := Lib.hid (B3.out.trans (hb.mono B3.out.size)); have X4 := Lib.hid (X3.out.below hb); have c11 := X4.out.cell (i := 11) (v := .int .i64 e.C.n) rfl; clear hr hb)
            | (go_at_call 30; (with_reducible refine (HP.out _ _ _ _ 2 e.e2 _ R2.out (by have := L2.out; have := L1.out; simp only [List.length_nil] at this; omega) H2.out).mono ?_); rintro e1 w3 ⟨A3, c3, rfl, hr, hb⟩; have R3 := Lib.hid hr; have B3 := Lib.hid (B2.out.trans (hb.mono B2.out.size)); have X3 := Lib.hid (X2.out.below hb); have c3 := X3.out.cell (i := 3) (v := .int .i64 e.e3) rfl; have c5 := X3.out.cell (i := 5) (v := .string e.e5) rfl; clear hr hb)
            | (go_at_call 30; (with_reducible refine (HP.out _ _ _ _ 3 ⟨#[]⟩ _ R1.out (by have := L1.out; simp only [List.length_nil] at this; omega) h0).mono ?_); rintro e1 w2 ⟨A2, c2, rfl, hr, hb⟩; have R2 := Lib.hid hr; have B2 := Lib.hid (B1.out.trans (hb.mono B1.out.size)); have X2 := Lib.hid (X1.out.below hb); have c2 := X2.out.cell (i := 2) (v := .string e.e2) rfl; clear hr hb)
            | (go_at_call 30; (with_reducible refine (HP.out _ _ _ _ 1 ⟨#[]⟩ _ HN.out (by omega) h0).mono ?_); rintro e1 w1 ⟨A1, c1, rfl, hr, hb⟩; have R1 := Lib.hid hr; have B1 := Lib.hid (BA.out.trans (hb.mono BA.out.size)); have X1 := Lib.hid (XA.out.below hb);  clear hr hb)
            | go_in)
          go_ret
          rw [HKn.out]
          exact ⟨_, _, rfl, R5.out, B5.out⟩
        · have n1 : (e.C.n == 3) = false := by simp; omega
          have n2 : (e.C.n == 1) = false := by simp; omega
          have nv : (e.C.n == 2) = true := by simp; omega
          clear h3
          go_enter Try.func13, Try.ntmps13
          go_wp2_with (first
            | (go_at_call 30; (with_reducible refine (HP.out _ _ _ _ 4 ⟨#[]⟩ _ R4.out (by have := L4.out; have := L3.out; have := L2.out; have := L1.out; simp only [List.length_nil] at this; omega) h0).mono ?_); rintro e1 w5 ⟨A5, c5, rfl, hr, hb⟩; have R5 := Lib.hid hr; have B5 := Lib.hid (B4.out.trans (hb.mono B4.out.size)); have X5 := Lib.hid (X4.out.below hb);  clear hr hb)
            | (go_at_call 30; (with_reducible refine (HP.out _ _ _ _ 2 e.e5 _ R3.out (by have := L3.out; have := L2.out; have := L1.out; simp only [List.length_nil] at this; omega) H5.out).mono ?_); rintro e1 w4 ⟨A4, c4, rfl, hr, hb⟩; have R4 := Lib.hid hr; have B4 := Lib.hid (B3.out.trans (hb.mono B3.out.size)); have X4 := Lib.hid (X3.out.below hb); have c11 := X4.out.cell (i := 11) (v := .int .i64 e.C.n) rfl; clear hr hb)
            | (go_at_call 30; (with_reducible refine (HP.out _ _ _ _ 2 e.e2 _ R2.out (by have := L2.out; have := L1.out; simp only [List.length_nil] at this; omega) H2.out).mono ?_); rintro e1 w3 ⟨A3, c3, rfl, hr, hb⟩; have R3 := Lib.hid hr; have B3 := Lib.hid (B2.out.trans (hb.mono B2.out.size)); have X3 := Lib.hid (X2.out.below hb); have c3 := X3.out.cell (i := 3) (v := .int .i64 e.e3) rfl; have c5 := X3.out.cell (i := 5) (v := .string e.e5) rfl; clear hr hb)
            | (go_at_call 30; (with_reducible refine (HP.out _ _ _ _ 3 ⟨#[]⟩ _ R1.out (by have := L1.out; simp only [List.length_nil] at this; omega) h0).mono ?_); rintro e1 w2 ⟨A2, c2, rfl, hr, hb⟩; have R2 := Lib.hid hr; have B2 := Lib.hid (B1.out.trans (hb.mono B1.out.size)); have X2 := Lib.hid (X1.out.below hb); have c2 := X2.out.cell (i := 2) (v := .string e.e2) rfl; clear hr hb)
            | (go_at_call 30; (with_reducible refine (HP.out _ _ _ _ 1 ⟨#[]⟩ _ HN.out (by omega) h0).mono ?_); rintro e1 w1 ⟨A1, c1, rfl, hr, hb⟩; have R1 := Lib.hid hr; have B1 := Lib.hid (BA.out.trans (hb.mono BA.out.size)); have X1 := Lib.hid (XA.out.below hb);  clear hr hb)
            | go_in)
          go_ret
          rw [HKn.out]
          exact ⟨_, _, rfl, R5.out, B5.out⟩
      · have HKn := Lib.hid (show kl = Ky.putK (Ky.kz 2 e.e5) (Ky.base3 e.e2) by rw [HKe.out]; unfold Ky.keysL; rw [if_neg h1, if_pos h2, if_neg h3])
        have n1 : (e.C.n == 3) = false := by simp; omega
        have n2 : (e.C.n == 1) = false := by simp; omega
        have n3 : (e.C.n == 2) = false := by simp; omega
        clear h1 h2 h3
        go_enter Try.func13, Try.ntmps13
        go_wp2_with (first
          | (go_at_call 30; (with_reducible refine (HP.out _ _ _ _ 2 e.e5 _ R3.out (by have := L3.out; have := L2.out; have := L1.out; simp only [List.length_nil] at this; omega) H5.out).mono ?_); rintro e1 w4 ⟨A4, c4, rfl, hr, hb⟩; have R4 := Lib.hid hr; have B4 := Lib.hid (B3.out.trans (hb.mono B3.out.size)); have X4 := Lib.hid (X3.out.below hb); have c11 := X4.out.cell (i := 11) (v := .int .i64 e.C.n) rfl; clear hr hb)
          | (go_at_call 30; (with_reducible refine (HP.out _ _ _ _ 2 e.e2 _ R2.out (by have := L2.out; have := L1.out; simp only [List.length_nil] at this; omega) H2.out).mono ?_); rintro e1 w3 ⟨A3, c3, rfl, hr, hb⟩; have R3 := Lib.hid hr; have B3 := Lib.hid (B2.out.trans (hb.mono B2.out.size)); have X3 := Lib.hid (X2.out.below hb); have c3 := X3.out.cell (i := 3) (v := .int .i64 e.e3) rfl; have c5 := X3.out.cell (i := 5) (v := .string e.e5) rfl; clear hr hb)
          | (go_at_call 30; (with_reducible refine (HP.out _ _ _ _ 3 ⟨#[]⟩ _ R1.out (by have := L1.out; simp only [List.length_nil] at this; omega) h0).mono ?_); rintro e1 w2 ⟨A2, c2, rfl, hr, hb⟩; have R2 := Lib.hid hr; have B2 := Lib.hid (B1.out.trans (hb.mono B1.out.size)); have X2 := Lib.hid (X1.out.below hb); have c2 := X2.out.cell (i := 2) (v := .string e.e2) rfl; clear hr hb)
          | (go_at_call 30; (with_reducible refine (HP.out _ _ _ _ 1 ⟨#[]⟩ _ HN.out (by omega) h0).mono ?_); rintro e1 w1 ⟨A1, c1, rfl, hr, hb⟩; have R1 := Lib.hid hr; have B1 := Lib.hid (BA.out.trans (hb.mono BA.out.size)); have X1 := Lib.hid (XA.out.below hb);  clear hr hb)
          | go_in)
        go_ret
        rw [HKn.out]
        exact ⟨_, _, rfl, R4.out, B4.out⟩
    · have HKn := Lib.hid (show kl = Ky.base3 e.e2 by rw [HKe.out]; unfold Ky.keysL; rw [if_neg h1, if_neg h2])
      have z2 : (e.e3 == 2) = false := beq_eq_false_iff_ne.2 h2
      clear h1 h2
      go_enter Try.func13, Try.ntmps13
      go_wp2_with (first
        | (go_at_call 30; (with_reducible refine (HP.out _ _ _ _ 2 e.e2 _ R2.out (by have := L2.out; have := L1.out; simp only [List.length_nil] at this; omega) H2.out).mono ?_); rintro e1 w3 ⟨A3, c3, rfl, hr, hb⟩; have R3 := Lib.hid hr; have B3 := Lib.hid (B2.out.trans (hb.mono B2.out.size)); have X3 := Lib.hid (X2.out.below hb); have c3 := X3.out.cell (i := 3) (v := .int .i64 e.e3) rfl; have c5 := X3.out.cell (i := 5) (v := .string e.e5) rfl; clear hr hb)
        | (go_at_call 30; (with_reducible refine (HP.out _ _ _ _ 3 ⟨#[]⟩ _ R1.out (by have := L1.out; simp only [List.length_nil] at this; omega) h0).mono ?_); rintro e1 w2 ⟨A2, c2, rfl, hr, hb⟩; have R2 := Lib.hid hr; have B2 := Lib.hid (B1.out.trans (hb.mono B1.out.size)); have X2 := Lib.hid (X1.out.below hb); have c2 := X2.out.cell (i := 2) (v := .string e.e2) rfl; clear hr hb)
        | (go_at_call 30; (with_reducible refine (HP.out _ _ _ _ 1 ⟨#[]⟩ _ HN.out (by omega) h0).mono ?_); rintro e1 w1 ⟨A1, c1, rfl, hr, hb⟩; have R1 := Lib.hid hr; have B1 := Lib.hid (BA.out.trans (hb.mono BA.out.size)); have X1 := Lib.hid (XA.out.below hb);  clear hr hb)
        | go_in)
      go_ret
      rw [HKn.out]
      exact ⟨_, _, rfl, R3.out, B3.out⟩
end Go.Proofs.Ytbedibiodlgegaa
